/- The contracts of sealing in the specification: spec.l5Tag, spec.l5Seal, spec.l5Open, spec.l5Fault, and TagOf, SealBytes, OpenBytes at every argument. What was there stays. -/
import Derived.Test.YtdemfbbjdnjolaaGreatDoorJoint11
import Derived.Test.YtdemfbbjdnjolaaGreatDoorJoint8
import Derived.Test.YtdemfbbjdnjolaaGreatDoorJoint14
import Derived.Test.YtdemfbbjdnjolaaGreatDoorJoint15
import Derived.Test.YtdemfbbjdnjolaaGreatDoorOdd
namespace Go.Proofs.YtdemfbbjdnjolaaGreatDoor
open Go.ChangeShapes Go.WideShapes Go.ChangeAt Go.RowKit

set_option maxRecDepth 4000 in
set_option maxHeartbeats 1000000 in
theorem l5Tag_c (p p2 p3 p4 : Option Addr) (q q2 q3 q4 : Nat) (key nonce extra sealed : List UInt8) (w : World) (hr : Rd w p q key) (hr2 : Rd w p2 q2 nonce) (hr3 : Rd w p3 q3 extra) (hr4 : Rd w p4 q4 sealed) (hk : key.length ≤ 64) (hn : nonce.length ≤ 12) (he : extra.length ≤ 60) (hs : sealed.length ≤ 300) :
    Calls Tryz.prog 63 #[.slice p key.length q, .slice p2 nonce.length q2, .slice p3 extra.length q3, .slice p4 sealed.length q4] w fun e w' => ∃ a c, e = .returned (.slice a 16 c) ∧ Own w' w.heap.size (.slice a 16 c) (tagN key nonce extra sealed) ∧ Below w.heap.size w w' := by
  have HR : Hid (Rd w p q key) := hr
  have HR2 : Hid (Rd w p2 q2 nonce) := hr2
  have HR3 : Hid (Rd w p3 q3 extra) := hr3
  have HR4 : Hid (Rd w p4 q4 sealed) := hr4
  have HE : Hid (tagN key nonce extra sealed = (macN key (nonce ++ [UInt8.ofNat extra.length] ++ extra ++ sealed)).take 16) := rfl
  clear hr hr2 hr3 hr4
  go_enter Tryz.func63, Tryz.ntmps63
  go_wp2_with fail
  have Wb := alloc_below w (.cells #[.int .u8 (extra.length : Int)] 5)
  have r1 : Rd (w.alloc (.cells #[.int .u8 (extra.length : Int)] 5)) (some ⟨w.heap.size, 0, none⟩) 1 [UInt8.ofNat extra.length] := rd_one w _ _ _ (by rw [UInt8.toNat_ofNat', Nat.mod_eq_of_lt (by omega)])
  have KJ := l1Join_c [⟨p2, q2, nonce⟩, ⟨some ⟨w.heap.size, 0, none⟩, 1, [UInt8.ofNat extra.length]⟩, ⟨p3, q3, extra⟩, ⟨p4, q4, sealed⟩] (w.alloc (.cells #[.int .u8 (extra.length : Int)] 5)).heap.size 0 4 _
    (pcs_four (w.alloc (.cells #[.int .u8 (extra.length : Int)] 5)) ⟨p2, q2, nonce⟩ ⟨some ⟨w.heap.size, 0, none⟩, 1, [UInt8.ofNat extra.length]⟩ ⟨p3, q3, extra⟩ ⟨p4, q4, sealed⟩ 22 (HR2.out.keep Wb) r1 (HR3.out.keep Wb) (HR4.out.keep Wb))
    (by rw [flat_four]; simp; omega) (by simp)
  rw [flat_four, size_alloc] at KJ
  refine KJ.mono ?_
  rintro e w1 ⟨u1, rfl, k1, hb1⟩
  replace hb1 := Below.res (Below.res hb1)
  obtain ⟨a1, c1, rfl, rd1⟩ := k1.rd
  have HJL : Hid ((nonce ++ [UInt8.ofNat extra.length] ++ extra ++ sealed).length ≤ 536) := by show _ ≤ _; simp; omega
  obtain ⟨js, hjs⟩ : ∃ js, Hid (js = nonce ++ [UInt8.ofNat extra.length] ++ extra ++ sealed) := ⟨_, rfl⟩
  simp only at rd1
  rw [← hjs.out] at rd1 HE HJL
  rw [show nonce ++ [UInt8.ofNat extra.length] ++ extra ++ sealed = js from hjs.out.symm]
  have hz := hb1.size
  clear k1 KJ r1 Wb
  go_wp2_with fail
  refine (l3Mac_c p a1 q c1 key js _ (HR.out.keep hb1) rd1 hk HJL.out).mono ?_
  rintro e w2 ⟨u2, rfl, k2, hb2⟩
  obtain ⟨a2, c2, rfl, rd2⟩ := k2.rd
  have HML : Hid ((macN key js).length = 32) := macN_len _ _
  have kc := k2.cut 16 (by rw [HML.out]; decide)
  rw [← HE.out] at kc
  have hc2 : 32 ≤ c2 := by have := rd2.1; rw [HML.out] at this; exact this
  have hc3 : c2 ≤ 2 ^ 63 - 1 := rd2.2.1
  rw [HML.out]
  replace hb1 := Below.step hb1 hb2
  clear k2 rd2 rd1 hb2
  go_wp2
  go_ret
  exact ⟨_, _, rfl, kc.lower hz, hb1⟩

def sealC (key nonce extra : List UInt8) : Int := if strC key nonce 0 = 0 then (if extra.length ≤ 60 then 0 else 2) else 1
theorem sealC_zero {key nonce extra : List UInt8} (h : sealC key nonce extra = 0) : key.length = 32 ∧ nonce.length = 12 ∧ extra.length ≤ 60 ∧ strC key nonce 0 = 0 := by
  unfold sealC at h
  split at h
  · rename_i h1
    split at h
    · rename_i h2
      exact ⟨(strC_zero h1).1, (strC_zero h1).2.1, h2, h1⟩
    · cases h
  · cases h

set_option maxRecDepth 4000 in
set_option maxHeartbeats 1000000 in
theorem l5Seal_c (p p2 p3 p4 : Option Addr) (q q2 q3 q4 : Nat) (key nonce extra plain : List UInt8) (w : World) (hr : Rd w p q key) (hr2 : Rd w p2 q2 nonce) (hr3 : Rd w p3 q3 extra) (hr4 : Rd w p4 q4 plain) (hk : key.length = 32) (hn : nonce.length = 12) (he : extra.length ≤ 60) (hs : plain.length ≤ 220) :
    Calls Tryz.prog 40 #[.slice p key.length q, .slice p2 nonce.length q2, .slice p3 extra.length q3, .slice p4 plain.length q4] w fun e w' => ∃ u, e = .returned u ∧ Own w' w.heap.size u (sealN key nonce extra plain) ∧ Below w.heap.size w w' := by
  have KX : Hid (∀ w, Rd w p q key → Rd w p2 q2 nonce → Rd w p4 q4 plain → Calls Tryz.prog 62 #[.slice p key.length q, .slice p2 nonce.length q2, .slice p4 plain.length q4] w fun e w' => ∃ u, e = .returned u ∧ Own w' w.heap.size u (hideN key nonce plain) ∧ Below w.heap.size w w') := fun w a b c => by rw [hk, hn]; exact l4Xor_c p p2 p4 q q2 q4 key nonce plain w a b c hk hn (by omega)
  have KT : Hid (∀ (w : World) (a : Option Addr) (c : Nat) (xs : List UInt8), xs.length = plain.length → Rd w p q key → Rd w p2 q2 nonce → Rd w p3 q3 extra → Rd w a c xs → Calls Tryz.prog 63 #[.slice p key.length q, .slice p2 nonce.length q2, .slice p3 extra.length q3, .slice a xs.length c] w fun e w' => ∃ a c, e = .returned (.slice a 16 c) ∧ Own w' w.heap.size (.slice a 16 c) (tagN key nonce extra xs) ∧ Below w.heap.size w w') := fun w a c xs hl h1 h2 h3 h4 => l5Tag_c p p2 p3 a q q2 q3 c key nonce extra xs w h1 h2 h3 h4 (by omega) (by omega) he (by omega)
  have HE : Hid (sealN key nonce extra plain = hideN key nonce plain ++ tagN key nonce extra (hideN key nonce plain)) := rfl
  have HL : Hid ((hideN key nonce plain).length = plain.length) := hideN_len _ _ _
  have HS : Hid (plain.length ≤ 220) := hs
  clear hk hn he hs
  go_enter Tryz.func40, Tryz.ntmps40
  go_wp2_with fail
  refine (KX.out _ hr hr2 hr4).mono ?_
  rintro e w1 ⟨u1, rfl, k1, hb1⟩
  obtain ⟨a1, c1, rfl, rd1⟩ := k1.rd
  obtain ⟨hs1, hhs⟩ : ∃ x, Hid (x = hideN key nonce plain) := ⟨_, rfl⟩
  rw [← hhs.out] at k1 rd1 HE HL ⊢
  have hz1 := hb1.size
  go_wp2_with fail
  refine (KT.out _ a1 c1 hs1 HL.out (hr.keep hb1) (hr2.keep hb1) (hr3.keep hb1) rd1).mono ?_
  rintro e w2 ⟨a2, c2, rfl, k2, hb2⟩
  have HT : Hid ((tagN key nonce extra hs1).length = 16) := tagN_len _ _ _ _
  have rd2 := Rd.own k2
  replace k1 := k1.stay hb2
  have BW := Below.step hb1 hb2
  clear hb1 hb2 k2 rd1
  generalize tagN key nonce extra hs1 = tg at *
  go_wp2_with (at_builtin; go_loud (refine wpList_append_rd rfl (.tmp 14) (.tmp 19) rfl w.heap.size _ hs1 rfl k1 a2 c2 tg (by rw [HT.out]; rfl) rd2 (by have := HL.out; have := HT.out; have := HS.out; omega) BW.size ?_); intro v3 w3 k3 hg3)
  have BW3 := BW.grown hg3 BW.size (fun k hk => k1.ge k hk)
  go_ret
  exact ⟨_, rfl, by rw [HE.out]; exact k3, BW3⟩

set_option maxRecDepth 4000 in
set_option maxHeartbeats 1000000 in
theorem l5Open_c (p p2 p3 p4 : Option Addr) (q q2 q3 q4 : Nat) (key nonce extra sealed : List UInt8) (w : World) (hr : Rd w p q key) (hr2 : Rd w p2 q2 nonce) (hr3 : Rd w p3 q3 extra) (hr4 : Rd w p4 q4 sealed) (hk : key.length = 32) (hn : nonce.length = 12) (he : extra.length ≤ 60) (hs : sealed.length ≤ 1048576) :
    Calls Tryz.prog 55 #[.slice p key.length q, .slice p2 nonce.length q2, .slice p3 extra.length q3, .slice p4 sealed.length q4] w fun e w' => ∃ u, e = .returned (.tuple #[u, .int .i64 (openC key nonce extra sealed)]) ∧ Own w' w.heap.size u (openL key nonce extra sealed) ∧ Below w.heap.size w w' ∧ (openC key nonce extra sealed ≠ 0 → u = .slice none 0 0) := by
  by_cases h1 : sealed.length < 16
  · have hc : openC key nonce extra sealed = 5 := by simp [openC, h1]
    rw [show openL key nonce extra sealed = [] by simp [openL, hc], hc]
    have hI : (sealed.length : Int) - 16 < 0 := by omega
    clear hc
    go_enter Tryz.func55, Tryz.ntmps55
    go_wp2
    exact bodyPost_ret (v := .tuple #[.slice none 0 0, .int .i64 5]) (by simp [results, Tryz.results55, go_sem]) rfl ⟨_, rfl, Own_nil _ _, Below.refl _ _, by first | rfl | exact fun _ => rfl⟩
  · by_cases h2 : 220 < sealed.length - 16
    · have hc : openC key nonce extra sealed = 2 := by simp [openC, h1, h2]
      rw [show openL key nonce extra sealed = [] by simp [openL, hc], hc]
      have hI : ¬ (sealed.length : Int) - 16 < 0 := by omega
      have hI2 : 220 < (sealed.length : Int) - 16 := by omega
      clear hc
      go_enter Tryz.func55, Tryz.ntmps55
      go_wp2
      exact bodyPost_ret (v := .tuple #[.slice none 0 0, .int .i64 2]) (by simp [results, Tryz.results55, go_sem]) rfl ⟨_, rfl, Own_nil _ _, Below.refl _ _, by first | rfl | exact fun _ => rfl⟩
    · obtain ⟨m, hm⟩ : ∃ m, Hid (sealed.length = m + 16) := ⟨sealed.length - 16, by show _ = _; omega⟩
      have HK : Hid (key.length = 32) := hk
      have HN : Hid (nonce.length = 12) := hn
      clear hk hn
      obtain ⟨b4, o4, rfl, -⟩ := hr4.2.2.2 (by omega)
      have hsub : (sealed.length : Int) - 16 = (m : Int) := by have := hm.out; omega
      have hm220 : (m : Int) ≤ 220 := by omega
      have hmI : (m : Int) ≤ (sealed.length : Int) := by omega
      have hq4 : sealed.length ≤ q4 := hr4.1
      have hq5 : q4 ≤ 2 ^ 63 - 1 := hr4.2.1
      have hmq : m ≤ q4 := by have := hm.out; omega
      have hmqn : ¬ q4 = m := by have := hm.out; omega
      have HLm : Hid ((sealed.take m).length = m) := by show _ = _; have := hm.out; rw [List.length_take]; omega
      have HLd : Hid ((sealed.drop m).length = 16) := by show _ = _; have := hm.out; rw [List.length_drop]; omega
      have r1 := hr4.take m
      have r2 : Rd w (some ⟨b4, o4 + m, none⟩) (q4 - m) (sealed.drop m) := by
        have h := hr4.cut m 16 (q4 - m) (by have := hm.out; omega) (by have := hm.out; omega) (by have := hr4.2.1; omega)
        rw [List.take_of_length_le (by rw [HLd.out]; exact Nat.le_refl _)] at h
        exact h
      have KT : Hid (∀ w, Rd w p q key → Rd w p2 q2 nonce → Rd w p3 q3 extra → Rd w (some ⟨b4, o4, none⟩) q4 (sealed.take m) → Calls Tryz.prog 63 #[.slice p key.length q, .slice p2 nonce.length q2, .slice p3 extra.length q3, .slice (some ⟨b4, o4, none⟩) m q4] w fun e w' => ∃ a c, e = .returned (.slice a 16 c) ∧ Own w' w.heap.size (.slice a 16 c) (tagN key nonce extra (sealed.take m)) ∧ Below w.heap.size w w') := fun w h1 h2 h3 h4 => by
        have h := l5Tag_c p p2 p3 (some ⟨b4, o4, none⟩) q q2 q3 q4 key nonce extra (sealed.take m) w h1 h2 h3 h4 (by have := HK.out; omega) (by have := HN.out; omega) he (by rw [HLm.out]; omega)
        rw [HLm.out] at h
        exact h
      have HTL : Hid ((tagN key nonce extra (sealed.take m)).length = 16) := tagN_len _ _ _ _
      have hne := HW.some w
      go_enter Tryz.func55, Tryz.ntmps55
      go_wp2_with fail
      refine wp_region_odd_seg 6 6 rfl (by kernel_rfl) (by kernel_rfl) (by kernel_rfl) (by kernel_rfl) ?_
      simp only [List.take_succ_cons, List.take_zero]
      repeat (go_big_quiet_step (fail))
      refine wpQuiet_nil ?_
      rw [upX_nil]
      refine wpG_early (x := 7) rfl (by kernel_rfl) (by kernel_rfl) (by kernel_rfl) rfl ?_
      go_simp
      repeat (go_big_quiet_step (fail))
      refine wpQuiet_nil ?_
      refine wpG_early (x := 8) rfl (by kernel_rfl) (by kernel_rfl) (by kernel_rfl) rfl ?_
      go_simp
      repeat (go_big_quiet_step (fail))
      refine wpQuiet_nil ?_
      refine wpG_early (x := 9) rfl (by kernel_rfl) (by kernel_rfl) (by kernel_rfl) rfl ?_
      go_simp
      repeat (go_big_quiet_step (fail))
      refine wpQuiet_nil ?_
      refine wpG_callX (k := 6) rfl (by kernel_rfl) (by kernel_rfl) (by go_simp) 63 _ #[.slice p key.length q, .slice p2 nonce.length q2, .slice p3 extra.length q3, .slice (some ⟨b4, o4, none⟩) m q4] (fun w => by go_simp) rfl ?_
      rintro _ ⟨s1, rfl⟩
      refine (KT.out _ (hr.keep s1.h) (hr2.keep s1.h) (hr3.keep s1.h) (r1.keep s1.h)).mono ?_
      rintro e w1 ⟨a1, c1, rfl, k1, hb1⟩
      refine ⟨_, rfl, ⟨⟨w1, hb1⟩, rfl⟩, ?_⟩
      have rt := Rd.own k1
      have BW := Below.step s1.h hb1
      rw [upX_eq (m := 10) (by kernel_rfl)]
      have KS : Hid (∀ w, Rd w a1 c1 (tagN key nonce extra (sealed.take m)) → Rd w (some ⟨b4, o4 + m, none⟩) (q4 - m) (sealed.drop m) → Calls Tryz.prog 72 #[.slice a1 16 c1, .slice (some ⟨b4, o4 + m, none⟩) (sealed.length - m) (q4 - m)] w fun e w' => e = .returned (.bool (borne key nonce extra sealed)) ∧ w' = w) := fun w h h' => by
        have g := l1Same_c a1 (some ⟨b4, o4 + m, none⟩) c1 (q4 - m) (tagN key nonce extra (sealed.take m)) (sealed.drop m) w h h'
        rw [HTL.out, List.length_drop, show sameB (tagN key nonce extra (sealed.take m)) (sealed.drop m) = borne key nonce extra sealed by unfold borne; rw [show sealed.length - 16 = m by have := hm.out; omega]; rfl] at g
        exact g
      refine wpG_call (k := 10) rfl (by kernel_rfl) (by kernel_rfl) (by go_simp) 72 _ #[.slice a1 16 c1, .slice (some ⟨b4, o4 + m, none⟩) (sealed.length - m) (q4 - m)] (fun w => by go_simp) rfl ?_
      rintro _ ⟨s2, rfl⟩
      refine (KS.out _ (rt.keep s2.h) ((r2.keep BW).keep s2.h)).mono ?_
      rintro e w2 ⟨rfl, hw2⟩
      subst hw2
      refine ⟨_, rfl, ⟨⟨s2.w, Below.refl _ _⟩, rfl⟩, ?_⟩
      replace BW := Below.step BW s2.h
      generalize s2.w = w2 at *
      clear k1 hb1 s1 s2 KS KT
      have hne2 := HW.some w2
      refine wpG_next 11 1 0 (by decide) (by kernel_rfl) (by kernel_rfl) (by kernel_rfl) ?_
      simp only [List.drop_succ_cons, List.drop_zero, List.take_succ_cons, List.take_zero]
      go_simp
      repeat (go_big_quiet_step (fail))
      refine wpQuiet_nil ?_
      refine wpG_end rfl ?_
      rintro _ ⟨s3, rfl⟩
      replace BW := Below.step BW s3.h
      have hm16 : ¬ sealed.length < 16 := h1
      cases hbo : borne key nonce extra sealed
      · have hc : openC key nonce extra sealed = 7 := by simp only [openC, if_neg hm16, if_neg h2, hbo]; rfl
        have hql : openL key nonce extra sealed = [] := by simp [openL, hc]
        have HQC : Hid (openC key nonce extra sealed = 7) := hc
        have HQL : Hid (openL key nonce extra sealed = []) := hql
        clear hc hql hbo
        go_wp2
        exact bodyPost_ret (v := .tuple #[.slice none 0 0, .int .i64 7]) (by simp [results, Tryz.results55, go_sem]) rfl ⟨_, by rw [HQC.out], by rw [HQL.out]; exact Own_nil _ _, BW, fun _ => rfl⟩
      · have hc : openC key nonce extra sealed = 0 := by simp only [openC, if_neg hm16, if_neg h2, hbo]; rfl
        have hql : openL key nonce extra sealed = hideN key nonce (sealed.take m) := by simp only [openL, hc, if_true]; rw [show sealed.length - 16 = m by have := hm.out; omega]
        have HQC : Hid (openC key nonce extra sealed = 0) := hc
        have HQL : Hid (openL key nonce extra sealed = hideN key nonce (sealed.take m)) := hql
        have KX : Hid (∀ w, Rd w p q key → Rd w p2 q2 nonce → Rd w (some ⟨b4, o4, none⟩) q4 (sealed.take m) → Calls Tryz.prog 62 #[.slice p key.length q, .slice p2 nonce.length q2, .slice (some ⟨b4, o4, none⟩) m q4] w fun e w' => ∃ u, e = .returned u ∧ Own w' w.heap.size u (hideN key nonce (sealed.take m)) ∧ Below w.heap.size w w') := fun w a b c => by
          have h := l4Xor_c p p2 (some ⟨b4, o4, none⟩) q q2 q4 key nonce (sealed.take m) w a b c HK.out HN.out (by rw [HLm.out]; omega)
          rw [HLm.out] at h
          rw [HK.out, HN.out]
          exact h
        clear hc hql hbo
        go_wp2_with fail
        refine (KX.out _ (hr.keep BW) (hr2.keep BW) (r1.keep BW)).mono ?_
        rintro e w5 ⟨u5, rfl, k5, hb5⟩
        have hz := BW.size
        replace BW := Below.step BW hb5
        go_wp2
        exact bodyPost_ret (v := .tuple #[u5, .int .i64 0]) (by simp [results, Tryz.results55, go_sem]) rfl ⟨_, by rw [HQC.out], by rw [HQL.out]; exact k5.lower hz, BW, fun h => absurd HQC.out h⟩
end Go.Proofs.YtdemfbbjdnjolaaGreatDoor

