/- The secret of a handshake, digests of messages and finished messages in the specification (l11Secret, l11Digest, l11Finished), written by tools/shk_v.py. What was there stays. -/
import Derived.Test.YtiabacnmmojfjaaGreatDoorJoint21
import Derived.Test.YtiabacnmmojfjaaGreatDoorJoint22
import Derived.Test.YtiabacnmmojfjaaGreatDoorJoint16
import Derived.Test.YtiabacnmmojfjaaGreatDoorJoint7
import Derived.Test.YtiabacnmmojfjaaGreatDoorJoint6
import Derived.Test.YtiabacnmmojfjaaGreatDoorJoint14
import Derived.Test.YtiabacnmmojfjaaGreatDoorJoint20
import Derived.Test.YtiabacnmmojfjaaGreatDoorJoint12
import Derived.Test.YtiabacnmmojfjaaGreatDoorJoint10
import Derived.Test.YtiabacnmmojfjaaGreatDoorJoint11
namespace Go.Proofs.YtiabacnmmojfjaaGreatDoor
open Go.ChangeShapes Go.WideShapes Go.ChangeAt Go.RowKit
theorem RdL.take {α : Type} {c : Cod α} {w : World} {p : Option Addr} {q : Nat} {l : List α} (h : RdL c w p q l) (n : Nat) : RdL c w p q (l.take n) := by
  obtain ⟨h1, h2, h3, h4⟩ := h
  refine ⟨by rw [List.length_take]; omega, h2, h3, fun hp => ?_⟩
  obtain ⟨b, o, rfl, hc⟩ := h4 (by rw [List.length_take] at hp; omega)
  refine ⟨b, o, rfl, fun i a hi => hc i a ?_⟩
  have hlt := (List.getElem?_eq_some_iff.1 hi).1
  rw [List.length_take] at hlt
  rw [List.getElem?_take_of_lt (by omega)] at hi
  exact hi
theorem RdL.drop {α : Type} {c : Cod α} {w : World} {b o q : Nat} {l : List α} (h : RdL c w (some ⟨b, o, none⟩) q l) (n : Nat) (hn : n ≤ l.length) : RdL c w (some ⟨b, o + n * c.n, none⟩) (q - n) (l.drop n) := by
  obtain ⟨h1, h2, h3, h4⟩ := h
  refine ⟨by rw [List.length_drop]; omega, by omega, (fun e => by cases e), fun hp => ⟨b, o + n * c.n, rfl, fun i a hi => ?_⟩⟩
  obtain ⟨b', o', e, hc⟩ := h4 (by rw [List.length_drop] at hp; omega)
  cases e
  rw [List.getElem?_drop] at hi
  obtain ⟨us, hr, hu⟩ := hc (n + i) a hi
  refine ⟨us, hr, fun j u hj => ?_⟩
  have := hu j u hj
  rw [show o + n * c.n + i * c.n + j = o + (n + i) * c.n + j by rw [Nat.add_mul]; omega]
  exact this
set_option maxRecDepth 4000 in
set_option maxHeartbeats 2000000 in
theorem l11Secret_c (b o : Nat) (s : SideD) (shr mode : Int) (p p2 : Option Addr) (q q2 : Nat) (w : World) (hA : AtS w b o p q p2 q2 s) (hr : Rd w p2 q2 s.2.2.2) (hs : sfC s = 0) (h1 : 1 ≤ shr) (h2 : shr ≤ 65520) :
    Calls Tryz.prog 64 #[.pointer (some ⟨b, o, none⟩), .int .i64 shr, .int .i64 mode] w fun e w' => ∃ u, e = .returned u ∧ Own w' w.heap.size u (secN s shr mode) ∧ Below w.heap.size w w' := by
  have hp := sf_parts hs
  have HK : Hid (s.2.2.2.length ≤ 32) := by show _ ≤ _; rw [hp.2.2.2.2.2]; unfold keyW; split <;> decide
  have KP : Hid (∀ w, Calls Tryz.prog 123 #[.int .i64 shr, .int .i64 s.1] w fun x w' => x = .returned (.int .i64 ((powN shr.toNat s.1.toNat : Nat) : Int)) ∧ Below w.heap.size w w') := fun w => by
    have h := l8Power_c shr.toNat s.1.toNat w (by omega) (by omega)
    rw [show ((s.1.toNat : Nat) : Int) = s.1 by omega, show ((shr.toNat : Nat) : Int) = shr by omega] at h
    exact h.mono fun _ _ ⟨h1, h2⟩ => ⟨h1, by rw [h2]; exact Below.refl _ _⟩
  have KU : Hid (∀ w, Calls Tryz.prog 122 #[.int .i64 ((powN shr.toNat s.1.toNat : Nat) : Int), .int .i64 2] w fun e w' => ∃ u, e = .returned u ∧ Own w' w.heap.size u (putB (powN shr.toNat s.1.toNat) 2) ∧ Below w.heap.size w w') := fun w => by
    have h := l1Put_c (powN shr.toNat s.1.toNat) 2 w (by have := powN_lt shr.toNat s.1.toNat; omega) (by decide)
    exact h
  have HS : Hid (secN s shr mode = handN (earlyN (if mode = 2 then s.2.2.2 else [])) (putB (powN shr.toNat s.1.toNat) 2)) := rfl
  have HR : Hid (Rd w p2 q2 s.2.2.2) := hr
  have BW := alloc_below w (.cells #[] 5)
  have hA2 := hA.keep BW
  obtain ⟨c1, -, -, c3⟩ := hA2
  have hz : Hid (w.heap.size ≤ (w.alloc (.cells #[] 5)).heap.size) := BW.size
  clear hr hA hs hp h1 h2
  generalize powN shr.toNat s.1.toNat = P at *
  by_cases hm : mode = 2
  · have dm : (mode == 2) = true := by rw [beq_iff_eq]; exact hm
    rw [HS.out, if_pos hm]
    clear hm HS
    obtain ⟨K, HKE⟩ : ∃ K, Hid (K = s.2.2.2) := ⟨_, rfl⟩
    rw [← HKE.out] at HR HK c3
    rw [← HKE.out]
    have RK : Rd (w.alloc (.cells #[] 5)) p2 q2 K := HR.out.keep BW
    obtain ⟨pk, HPK⟩ : ∃ x, Hid (x = p2) := ⟨_, rfl⟩
    obtain ⟨qk, HQK⟩ : ∃ x, Hid (x = q2) := ⟨_, rfl⟩
    rw [← HPK.out, ← HQK.out] at RK c3
    have KE : Hid (∀ W, Rd W pk qk K → Calls Tryz.prog 121 #[.slice pk K.length qk] W fun e w' => ∃ u, e = .returned u ∧ Own w' W.heap.size u (earlyN K) ∧ Below W.heap.size W w') := fun W h => by
      have h2 := l7Early_c pk qk K W h (by have := HK.out; omega)
      skip
      exact h2
    go_enter Tryz.func64, Tryz.ntmps64
    go_wp2_with fail
    obtain ⟨V, HV⟩ : ∃ V, Hid (V = w.alloc (.cells #[] 5)) := ⟨_, rfl⟩
    rw [← HV.out] at BW RK c1 hz ⊢
    clear HV
    apply share
    case h =>
      intro JN
      have BB := Below.refl V.heap.size V
      have hne := HW.some V
      have g0 := HW.at (c1)
      refine wp_region_pick [0, 2, 3, 4, 5, 6] 10 4 1 rfl rfl rfl (by kernel_rfl) (by kernel_rfl) (by kernel_rfl) (by kernel_rfl) ?_
      simp only [opsAt, List.getElem?_toArray, List.getElem?_cons_zero, List.getElem?_cons_succ]
      repeat (go_big_quiet_step (fail))
      refine wpQuiet_nil ?_
      clear g0
      refine wpM_only (i := 1) (by kernel_rfl) ?_
      refine mOp_call rfl (by go_simp) 121 _ #[.slice pk K.length qk] (fun w => by go_simp) rfl ?_
      rintro _ ⟨sg, rfl⟩
      refine (KE.out _ (RK.keep (Below.step BB sg.h))).mono ?_
      rintro e wg1 ⟨ua, rfl, ka, hbx⟩
      obtain ⟨pa, qa, rfl, -⟩ := ka.rd
      have hbg := Below.step sg.h hbx
      refine ⟨_, rfl, ⟨⟨wg1, hbx⟩, rfl⟩, ?_⟩
      have Ra := Rd.own ka
      replace BB := Below.step BB hbg
      clear hbg hbx sg ka
      replace hne := HW.some wg1
      refine wpM_only (i := 7) (by kernel_rfl) ?_
      refine mOp_call rfl (by go_simp) 123 _ #[.int .i64 shr, .int .i64 s.1] (fun w => by go_simp) rfl ?_
      rintro _ ⟨sg, rfl⟩
      refine (KP.out _).mono ?_
      rintro e wg2 ⟨rfl, hbx⟩
      have hbg := Below.step sg.h hbx
      refine ⟨_, rfl, ⟨⟨wg2, hbx⟩, rfl⟩, ?_⟩
      replace Ra := Ra.keep hbg
      replace BB := Below.step BB hbg
      clear hbg hbx sg
      replace hne := HW.some wg2
      refine wpM_only (i := 8) (by kernel_rfl) ?_
      refine mOp_call rfl (by go_simp) 122 _ #[.int .i64 (P : Int), .int .i64 2] (fun w => by go_simp) rfl ?_
      rintro _ ⟨sg, rfl⟩
      refine (KU.out _).mono ?_
      rintro e wg3 ⟨ub, rfl, kb, hbx⟩
      obtain ⟨pb, qb, rfl, -⟩ := kb.rd
      have hbg := Below.step sg.h hbx
      refine ⟨_, rfl, ⟨⟨wg3, hbx⟩, rfl⟩, ?_⟩
      have Rb := Rd.own kb
      replace Ra := Ra.keep hbg
      replace BB := Below.step BB hbg
      clear hbg hbx sg kb
      replace hne := HW.some wg3
      refine wpM_only (i := 9) (by kernel_rfl) ?_
      refine mOp_call rfl (by go_simp) 120 _ #[.slice pa (earlyN K).length qa, .slice pb (putB P 2).length qb] (fun w => by go_simp) rfl ?_
      rintro _ ⟨sg, rfl⟩
      refine (l7Handshake_c pa pb qa qb (earlyN K) (putB P 2) _ (Ra.keep sg.h) (Rb.keep sg.h) (by rw [earlyN_len]; decide) (by rw [putB_len]; decide)).mono ?_
      rintro e wg4 ⟨uc, rfl, kc, hbx⟩
      obtain ⟨pc, qc, rfl, -⟩ := kc.rd
      have hbg := Below.step sg.h hbx
      refine ⟨_, rfl, ⟨⟨wg4, hbx⟩, rfl⟩, ?_⟩
      have Kc := kc.lower ((Below.step BB sg.h)).size
      replace Ra := Ra.keep hbg
      replace Rb := Rb.keep hbg
      replace BB := Below.step BB hbg
      clear hbg hbx sg kc
      replace hne := HW.some wg4
      refine wpM_end (by kernel_rfl) rfl (by kernel_rfl) (by decide) ?_
      rintro _ ⟨sz, rfl⟩
      simp only [List.drop_succ_cons, List.drop_zero]
      go_simp
      replace Ra := Ra.keep sz.h
      replace Rb := Rb.keep sz.h
      replace Kc := Kc.stay sz.h
      replace BB := Below.step BB sz.h
      clear hne
      generalize sz.w = W at *
      clear sz
      revert Kc
      revert Rb
      revert Ra
      revert BB
      revert qc
      revert pc
      revert qb
      revert pb
      revert qa
      revert pa
      revert W
      exact JN.out
    intro W pa qa pb qb pc qc BB Ra Rb Kc
    clear c1
    go_wp2
    go_ret
    exact ⟨_, rfl, Kc.lower hz.out, Below.step BW BB⟩
  · have dm : (mode == 2) = false := by rw [beq_eq_false_iff_ne]; exact hm
    rw [HS.out, if_neg hm]
    clear hm HS c3
    have RK : Rd (w.alloc (.cells #[] 5)) (some ⟨w.heap.size, 0, none⟩) 0 ([] : List UInt8) := ⟨Nat.le_refl _, by unfold maxLen; decide, (fun e => by cases e), fun h => by simp at h⟩
    obtain ⟨K, HKE⟩ : ∃ K : List UInt8, Hid (K = []) := ⟨_, rfl⟩
    have HK : Hid (K.length ≤ 32) := by show _ ≤ _; rw [HKE.out]; decide
    rw [← HKE.out] at RK ⊢
    have KE : Hid (∀ W, Rd W (some ⟨w.heap.size, 0, none⟩) 0 K → Calls Tryz.prog 121 #[.slice (some ⟨w.heap.size, 0, none⟩) 0 0] W fun e w' => ∃ u, e = .returned u ∧ Own w' W.heap.size u (earlyN K) ∧ Below W.heap.size W w') := fun W h => by
      have h2 := l7Early_c (some ⟨w.heap.size, 0, none⟩) 0 K W h (by have := HK.out; omega)
      rw [HKE.out] at h2 ⊢
      exact h2
    go_enter Tryz.func64, Tryz.ntmps64
    go_wp2_with fail
    obtain ⟨V, HV⟩ : ∃ V, Hid (V = w.alloc (.cells #[] 5)) := ⟨_, rfl⟩
    rw [← HV.out] at BW RK c1 hz ⊢
    clear HV
    apply share
    case h =>
      intro JN
      have BB := Below.refl V.heap.size V
      have hne := HW.some V
      have g0 := HW.at (c1)
      refine wp_region_pick [0, 2, 3, 4, 5, 6] 10 4 1 rfl rfl rfl (by kernel_rfl) (by kernel_rfl) (by kernel_rfl) (by kernel_rfl) ?_
      simp only [opsAt, List.getElem?_toArray, List.getElem?_cons_zero, List.getElem?_cons_succ]
      repeat (go_big_quiet_step (fail))
      refine wpQuiet_nil ?_
      clear g0
      refine wpM_only (i := 1) (by kernel_rfl) ?_
      refine mOp_call rfl (by go_simp) 121 _ #[.slice (some ⟨w.heap.size, 0, none⟩) 0 0] (fun w => by go_simp) rfl ?_
      rintro _ ⟨sg, rfl⟩
      refine (KE.out _ (RK.keep (Below.step BB sg.h))).mono ?_
      rintro e wg1 ⟨ua, rfl, ka, hbx⟩
      obtain ⟨pa, qa, rfl, -⟩ := ka.rd
      have hbg := Below.step sg.h hbx
      refine ⟨_, rfl, ⟨⟨wg1, hbx⟩, rfl⟩, ?_⟩
      have Ra := Rd.own ka
      replace BB := Below.step BB hbg
      clear hbg hbx sg ka
      replace hne := HW.some wg1
      refine wpM_only (i := 7) (by kernel_rfl) ?_
      refine mOp_call rfl (by go_simp) 123 _ #[.int .i64 shr, .int .i64 s.1] (fun w => by go_simp) rfl ?_
      rintro _ ⟨sg, rfl⟩
      refine (KP.out _).mono ?_
      rintro e wg2 ⟨rfl, hbx⟩
      have hbg := Below.step sg.h hbx
      refine ⟨_, rfl, ⟨⟨wg2, hbx⟩, rfl⟩, ?_⟩
      replace Ra := Ra.keep hbg
      replace BB := Below.step BB hbg
      clear hbg hbx sg
      replace hne := HW.some wg2
      refine wpM_only (i := 8) (by kernel_rfl) ?_
      refine mOp_call rfl (by go_simp) 122 _ #[.int .i64 (P : Int), .int .i64 2] (fun w => by go_simp) rfl ?_
      rintro _ ⟨sg, rfl⟩
      refine (KU.out _).mono ?_
      rintro e wg3 ⟨ub, rfl, kb, hbx⟩
      obtain ⟨pb, qb, rfl, -⟩ := kb.rd
      have hbg := Below.step sg.h hbx
      refine ⟨_, rfl, ⟨⟨wg3, hbx⟩, rfl⟩, ?_⟩
      have Rb := Rd.own kb
      replace Ra := Ra.keep hbg
      replace BB := Below.step BB hbg
      clear hbg hbx sg kb
      replace hne := HW.some wg3
      refine wpM_only (i := 9) (by kernel_rfl) ?_
      refine mOp_call rfl (by go_simp) 120 _ #[.slice pa (earlyN K).length qa, .slice pb (putB P 2).length qb] (fun w => by go_simp) rfl ?_
      rintro _ ⟨sg, rfl⟩
      refine (l7Handshake_c pa pb qa qb (earlyN K) (putB P 2) _ (Ra.keep sg.h) (Rb.keep sg.h) (by rw [earlyN_len]; decide) (by rw [putB_len]; decide)).mono ?_
      rintro e wg4 ⟨uc, rfl, kc, hbx⟩
      obtain ⟨pc, qc, rfl, -⟩ := kc.rd
      have hbg := Below.step sg.h hbx
      refine ⟨_, rfl, ⟨⟨wg4, hbx⟩, rfl⟩, ?_⟩
      have Kc := kc.lower ((Below.step BB sg.h)).size
      replace Ra := Ra.keep hbg
      replace Rb := Rb.keep hbg
      replace BB := Below.step BB hbg
      clear hbg hbx sg kc
      replace hne := HW.some wg4
      refine wpM_end (by kernel_rfl) rfl (by kernel_rfl) (by decide) ?_
      rintro _ ⟨sz, rfl⟩
      simp only [List.drop_succ_cons, List.drop_zero]
      go_simp
      replace Ra := Ra.keep sz.h
      replace Rb := Rb.keep sz.h
      replace Kc := Kc.stay sz.h
      replace BB := Below.step BB sz.h
      clear hne
      generalize sz.w = W at *
      clear sz
      revert Kc
      revert Rb
      revert Ra
      revert BB
      revert qc
      revert pc
      revert qb
      revert pb
      revert qa
      revert pa
      revert W
      exact JN.out
    intro W pa qa pb qb pc qc BB Ra Rb Kc
    clear c1
    go_wp2
    go_ret
    exact ⟨_, rfl, Kc.lower hz.out, Below.step BW BB⟩
set_option maxRecDepth 4000 in
theorem l11Digest_c (l : List MsgD) (p : Option Addr) (q : Nat) (w : World) (hr : RdL msgC w p q l) (hl : (packAll l).length ≤ 600) :
    Calls Tryz.prog 68 #[.slice p l.length q] w fun e w' => ∃ u, e = .returned u ∧ Own w' w.heap.size u (digM l) ∧ Below w.heap.size w w' := by
  have hb := packAll_bulk l
  have K := l6PackAll_c l p q w hr (fun a ha => by
    obtain ⟨i, hi⟩ := List.getElem?_of_mem ha
    have := bulkM_at hi
    omega) (by omega)
  have HD : Hid (digM l = digestN (packAll l)) := rfl
  rw [HD.out]
  have HL : Hid ((packAll l).length ≤ 600) := hl
  clear hr hl hb
  generalize packAll l = bs at *
  go_enter Tryz.func68, Tryz.ntmps68
  go_wp2_with fail
  refine K.mono ?_
  rintro e w1 ⟨u1, rfl, k1, hb1⟩
  obtain ⟨a1, c1, rfl, -⟩ := k1.rd
  go_wp2_with fail
  refine (l2Digest_c a1 c1 bs _ (Rd.own k1) HL.out).mono ?_
  rintro e w2 ⟨u2, rfl, k2, hb2⟩
  go_wp2
  go_ret
  exact ⟨_, rfl, k2.lower hb1.size, Below.step hb1 hb2⟩
theorem packAll_take_le (l : List MsgD) (n : Nat) (h : (packAll l).length ≤ 600) : (packAll (l.take n)).length ≤ 600 := Nat.le_trans (packAll_le l n) h
set_option maxRecDepth 4000 in
set_option maxHeartbeats 1000000 in
theorem l11Finished_c (sec lab : List UInt8) (l : List MsgD) (p p2 : Option Addr) (q q2 : Nat) (w : World) (hs : Rd w p q sec) (hr : RdL msgC w p2 q2 l) (h32 : sec.length = 32) (hlab : lab.length ≤ 40) (hl : (packAll l).length ≤ 600) (h2 : 2 ≤ l.length) :
    Calls Tryz.prog 69 #[.slice p sec.length q, .string (strB lab), .slice p2 l.length q2] w fun e w' => ∃ u, e = .returned (.agg #[.int .i64 20, u]) ∧ Own w' w.heap.size u (finM sec lab l).2 ∧ Below w.heap.size w w' := by
  have HS : Hid (Rd w p q sec) := hs
  have HR : Hid (RdL msgC w p2 q2 l) := hr
  have H32 : Hid (sec.length = 32) := h32
  have HLab : Hid (lab.length ≤ 40) := hlab
  have HL : Hid ((packAll l).length ≤ 600) := hl
  have hq1 : l.length ≤ q2 := hr.1
  have hq2 : q2 ≤ 2 ^ 63 - 1 := hr.2.1
  have h2I : (2 : Int) ≤ (l.length : Int) := by omega
  have H2 : Hid ((l.take 2).length = 2) := by show _ = _; rw [List.length_take]; omega
  have BW := alloc_below w (.cells #[.int .i64 0, .slice none 0 0] 46)
  have R := Arr.new w [.int .i64 0, .slice none 0 0] 46
  have hz0 : Hid ((w.alloc (.cells #[.int .i64 0, .slice none 0 0] 46)).heap.size = w.heap.size + 1) := size_alloc _ _
  have K1 := l11Digest_c (l.take 2) p2 q2 _ ((HR.out.take 2).keep BW) (packAll_take_le l 2 hl)
  rw [H2.out] at K1
  have HF : Hid ((finM sec lab l).2 = finN (trafN sec lab (digM (l.take 2))) (digM l)) := rfl
  rw [HF.out]
  have HD2 : Hid ((digM (l.take 2)).length = 32) := digM_len _
  have HD : Hid ((digM l).length = 32) := digM_len _
  clear hs hr h32 hlab hl h2
  generalize digM (l.take 2) = d2 at *
  go_enter Tryz.func69, Tryz.ntmps69
  go_wp2_with fail
  refine K1.mono ?_
  rintro e w1 ⟨u1, rfl, k1, hb1⟩
  obtain ⟨a1, c1, rfl, -⟩ := k1.rd
  replace BW := Below.step BW hb1
  replace R := R.stay hb1
  have hz1 : Hid (w.heap.size + 1 ≤ w1.heap.size) := by have h := hb1.size; rw [hz0.out] at h; exact h
  clear hb1 K1
  go_wp2_with fail
  refine (l7Traffic_c p a1 q c1 sec lab d2 _ (HS.out.keep BW) (Rd.own k1) (by have := H32.out; omega) HLab.out (by have := HD2.out; omega)).mono ?_
  rintro e w2 ⟨u2, rfl, k2, hb2⟩
  obtain ⟨a2, c2, rfl, -⟩ := k2.rd
  replace BW := Below.step BW hb2
  replace R := R.stay hb2
  have hz2 : Hid (w1.heap.size ≤ w2.heap.size) := hb2.size
  have HT : Hid ((trafN sec lab d2).length = 32) := trafN_len _ _ _
  clear hb2 k1
  go_wp2_with fail
  refine (l11Digest_c l p2 q2 _ (HR.out.keep BW) HL.out).mono ?_
  rintro e w3 ⟨u3, rfl, k3, hb3⟩
  obtain ⟨a3, c3, rfl, -⟩ := k3.rd
  replace BW := Below.step BW hb3
  replace R := R.stay hb3
  replace k2 := k2.stay hb3
  have hz3 : Hid (w2.heap.size ≤ w3.heap.size) := hb3.size
  clear hb3
  go_wp2_with fail
  refine (l5Finish_c a2 a3 c2 c3 (trafN sec lab d2) (digM l) _ (Rd.own k2) (Rd.own k3) (by have := HT.out; omega) (by have := HD.out; omega)).mono ?_
  rintro e w4 ⟨u4, rfl, k4, hb4⟩
  obtain ⟨a4, c4, rfl, -⟩ := k4.rd
  replace BW := Below.step BW hb4
  replace R := R.stay hb4
  replace k4 := k4.lower (show w.heap.size + 1 ≤ w3.heap.size by have := hz1.out; have := hz2.out; have := hz3.out; omega)
  have t0 := (R.cell 0).trans (show _ = some _ from rfl)
  have t1 := (R.cell 1).trans (show _ = some _ from rfl)
  have ft := R.frozen
  clear hb4 R k2 k3
  go_wp2_with fail
  exact bodyPost_ret (v := .agg #[.int .i64 20, .slice a4 (finN (trafN sec lab d2) (digM l)).length c4]) (by simp [results, Tryz.results69, go_sem, t0, t1]) rfl ⟨_, rfl, ((k4.set (Nat.lt_succ_self _) _).set (Nat.lt_succ_self _) _).lower (Nat.le_succ _), (BW.setCell (Nat.le_refl _) _).setCell (Nat.le_refl _) _⟩
end Go.Proofs.YtiabacnmmojfjaaGreatDoor
/- TranscriptOf, FinishedMsg, CheckFinished of the specification, at every argument. What was there stays. -/
namespace Go.Proofs.YtiabacnmmojfjaaGreatDoor
open Go.ChangeShapes Go.WideShapes Go.ChangeAt Go.RowKit
theorem fmD_bad {s : List UInt8} {l : List MsgD} (h : ¬ fmC s l = 0) : fmD s l = (fmC s l, 0, []) := by rw [fmD, if_neg h]
theorem fmD_ok {s : List UInt8} {l : List MsgD} (h : fmC s l = 0) : fmD s l = (0, 20, fmL s l) := by rw [fmD, if_pos h]
end Go.Proofs.YtiabacnmmojfjaaGreatDoor
/- The contract of SecretsOf in the specification, its answer as one datum (SecretsResultC). -/
namespace Go.Proofs.YtiabacnmmojfjaaGreatDoor
open Go.ChangeShapes Go.WideShapes Go.ChangeAt Go.RowKit
end Go.Proofs.YtiabacnmmojfjaaGreatDoor
