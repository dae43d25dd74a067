/- The contract of impl.OpenBytes in the program, at every argument: code and bytes, where the two tables hold what the program's text lays (Tabs) and the library's variable holds its handle (Hnd). What was there stays. -/
import Derived.Test.YtdbpnibcblelbaaGreatDoorJoint33
import Derived.Test.YtdbpnibcblelbaaGreatDoorAsI
import Derived.ChangeKeysEq
import Derived.Test.YtdbpnibcblelbaaGreatDoorJoint28
import Derived.Test.YtdbpnibcblelbaaGreatDoorJoint21
import Derived.Test.YtdbpnibcblelbaaGreatDoorKeyI
import Derived.Test.YtdbpnibcblelbaaGreatDoorStrI
namespace Go.Proofs.YtdbpnibcblelbaaGreatDoor
open Go.ChangeShapes Go.WideShapes Go.ChangeAt Go.RowKit
theorem run_eqItems_u8 {P : Program} (w : World) (d : Nat) {e : TypeId} {k : IntKind} (he : P.underlying e = some (.int k)) (hp : P.plainKey e = true) (xs ys : List UInt8) : ∀ is : List Nat, (∀ i ∈ is, i < xs.length ∧ i < ys.length) →
    (Op.eqItems (d + 1) e 1 (xs.map u8v).toArray (ys.map u8v).toArray is).run P w = .ok (is.all fun i => at8 xs i == at8 ys i) w
  | [], _ => by simp [Op.eqItems]
  | i :: is, h => by
    have ih := run_eqItems_u8 w d he hp xs ys is (fun j hj => h j (List.mem_cons_of_mem _ hj))
    obtain ⟨h1, h2⟩ := h i List.mem_cons_self
    have p1 : (Go.part e (xs.map u8v).toArray (i * 1)).run P w = .ok (.int .u8 (at8 xs i)) w := run_part_plain w hp (by rw [Nat.mul_one, List.getElem?_toArray]; exact u8v_at h1)
    have p2 : (Go.part e (ys.map u8v).toArray (i * 1)).run P w = .ok (.int .u8 (at8 ys i)) w := run_part_plain w hp (by rw [Nat.mul_one, List.getElem?_toArray]; exact u8v_at h2)
    have p3 := run_equalIn_int (P := P) w d e .u8 k (at8 xs i) (at8 ys i) he
    simp only [Op.eqItems, Sem.run_bind, p1, p2, p3, Result.andThen_ok, List.all_cons]
    cases hb : (at8 xs i == at8 ys i)
    · simp
    · simp [ih]
theorem all_at8 {xs ys : List UInt8} {n : Nat} (hx : xs.length = n) (hy : ys.length = n) : ((List.range n).all fun i => at8 xs i == at8 ys i) = (xs == ys) := by
  rw [Bool.eq_iff_iff, List.all_eq_true, beq_iff_eq]
  constructor
  · intro h
    refine List.ext_getElem (by omega) (fun i h1 h2 => ?_)
    have h3 := h i (List.mem_range.2 (by omega))
    rw [beq_iff_eq, at8_get h1, at8_get h2] at h3
    exact UInt8.toNat_inj.1 (by omega)
  · rintro rfl i -
    simp
theorem eq_tag (xs ys : List UInt8) (hx : xs.length = 16) (hy : ys.length = 16) (w : World) : (Op.equalIn 10000 211 (.agg (xs.map u8v).toArray) (.agg (ys.map u8v).toArray)).run Tryz.prog w = .ok (xs == ys) w := by
  obtain ⟨i0, hi, hz0, hz1, hz2⟩ := info_parts info8
  rw [run_equalIn_array w 9999 _ _ Tryz.underlying211 hi, show Tryz.prog.cellsOf 5 = 1 by kernel_rfl, run_eqItems_u8 w 9998 Tryz.underlying5 (by kernel_rfl) xs ys _ (fun i hi => by have := List.mem_range.1 hi; omega), all_at8 hx hy]
set_option maxRecDepth 4000 in
set_option maxHeartbeats 1000000 in
theorem opened_c (p p2 p3 p4 : Option Addr) (q q2 q3 q4 : Nat) (key nonce extra data : List UInt8) (w : World) (hr : Rd w p q key) (hr2 : Rd w p2 q2 nonce) (hr3 : Rd w p3 q3 extra) (hr4 : Rd w p4 q4 data) (hT : Tabs w) (hk : key.length = 32) (hn : nonce.length = 12) (he : extra.length ≤ 60) (hd : 16 ≤ data.length) (hd2 : data.length ≤ 236) :
    Calls Tryz.prog 180 #[.slice p key.length q, .slice p2 nonce.length q2, .slice p3 extra.length q3, .slice p4 data.length q4] w fun e w' => ∃ u v, e = .returned (.tuple #[u, v]) ∧ (borne key nonce extra data = true → v = .nilIface ∧ Own w' w.heap.size u (hideN key nonce (data.take (data.length - 16)))) ∧ (borne key nonce extra data = false → v = .iface 218 (.agg #[]) ∧ u = .slice none 0 0) ∧ Below w.heap.size w w' := by
  have hzv : Hid (∀ w, (zeroValue 211).run Tryz.prog w = .ok (.agg z8.toArray) w) := (zero_of_info info_tag).1
  have HI : Hid ((Tryz.prog.info? 5).map (·.size) = some 1) := by obtain ⟨i0, hi, hz0, hz1, hz2⟩ := info_parts info8; show _ = _; rw [hi]; simp [hz1]
  obtain ⟨m, hm⟩ : ∃ m, data.length = m + 16 := ⟨data.length - 16, by omega⟩
  obtain ⟨ad, o, rfl, -⟩ := hr4.2.2.2 (by omega)
  have hcap := hr4.1
  have HR : Hid (Rd w p q key) := hr
  have HR2 : Hid (Rd w p2 q2 nonce) := hr2
  have HR3 : Hid (Rd w p3 q3 extra) := hr3
  have HR4 : Hid (Rd w (some ⟨ad, o, none⟩) q4 data) := hr4
  have HT : Hid (Tabs w) := hT
  obtain ⟨ct, HCT⟩ := known_of (data.take m)
  obtain ⟨gv, HGV⟩ := known_of (data.drop m)
  have HCL : Hid (ct.length = m) := by show _ = _; rw [HCT.eq, List.length_take]; omega
  have HGL : Hid (gv.length = 16) := by show _ = _; rw [HGV.eq, List.length_drop]; omega
  obtain ⟨tg, HTG⟩ := known_of (tagN key nonce extra ct)
  have HTL : Hid (tg.length = 16) := by show _ = _; rw [HTG.eq, tagN_len]
  have HBO : Hid (borne key nonce extra data = (tg == gv)) := by show _ = _; rw [HTG.eq, HGV.eq, HCT.eq]; unfold borne; rw [show data.length - 16 = m by omega]
  have HHD : Known (hideN key nonce (data.take (m + 16 - 16))) (hideN key nonce ct) := ⟨by rw [HCT.eq, Nat.add_sub_cancel]⟩
  have K : Hid (∀ w, Rd w p q key → Rd w p2 q2 nonce → Rd w p3 q3 extra → Rd w (some ⟨ad, o, none⟩) q4 ct → Tabs w → Calls Tryz.prog 178 #[.slice p key.length q, .slice p2 nonce.length q2, .slice p3 extra.length q3, .slice (some ⟨ad, o, none⟩) m q4] w fun e w' => e = .returned (.agg (tg.map u8v).toArray) ∧ Below w.heap.size w w') := fun w a b c d e => by
    have g := tagOver_c p p2 p3 (some ⟨ad, o, none⟩) q q2 q3 q4 key nonce extra ct w a b c d e (by omega) (by omega) he (by rw [HCL.out]; omega)
    rw [← HTG.eq, HCL.out] at g
    exact g
  have KH : Hid (∀ w, Rd w p q key → Rd w p2 q2 nonce → Rd w (some ⟨ad, o, none⟩) q4 ct → Calls Tryz.prog 177 #[.slice p key.length q, .slice p2 nonce.length q2, .slice (some ⟨ad, o, none⟩) m q4] w fun e w' => ∃ u, e = .returned u ∧ Own w' w.heap.size u (hideN key nonce ct) ∧ Below w.heap.size w w') := fun w a b c => by
    have g := hidden_c p p2 (some ⟨ad, o, none⟩) q q2 q4 key nonce ct w a b c hk hn (by rw [HCL.out]; omega)
    rw [HCL.out] at g
    rw [hk, hn]
    exact g
  have HC4 : Hid (Rd w (some ⟨ad, o, none⟩) q4 ct) := by rw [HCT.eq]; exact hr4.take m
  have HG4 : Hid (Rd w (some ⟨ad, o + m, none⟩) (q4 - m) gv) := by
    have h := hr4.cut m 16 (q4 - m) (by omega) (by omega) (Nat.le_trans (Nat.sub_le _ _) hr4.2.1)
    rw [List.take_of_length_le (by rw [List.length_drop]; omega)] at h
    rw [HGV.eq]; exact h
  have hmq : m < q4 := by omega
  have hmI : (m : Int) ≤ 220 := by omega
  rw [HBO.out, hm]
  clear hr hr2 hr3 hr4 hT hk hn he hd hd2 hm hcap HCT HGV HTG HBO HR4
  go_enter Tryz.func180, Tryz.ntmps180
  go_wp2_with (first
    | refine wpList_alloc_arr rfl 211 rfl _ hzv.out w.heap.size rfl ?_)
  have BW : Below w.heap.size w (w.alloc (.cells z8.toArray 211)) := alloc_below _ _
  have O : Arr (w.alloc (.cells z8.toArray 211)) w.heap.size 211 z8 := Arr.new w z8 211
  generalize w.alloc (.cells z8.toArray 211) = W at *
  have hne := HW.some W
  go_simp
  refine wp_region_pick [0, 1, 2, 3] 4 0 1 rfl rfl rfl (by kernel_rfl) (by kernel_rfl) (by kernel_rfl) (by kernel_rfl) ?_
  simp only [opsAt, List.getElem?_toArray, List.getElem?_cons_zero, List.getElem?_cons_succ]
  repeat (go_big_quiet_step (fail))
  refine wpQuiet_nil ?_
  refine wpM_end (by kernel_rfl) rfl (by kernel_rfl) (by decide) ?_
  rintro V7 hV7
  have B7 := HW.out hV7
  replace O := O.stay B7
  replace BW := Below.step BW B7
  clear B7 hV7
  simp only [List.drop_succ_cons, List.drop_zero]
  rw [z8_eq] at O
  have HG7 := HG4.out.keep BW
  have HON : Hid (∀ v ∈ gv.map u8v, v.oneCell' = true) := fun v hv => by obtain ⟨x, -, rfl⟩ := List.mem_map.1 hv; rfl
  have HAD : Hid (∃ ad', (some (⟨ad, o + m, none⟩ : Addr)) = some ad' ∧ ∀ j v, (gv.map u8v)[j]? = some v → V7.cell? (ad'.add j) = some v) := by
    have h := HG7.addr_take 16 (by rw [HGL.out]; decide)
    rw [List.take_of_length_le (by rw [HGL.out]; exact Nat.le_refl _)] at h
    exact h
  refine wpList_copy_over rfl (.tmp 19) (.tmp 22) 22 22 rfl 5 Tryz.underlying22 HI.out (some ⟨w.heap.size, 0, none⟩) (some ⟨ad, o + m, none⟩) 16 16 16 (q4 - m) rfl rfl w.heap.size 0 _ 211 O (gv.map u8v) (by rw [List.length_map, HGL.out]; decide) (fun _ => ⟨rfl, HAD.out⟩) (by rw [List.length_map, HGL.out, zs16_len]; decide) HON.out ?_
  intro V8 hO8 hg8
  have HSP : Hid (splice ((zs 16).map u8v) 0 (gv.map u8v) = gv.map u8v) := by
    have h := splice_take gv (by rw [HGL.out]; exact Nat.le_refl _)
    rw [List.take_of_length_le (by rw [HGL.out]; exact Nat.le_refl _)] at h
    exact h
  rw [HSP.out] at hO8
  replace BW := BW.grown hg8 BW.size (fun k hk => by simp at hk; omega)
  have S := hO8.out
  have HC8 := HC4.out.keep BW
  have hzn := szT gv HGL.out
  clear HAD HON hg8 hO8 O HG7 HSP
  have hne8 := HW.some V8
  go_simp
  go_wp2_with fail
  refine wp_region_pick [0, 1, 2, 3, 5] 6 1 1 rfl rfl rfl (by kernel_rfl) (by kernel_rfl) (by kernel_rfl) (by kernel_rfl) ?_
  simp only [opsAt, List.getElem?_toArray, List.getElem?_cons_zero, List.getElem?_cons_succ]
  go_big_quiet_step (fail)
  go_big_quiet_step (fail)
  go_big_quiet_step (fail)
  go_big_quiet_step (fail)
  refine wpQuiet_load_row rfl 211 (.tmp 12) rfl w.heap.size rfl 211 (gv.map u8v).toArray (0, 0) _ (fun w' h => by obtain ⟨s, rfl⟩ := h; exact S.stay s.h) Tryz.underlying211 rfl hzn ?_
  refine wpQuiet_nil ?_
  refine wpM_only (i := 4) (by kernel_rfl) ?_
  refine mOp_call rfl (by go_simp) 178 _ #[.slice p key.length q, .slice p2 nonce.length q2, .slice p3 extra.length q3, .slice (some ⟨ad, o, none⟩) m q4] (fun w => by go_simp) rfl ?_
  rintro V9 hV9
  have B9 := HW.out hV9
  replace BW := Below.step BW B9
  refine (K.out _ (HR.out.keep BW) (HR2.out.keep BW) (HR3.out.keep BW) (HC4.out.keep BW) (HT.out.keep BW)).mono ?_
  rintro e V10 ⟨rfl, hb⟩
  refine ⟨_, rfl, ⟨⟨_, hb⟩, rfl⟩, ?_⟩
  replace BW := Below.step BW hb
  clear hb B9 hV9 S
  refine wpM_end (by kernel_rfl) rfl (by kernel_rfl) (by decide) ?_
  rintro V11 hV11
  have B11 := HW.out hV11
  replace BW := Below.step BW B11
  clear B11 hV11 HC8
  simp only [List.drop_succ_cons, List.drop_zero]
  have hcmp := eq_tag tg gv HTL.out HGL.out
  cases hbv : (tg == gv)
  · rw [hbv] at hcmp
    go_wp2_with fail
    exact bodyPost_ret (v := .tuple #[.slice none 0 0, .iface 218 (.agg #[])]) (by simp [results, Tryz.results180, go_sem]) rfl ⟨_, _, rfl, fun h => (by rw [hbv] at h; cases h), fun _ => ⟨rfl, rfl⟩, BW⟩
  · rw [hbv] at hcmp
    go_wp2_with fail
    refine (KH.out _ (HR.out.keep BW) (HR2.out.keep BW) (HC4.out.keep BW)).mono ?_
    rintro e V12 ⟨u, rfl, ho, hb⟩
    have hz := BW.size
    replace BW := Below.step BW hb
    obtain ⟨a, cap, rfl, -⟩ := ho.rd
    go_wp2_with fail
    exact bodyPost_ret (v := .tuple #[.slice a (hideN key nonce ct).length cap, .nilIface]) (by simp [results, Tryz.results180, go_sem]) rfl ⟨_, _, rfl, fun _ => ⟨rfl, by rw [HHD.eq]; exact ho.lower hz⟩, fun h => (by rw [hbv] at h; cases h), BW⟩
theorem ofC_op {key nonce extra data : List UInt8} (h : ofC key nonce extra data = 0) : sealC key nonce extra = 0 ∧ 16 ≤ data.length ∧ data.length ≤ 236 ∧ opC key nonce extra data = (if borne key nonce extra data then 0 else 7) := by
  unfold ofC at h
  split at h
  · rename_i h1
    split at h
    · cases h
    · rename_i h2
      split at h
      · cases h
      · rename_i h3
        refine ⟨h1, by omega, by omega, ?_⟩
        unfold opC openC
        rw [if_pos h1, if_neg h2, if_neg h3]
  · rename_i h1
    exact absurd h h1
theorem ofC_not {key nonce extra data : List UInt8} (h : ofC key nonce extra data ≠ 0) : opC key nonce extra data = ofC key nonce extra data := by
  unfold ofC at h ⊢
  unfold opC openC
  split at h
  · rename_i h1
    rw [if_pos h1, if_pos h1]
    split at h
    · rename_i h2
      rw [if_pos h2, if_pos h2]
    · rename_i h2
      split at h
      · rename_i h3
        rw [if_neg h2, if_pos h3, if_neg h2, if_pos h3]
      · exact absurd rfl h
  · rename_i h1
    rw [if_neg h1, if_neg h1]
set_option maxRecDepth 4000 in
set_option maxHeartbeats 1000000 in
theorem implOp_c (p p2 p3 p4 : Option Addr) (q q2 q3 q4 : Nat) (key nonce extra data : List UInt8) (w : World) (hr : Rd w p q key) (hr2 : Rd w p2 q2 nonce) (hr3 : Rd w p3 q3 extra) (hr4 : Rd w p4 q4 data) (_hl : data.length ≤ 1048576) (hT : Tabs w) (hH : Hnd w) :
    Calls Tryz.prog 116 #[.slice p key.length q, .slice p2 nonce.length q2, .slice p3 extra.length q3, .slice p4 data.length q4] w fun e w' => ∃ u, e = .returned (.agg #[.int .i64 (opC key nonce extra data), u]) ∧ Own w' w.heap.size u (opL key nonce extra data) ∧ Below w.heap.size w w' := by
  have K0 := fun w => openFault_c p p2 p3 p4 q q2 q3 q4 key nonce extra data w (Nat.le_trans hr4.1 hr4.2.1)
  by_cases hc : ofC key nonce extra data = 0
  · rw [hc] at K0
    obtain ⟨hs, hd, hd2, hop⟩ := ofC_op hc
    obtain ⟨h1, h2, h3, -⟩ := sealC_zero hs
    have K : Hid (∀ w, Rd w p q key → Rd w p2 q2 nonce → Rd w p3 q3 extra → Rd w p4 q4 data → Tabs w → Calls Tryz.prog 180 #[.slice p key.length q, .slice p2 nonce.length q2, .slice p3 extra.length q3, .slice p4 data.length q4] w fun e w' => ∃ u v, e = .returned (.tuple #[u, v]) ∧ (borne key nonce extra data = true → v = .nilIface ∧ Own w' w.heap.size u (hideN key nonce (data.take (data.length - 16)))) ∧ (borne key nonce extra data = false → v = .iface 218 (.agg #[]) ∧ u = .slice none 0 0) ∧ Below w.heap.size w w') := fun w a b c d e => opened_c p p2 p3 p4 q q2 q3 q4 key nonce extra data w a b c d e h1 h2 h3 hd hd2
    have HR : Hid (Rd w p q key) := hr
    have HR2 : Hid (Rd w p2 q2 nonce) := hr2
    have HR3 : Hid (Rd w p3 q3 extra) := hr3
    have HR4 : Hid (Rd w p4 q4 data) := hr4
    have HT : Hid (Tabs w) := hT
    have HH : Hid (Hnd w) := hH
    have HOL : Hid (borne key nonce extra data = true → opL key nonce extra data = hideN key nonce (data.take (data.length - 16))) := fun hb => by
      have ho : opC key nonce extra data = 0 := by rw [hop, hb]; rfl
      have hoc := (opC_zero ho).2
      show opL key nonce extra data = _
      rw [opL, if_pos ho, openL, if_pos hoc]
    have HOF : Hid (borne key nonce extra data = false → opL key nonce extra data = []) := fun hb => by
      have ho : opC key nonce extra data = 7 := by rw [hop, hb]; rfl
      show opL key nonce extra data = _
      rw [opL, if_neg (by rw [ho]; decide)]
    rw [hop]
    clear h1 h2 h3 hc hs hd hd2 hop hr hr2 hr3 hr4 hT hH
    generalize opL key nonce extra data = ol at *
    generalize borne key nonce extra data = bo at *
    go_enter Tryz.func116, Tryz.ntmps116
    go_wp2_with fail
    refine (K0 _).mono ?_
    rintro e w' ⟨rfl, hw⟩
    subst hw
    go_wp2_with fail
    refine (K.out _ (HR.out.keep (alloc_below _ _)) (HR2.out.keep (alloc_below _ _)) (HR3.out.keep (alloc_below _ _)) (HR4.out.keep (alloc_below _ _)) (HT.out.keep (alloc_below _ _))).mono ?_
    rintro e w1 ⟨u, v, rfl, hy, hn, hb⟩
    have C1 := (Arr.new w [.int .i64 0, .slice none 0 0] 43).stay hb
    have BW := Below.res hb
    have hz : Hid (w.heap.size < w1.heap.size) := size_lt hb
    rw [size_alloc] at hy
    clear hb
    cases bo with
    | true =>
      obtain ⟨rfl, ho⟩ := hy rfl
      have HE := HOL.out rfl
      clear HOL HOF hy hn
      subst HE
      obtain ⟨hd, HHD⟩ := known_of (hideN key nonce (data.take (data.length - 16)))
      rw [← HHD.eq] at ho
      obtain ⟨a, cap, rfl, -⟩ := ho.rd
      go_wp2_with fail
      refine (as_nil _ _).mono ?_
      rintro e w2 ⟨rfl, rfl⟩
      replace C1 := C1.old _ (.cells #[] 218)
      replace BW := Below.mk BW (.cells #[] 218)
      replace ho := ho.stay (alloc_below _ (.cells #[] 218))
      have c0 := C1.cell 0
      have c1 := C1.cell 1
      simp at c0 c1
      have fz := C1.frozen
      go_wp2
      refine bodyPost_ret (v := .agg #[.int .i64 0, .slice a hd.length cap]) (by simp [results, Tryz.results116, go_sem, c0, c1]) rfl ⟨_, rfl, ?_, (BW.setCell (Nat.le_refl _) _).setCell (Nat.le_refl _) _⟩
      have hlt : w.heap.size < w.heap.size + 1 := Nat.lt_succ_self _
      rw [← HHD.eq]
      exact ((ho.set (a := ⟨w.heap.size, _, none⟩) hlt _).set (a := ⟨w.heap.size, _, none⟩) hlt _).lower (Nat.le_succ _)
    | false =>
      obtain ⟨rfl, rfl⟩ := hn rfl
      have HE := HOF.out rfl
      clear HOL HOF hy hn
      subst HE
      go_wp2_with fail
      refine (as_hit ⟨w1.heap.size, 0, none⟩ _ (HH.out.keep (Below.mk BW _))).mono ?_
      rintro e w2 ⟨rfl, hb2⟩
      replace C1 := (C1.old _ (.cells #[] 218)).stay hb2
      replace BW := Below.step (Below.mk BW (.cells #[] 218)) hb2
      have c0 := C1.cell 0
      have c1 := C1.cell 1
      simp at c0 c1
      have fz := C1.frozen
      clear hb2
      go_wp2
      exact bodyPost_ret (v := .agg #[.int .i64 7, .slice none 0 0]) (by simp [results, Tryz.results116, go_sem, c0, c1]) rfl ⟨_, rfl, Own_nil _ _, (BW.setCell (Nat.le_refl _) _).setCell (Nat.le_refl _) _⟩
  · rw [show opL key nonce extra data = [] by rw [opL, if_neg (by rw [ofC_not hc]; exact hc)], ofC_not hc]
    generalize ofC key nonce extra data = c at *
    have cz1 : (c != 0) = true := by rw [bne_iff_ne]; exact hc
    clear hc
    go_enter Tryz.func116, Tryz.ntmps116
    go_wp2_with fail
    refine (K0 _).mono ?_
    rintro e w' ⟨rfl, hw⟩
    subst hw
    go_wp2
    exact bodyPost_ret (v := .agg #[.int .i64 c, .slice none 0 0]) (by simp [results, Tryz.results116, go_sem]) rfl ⟨_, rfl, Own_nil _ _, alloc_below _ _⟩
end Go.Proofs.YtdbpnibcblelbaaGreatDoor
/- The functions of chapter 9 in the program that go by keys: KeysOf, ownStream, keyAndNonce, at every argument that they are called at, where the two tables hold what the program's text lays (Tabs). What was there stays. -/
namespace Go.Proofs.YtdbpnibcblelbaaGreatDoor
open Go.ChangeShapes Go.WideShapes Go.ChangeAt Go.RowKit
theorem expR_c (l : List UInt8) (n : Nat) (hl : labelOk l = true) (hn : n ≤ 255) (p : Option Addr) (q : Nat) (s : List UInt8) (w : World) (hr : Rd w p q s) (hk : s.length = 32) (hT : Tabs w) :
    Calls Tryz.prog 189 #[.slice p s.length q, .string (strB l), .slice none 0 0, .int .i64 n] w fun e w' => ∃ u, e = .returned (.agg #[.int .i64 0, u]) ∧ Own w' w.heap.size u (expLabN s l [] n) ∧ Below w.heap.size w w' := by
  have hl2 : l.length ≤ 1048576 := by
    have h := hl
    unfold labelOk at h
    simp at h
    omega
  have h := implExpL_c p none q 0 s l [] n w hr (rd_nix w) hl2 hT
  have hc : elC s l [] (n : Int) = 0 := by
    unfold elC labelC
    simp [keyB, hk, hl, inB]
    omega
  have hL : elL s l [] (n : Int) = expLabN s l [] n := by
    unfold elL
    rw [if_pos hc]
    rfl
  rw [hc, hL] at h
  exact h
set_option maxRecDepth 4000 in
set_option maxHeartbeats 1000000 in
theorem keysOf_c (s : List UInt8) (p : Option Addr) (q : Nat) (w : World) (hr : Rd w p q s) (h1 : is32 s = true) (hT : Tabs w) :
    Calls Tryz.prog 174 #[.slice p s.length q] w fun e w' => ∃ u v m, e = .returned (.agg #[.int .i64 0, u, v]) ∧ Own w' w.heap.size u (keyN s) ∧ Own w' w.heap.size v (baseN s) ∧ (∀ k, u.ownBlock = some k → k < m) ∧ (∀ k, v.ownBlock = some k → m ≤ k) ∧ Below w.heap.size w w' := by
  have hl : s.length = 32 := by simpa [is32] using h1
  have HL : Hid (s.length = 32) := hl
  have BW := alloc_below w (.cells #[.int .i64 0, .slice none 0 0, .slice none 0 0] 205)
  have R := Arr.new w [.int .i64 0, .slice none 0 0, .slice none 0 0] 205
  have hz0 : Hid ((w.alloc (.cells #[.int .i64 0, .slice none 0 0, .slice none 0 0] 205)).heap.size = w.heap.size + 1) := size_alloc _ _
  have HR : Hid (Rd w p q s) := hr
  have HT : Hid (Tabs w) := hT
  have K1 : Hid (∀ w, Rd w p q s → Tabs w → Calls Tryz.prog 189 #[.slice p s.length q, .string ⟨#[107, 101, 121]⟩, .slice none 0 0, .int .i64 32] w fun e w' => ∃ u, e = .returned (.agg #[.int .i64 0, u]) ∧ Own w' w.heap.size u (keyN s) ∧ Below w.heap.size w w') := fun w h t => expR_c keyLab 32 (by decide) (by decide) p q s w h HL.out t
  have K2 : Hid (∀ w, Rd w p q s → Tabs w → Calls Tryz.prog 189 #[.slice p s.length q, .string ⟨#[105, 118]⟩, .slice none 0 0, .int .i64 12] w fun e w' => ∃ u, e = .returned (.agg #[.int .i64 0, u]) ∧ Own w' w.heap.size u (baseN s) ∧ Below w.heap.size w w') := fun w h t => expR_c ivLab 12 (by decide) (by decide) p q s w h HL.out t
  have f1 := bytes_f1 0
  clear hr hT hl
  go_enter Tryz.func174, Tryz.ntmps174
  go_wp2_with fail
  refine (isKeyR_c p q s _).mono ?_
  rintro e w1 ⟨rfl, hw⟩
  subst w1
  rw [h1]
  go_wp2_with fail
  refine (K1.out _ (HR.out.keep BW) (HT.out.keep BW)).mono ?_
  rintro e w1 ⟨u1, rfl, k1, hb1⟩
  rw [hz0.out] at k1
  obtain ⟨a1, cc1, rfl, -⟩ := k1.rd
  have hz1 : Hid (w.heap.size + 1 ≤ w1.heap.size) := by have h := hb1.size; rw [hz0.out] at h; exact h
  replace BW := Below.step BW hb1
  replace R := R.stay hb1
  have hk1 : Hid (∀ k, (Value.slice a1 (keyN s).length cc1).ownBlock = some k → k < w1.heap.size) := k1.lt
  go_wp2_with fail
  refine (K2.out _ (HR.out.keep BW) (HT.out.keep BW)).mono ?_
  rintro e w2 ⟨u2, rfl, k2, hb2⟩
  obtain ⟨a2, cc2, rfl, -⟩ := k2.rd
  have hk2 : Hid (∀ k, (Value.slice a2 (baseN s).length cc2).ownBlock = some k → w1.heap.size ≤ k) := k2.ge
  replace k2 := k2.lower hz1.out
  replace BW := Below.step BW hb2
  replace R := R.stay hb2
  replace k1 := k1.stay hb2
  have c0 := (R.cell 0).trans (show _ = some _ from rfl)
  have c1 := (R.cell 1).trans (show _ = some _ from rfl)
  have c2 := (R.cell 2).trans (show _ = some _ from rfl)
  have fz := R.frozen
  clear R hb1 hb2
  go_wp2_with fail
  exact bodyPost_ret (v := .agg #[.int .i64 0, .slice a1 (keyN s).length cc1, .slice a2 (baseN s).length cc2]) (by simp [results, Tryz.results174, go_sem, c0, c1, c2]) rfl ⟨_, _, w1.heap.size, rfl, (((k1.set (Nat.lt_succ_self _) _).set (Nat.lt_succ_self _) _).set (Nat.lt_succ_self _) _).lower (Nat.le_succ _), (((k2.set (Nat.lt_succ_self _) _).set (Nat.lt_succ_self _) _).set (Nat.lt_succ_self _) _).lower (Nat.le_succ _), hk1.out, hk2.out, ((BW.setCell (Nat.le_refl _) _).setCell (Nat.le_refl _) _).setCell (Nat.le_refl _) _⟩
set_option maxRecDepth 4000 in
set_option maxHeartbeats 1000000 in
theorem ownStream_c (x : StreamD) (p : Option Addr) (q : Nat) (w : World) (hr : Rd w p q x.1) (hl : x.1.length ≤ 1000) :
    Calls Tryz.prog 40 #[.agg #[.slice p x.1.length q, .int .i64 x.2.1, .int .i64 x.2.2]] w fun e w' => ∃ u b, e = .returned (.pointer (some ⟨b, 0, none⟩)) ∧ Own w' w.heap.size u x.1 ∧ Arr w' b 36 [u, .int .i64 x.2.1, .int .i64 x.2.2] ∧ w.heap.size < b ∧ (∀ k, u.ownBlock = some k → k < b) ∧ Below w.heap.size w w' := by
  have BW := alloc_below w (.cells #[.slice p x.1.length q, .int .i64 x.2.1, .int .i64 x.2.2] 36)
  have A := Arr.new w [.slice p x.1.length q, .int .i64 x.2.1, .int .i64 x.2.2] 36
  have hz0 : Hid ((w.alloc (.cells #[.slice p x.1.length q, .int .i64 x.2.1, .int .i64 x.2.2] 36)).heap.size = w.heap.size + 1) := size_alloc _ _
  have r1 := hr.keep BW
  have g0 := HW.at ((A.cell 0).trans (show _ = some _ from rfl))
  have g1 := HW.at ((A.cell 1).trans (show _ = some _ from rfl))
  have g2 := HW.at ((A.cell 2).trans (show _ = some _ from rfl))
  have hne := HW.some (w.alloc (.cells #[.slice p x.1.length q, .int .i64 x.2.1, .int .i64 x.2.2] 36))
  clear hr A
  go_enter Tryz.func40, Tryz.ntmps40
  go_wp2_with fail
  refine wp_region_pick [0, 1, 3, 4, 5, 6] 7 1 3 rfl rfl rfl (by kernel_rfl) (by kernel_rfl) (by kernel_rfl) (by kernel_rfl) ?_
  simp only [opsAt, List.getElem?_toArray, List.getElem?_cons_zero, List.getElem?_cons_succ]
  repeat (go_big_quiet_step (fail))
  refine wpQuiet_nil ?_
  refine wpM_only (i := 2) (by kernel_rfl) ?_
  refine mOp_call rfl (by go_simp) 111 _ #[.slice p x.1.length q] (fun w => by go_simp) rfl ?_
  rintro _ ⟨s1, rfl⟩
  refine (bytesClone_c p q x.1 _ (r1.keep s1.h) (by omega)).mono ?_
  rintro e w1 ⟨u, rfl, ho, hb⟩
  refine ⟨_, rfl, ⟨⟨_, hb⟩, rfl⟩, ?_⟩
  have hbg := Below.step s1.h hb
  replace BW := Below.step BW hbg
  replace ho := ho.lower (B' := w.heap.size + 1) (by have h := s1.h.size; rw [hz0.out] at h; exact h)
  have hz1 : Hid (w.heap.size + 1 ≤ w1.heap.size) := by have h := hbg.size; rw [hz0.out] at h; exact h
  obtain ⟨pu, qu, rfl, -⟩ := ho.rd
  clear hbg hb r1 g0 g1 g2 hne
  refine wpM_end (by kernel_rfl) rfl (by kernel_rfl) (by decide) ?_
  rintro _ ⟨sz, rfl⟩
  simp only [List.drop_succ_cons, List.drop_zero]
  have hbz := sz.h
  replace BW := Below.step BW hbz
  have hz2 : Hid (w.heap.size + 1 ≤ sz.w.heap.size) := Nat.le_trans hz1.out hbz.size
  replace ho := ho.stay hbz
  generalize sz.w = w2 at *
  go_wp2_with fail
  go_ret
  exact ⟨_, w2.heap.size, rfl, (ho.lower (Nat.le_succ _)).stay (alloc_below _ _), Arr.new w2 [_, _, _] _, hz2.out, ho.lt, Below.mk BW _⟩
end Go.Proofs.YtdbpnibcblelbaaGreatDoor
/- The functions of chapter 9 in the program that move a stream on: keyAndNonce, sealNext, at every argument that they are called at (Tabs). A stream that is pointed at lies in a block of its own: that block alone is written. -/
namespace Go.Proofs.YtdbpnibcblelbaaGreatDoor
open Go.ChangeShapes Go.WideShapes Go.ChangeAt Go.RowKit
theorem grown_set (W : World) (b o : Nat) (v : Value) : W.grownBy (W.setCell ⟨b, o, none⟩ v) (some b) :=
  ⟨rfl, rfl, rfl, by rw [World.size_setCell]; exact Nat.le_refl _, fun k _ hk => Below.heap_setCell _ _ _ k (fun e => hk (by rw [e]))⟩
theorem head_vals (n : Nat) (h : n ≤ 220) : [Value.int .u8 23, .int .u8 3, .int .u8 3, .int .u8 (((n : Int) + 16) / 256), .int .u8 ((n : Int) + 16)] = (headN n).map u8v := by
  have e : putB (n + 16) 2 = [UInt8.ofNat ((n + 16) / 256 ^ 1 % 256), UInt8.ofNat ((n + 16) / 256 ^ 0 % 256)] := rfl
  unfold headN
  rw [e]
  simp only [List.cons_append, List.nil_append, List.map_cons, List.map_nil, u8v, UInt8.toNat_ofNat', Nat.pow_one, Nat.pow_zero, Nat.div_one]
  have e1 : (((n : Int) + 16) / 256) = (((n + 16) / 256 % 256 % 2 ^ 8 : Nat) : Int) := by omega
  have e2 : ((n : Int) + 16) = (((n + 16) % 256 % 2 ^ 8 : Nat) : Int) := by omega
  rw [e1, e2]
  rfl
set_option maxRecDepth 4000 in
set_option maxHeartbeats 1000000 in
theorem keyAndNonce_c (x : StreamD) (p : Option Addr) (q b : Nat) (w : World) (A : Arr w b 36 [.slice p x.1.length q, .int .i64 x.2.1, .int .i64 x.2.2]) (hr : Rd w p q x.1) (h1 : is32 x.1 = true) (h0 : 0 ≤ x.2.1) (h2 : x.2.1 ≤ 200) (hT : Tabs w) :
    Calls Tryz.prog 112 #[.pointer (some ⟨b, 0, none⟩)] w fun e w' => ∃ u v, e = .returned (.tuple #[u, v]) ∧ Own w' w.heap.size u (keyN x.1) ∧ Own w' w.heap.size v (nonceS x) ∧ Below w.heap.size w w' := by
  have HR : Hid (Rd w p q x.1) := hr
  have HT : Hid (Tabs w) := hT
  have KK : Hid (Calls Tryz.prog 174 #[.slice p x.1.length q] w fun e w' => ∃ u v m, e = .returned (.agg #[.int .i64 0, u, v]) ∧ Own w' w.heap.size u (keyN x.1) ∧ Own w' w.heap.size v (baseN x.1) ∧ (∀ k, u.ownBlock = some k → k < m) ∧ (∀ k, v.ownBlock = some k → m ≤ k) ∧ Below w.heap.size w w') := keysOf_c x.1 p q w hr h1 hT
  have KN : Hid (∀ (w : World) (pb : Option Addr) (qb : Nat), Rd w pb qb (baseN x.1) → Calls Tryz.prog 175 #[.slice pb 12 qb, .int .i64 x.2.1] w fun e w' => ∃ u, e = .returned (.agg #[.int .i64 0, u]) ∧ Own w' w.heap.size u (nonceS x) ∧ Below w.heap.size w w') := fun w pb qb h => by
    have hh := implNF_c pb qb (baseN x.1) x.2.1 w h
    have hi : inB x.2.1 0 2147483648 = true := by simp [inB]; omega
    rw [show nfC (baseN x.1) x.2.1 = 0 by rw [nfC, if_pos (baseN_len _), if_pos hi], show nfL (baseN x.1) x.2.1 = nonceS x by rw [nfL, if_pos ⟨baseN_len _, hi⟩]; rfl, baseN_len] at hh
    exact hh
  have f1 := bytes_f1 0
  have c0 := (A.cell 0).trans (show _ = some _ from rfl)
  clear hr hT
  go_enter Tryz.func112, Tryz.ntmps112
  go_wp2_with fail
  refine KK.out.mono ?_
  rintro e w1 ⟨u, v, m, rfl, k1, k2, -, -, hb1⟩
  obtain ⟨a1, cc1, rfl, -⟩ := k1.rd
  obtain ⟨a2, cc2, rfl, -⟩ := k2.rd
  rw [keyN_len, baseN_len] at *
  replace A := A.stay hb1
  clear c0
  go_wp2_with fail
  have L := Arr.new w1 [.int .i64 0, .slice a1 32 cc1, .slice a2 12 cc2] 205
  have hbl := alloc_below w1 (.cells #[.int .i64 0, .slice a1 32 cc1, .slice a2 12 cc2] 205)
  replace A := A.stay hbl
  replace k1 := k1.stay hbl
  replace k2 := k2.stay hbl
  have BW := Below.step hb1 hbl
  clear hb1 hbl
  generalize w1.heap.size = H at *
  generalize w1.alloc (.cells #[.int .i64 0, .slice a1 32 cc1, .slice a2 12 cc2] 205) = w2 at *
  have g1 := HW.at ((L.cell 1).trans (show _ = some _ from rfl))
  have g2 := HW.at ((L.cell 2).trans (show _ = some _ from rfl))
  have g3 := HW.at ((A.cell 1).trans (show _ = some _ from rfl))
  have hne := HW.some w2
  refine wp_region_pick [0, 1, 2, 3, 4, 5, 6, 7] 11 3 1 rfl rfl rfl (by kernel_rfl) (by kernel_rfl) (by kernel_rfl) (by kernel_rfl) ?_
  simp only [opsAt, List.getElem?_toArray, List.getElem?_cons_zero, List.getElem?_cons_succ]
  repeat (go_big_quiet_step (fail))
  refine wpQuiet_nil ?_
  refine wpM_only (i := 8) (by kernel_rfl) ?_
  refine mOp_call rfl (by go_simp) 175 _ #[.slice a2 12 cc2, .int .i64 x.2.1] (fun w => by go_simp) rfl ?_
  rintro _ ⟨s1, rfl⟩
  refine (KN.out _ a2 cc2 (Rd.own (k2.stay s1.h))).mono ?_
  rintro e w3 ⟨u3, rfl, k3, hb3⟩
  obtain ⟨a3, cc3, rfl, -⟩ := k3.rd
  rw [nonceS_len] at k3 ⊢
  refine ⟨_, rfl, ⟨⟨_, hb3⟩, rfl⟩, ?_⟩
  have hz3 : Hid (w.heap.size ≤ s1.w.heap.size) := Nat.le_trans BW.size s1.h.size
  have hbg := Below.step s1.h hb3
  replace k1 := k1.stay hbg
  replace BW := Below.step BW hbg
  replace k3 := k3.lower hz3.out
  clear hbg hb3 g1 g2 g3 hne
  have hne := HW.some w3
  refine wpM_more [9, 10] 2 0 rfl (by kernel_rfl) (by kernel_rfl) (by kernel_rfl) (by kernel_rfl) ?_
  simp only [opsAt, List.getElem?_toArray, List.getElem?_cons_zero, List.getElem?_cons_succ]
  go_simp
  repeat (go_big_quiet_step (fail))
  refine wpQuiet_nil ?_
  refine wpM_end (by kernel_rfl) rfl (by kernel_rfl) (by decide) ?_
  rintro _ ⟨sz, rfl⟩
  simp only [List.drop_succ_cons, List.drop_zero]
  replace k1 := k1.stay sz.h
  replace k3 := k3.stay sz.h
  replace BW := Below.step BW sz.h
  go_wp2_with fail
  go_ret2
  exact ⟨_, _, rfl, k1, k3, BW⟩
set_option maxRecDepth 4000 in
set_option maxHeartbeats 2000000 in
theorem sealNext_c (x : StreamD) (p p2 : Option Addr) (q q2 b : Nat) (inner : List UInt8) (w : World) (A : Arr w b 36 [.slice p x.1.length q, .int .i64 x.2.1, .int .i64 x.2.2]) (hr : Rd w p q x.1) (hr2 : Rd w p2 q2 inner) (hi : inner.length ≤ 220) (h1 : is32 x.1 = true) (h0 : 0 ≤ x.2.1) (h2 : x.2.1 ≤ 200) (hT : Tabs w) :
    Calls Tryz.prog 41 #[.pointer (some ⟨b, 0, none⟩), .slice p2 inner.length q2] w fun e w' => ∃ u, e = .returned u ∧ Own w' w.heap.size u (recN x inner) ∧ Arr w' b 36 [.slice p x.1.length q, .int .i64 (x.2.1 + 1), .int .i64 x.2.2] ∧ w.grownBy w' (some b) := by
  have HAb : Hid (b < w.heap.size) := A.lt
  have HR2 : Hid (Rd w p2 q2 inner) := hr2
  have HT : Hid (Tabs w) := hT
  have hq1 : inner.length ≤ q2 := hr2.1
  have hq2 : q2 ≤ 2 ^ 63 - 1 := hr2.2.1
  have KK : Hid (Calls Tryz.prog 112 #[.pointer (some ⟨b, 0, none⟩)] w fun e w' => ∃ u v, e = .returned (.tuple #[u, v]) ∧ Own w' w.heap.size u (keyN x.1) ∧ Own w' w.heap.size v (nonceS x) ∧ Below w.heap.size w w') := keyAndNonce_c x p q b w A hr h1 h0 h2 hT
  clear hr hr2 hT
  go_enter Tryz.func41, Tryz.ntmps41
  go_wp2_with fail
  refine KK.out.mono ?_
  rintro e w1 ⟨u, v, rfl, k1, k2, hb1⟩
  obtain ⟨a1, cc1, rfl, -⟩ := k1.rd
  obtain ⟨a2, cc2, rfl, -⟩ := k2.rd
  rw [keyN_len, nonceS_len] at *
  replace A := A.stay hb1
  have HV : Hid (#[.int .u8 23, .int .u8 3, .int .u8 3, .int .u8 (((inner.length : Int) + 16) / 256), .int .u8 ((inner.length : Int) + 16)].toList = (headN inner.length).map u8v) := head_vals _ hi
  have HO : Hid (Own (w1.alloc (.cells #[.int .u8 23, .int .u8 3, .int .u8 3, .int .u8 (((inner.length : Int) + 16) / 256), .int .u8 ((inner.length : Int) + 16)] 5)) w1.heap.size (.slice (some ⟨w1.heap.size, 0, none⟩) 5 5) (headN inner.length)) := by
    have h := lit_own w1 (headN inner.length) w1.heap.size (Nat.le_refl _) (by rw [headN_len]; decide)
    rw [← HV.out, headN_len] at h
    exact h
  have hbl := alloc_below w1 (.cells #[.int .u8 23, .int .u8 3, .int .u8 3, .int .u8 (((inner.length : Int) + 16) / 256), .int .u8 ((inner.length : Int) + 16)] 5)
  have KS : Hid (∀ (w : World) (pk pn ph : Option Addr) (qk qn qh : Nat), Rd w pk qk (keyN x.1) → Rd w pn qn (nonceS x) → Rd w ph qh (headN inner.length) → Rd w p2 q2 inner → Tabs w → Calls Tryz.prog 113 #[.slice pk 32 qk, .slice pn 12 qn, .slice ph 5 qh, .slice p2 inner.length q2] w fun e w' => ∃ u, e = .returned (.agg #[.int .i64 0, u]) ∧ Own w' w.heap.size u (sealN (keyN x.1) (nonceS x) (headN inner.length) inner) ∧ Below w.heap.size w w') := fun w pk pn ph qk qn qh h1 h2 h3 h4 t => by
    have h := implSl_c pk pn ph p2 qk qn qh q2 (keyN x.1) (nonceS x) (headN inner.length) inner w h1 h2 h3 h4 t
    have hk : kn (keyN x.1) (nonceS x) = true := by simp [kn, keyN_len, nonceS_len]
    have hs : sealC (keyN x.1) (nonceS x) (headN inner.length) = 0 := by rw [sealC_kn, if_pos hk, if_pos (by rw [headN_len]; decide)]
    have ht : tgC (keyN x.1) (nonceS x) (headN inner.length) inner = 0 := by rw [tgC, if_pos hs, if_pos hi]
    rw [ht, show slL (keyN x.1) (nonceS x) (headN inner.length) inner = sealN (keyN x.1) (nonceS x) (headN inner.length) inner by rw [slL, if_pos ht], keyN_len, nonceS_len, headN_len] at h
    exact h
  have BW := Below.step hb1 hbl
  have hz1 : Hid (w.heap.size ≤ w1.heap.size) := hb1.size
  have hbb : Hid (b < w.heap.size) := HAb.out
  replace k1 := k1.stay hbl
  replace k2 := k2.stay hbl
  replace A := A.stay hbl
  clear hb1 hbl
  go_wp2_with fail
  generalize w1.alloc (.cells #[.int .u8 23, .int .u8 3, .int .u8 3, .int .u8 (((inner.length : Int) + 16) / 256), .int .u8 ((inner.length : Int) + 16)] 5) = w2 at *
  refine (KS.out _ a1 a2 _ cc1 cc2 5 (Rd.own k1) (Rd.own k2) (Rd.own HO.out) (HR2.out.keep BW) (HT.out.keep BW)).mono ?_
  rintro e w3 ⟨u3, rfl, k3, hb3⟩
  obtain ⟨a3, cc3, rfl, -⟩ := k3.rd
  have hz2 : Hid (w1.heap.size ≤ w2.heap.size) := by have h := HO.out.lt w1.heap.size rfl; exact Nat.le_of_lt h
  have Z3 : Hid (w2.heap.size ≤ w3.heap.size) := hb3.size
  replace k3 := k3.lower hz2.out
  have HO3 := HO.out.stay hb3
  replace A := A.stay hb3
  replace BW := Below.step BW hb3
  have hsl : Hid ((sealN (keyN x.1) (nonceS x) (headN inner.length) inner).length = inner.length + 16) := sealN_len _ _ _ _
  generalize HSd : sealN (keyN x.1) (nonceS x) (headN inner.length) inner = sd at *
  have HRN : Hid (headN inner.length ++ sd = recN x inner) := by show _ = _; rw [← HSd]; rfl
  clear HSd hb3
  have hl3 := alloc_below w3 (.cells #[.int .i64 0, .slice a3 sd.length cc3] 43)
  have L := Arr.new w3 [.int .i64 0, .slice a3 sd.length cc3] 43
  replace A := A.stay hl3
  replace HO3 := HO3.stay hl3
  replace k3 := k3.stay hl3
  replace BW := Below.step BW hl3
  have hz3 : Hid (w.heap.size ≤ w3.heap.size) := Nat.le_trans hz1.out (Nat.le_trans hz2.out Z3.out)
  clear hl3 KS KK HO k1 k2
  have hb4 : Hid (b < w3.heap.size) := Nat.lt_of_lt_of_le hbb.out hz3.out
  have hw13 : Hid (w1.heap.size ≤ w3.heap.size) := Nat.le_trans hz2.out Z3.out
  have hbw1 : Hid (b < w1.heap.size) := Nat.lt_of_lt_of_le hbb.out hz1.out
  have hH : Hid (w3.heap.size ≤ (w3.alloc (.cells #[.int .i64 0, .slice a3 sd.length cc3] 43)).heap.size) := by rw [size_alloc]; exact Nat.le_succ _
  generalize w1.heap.size = H1 at *
  generalize e4 : w3.alloc (.cells #[.int .i64 0, .slice a3 sd.length cc3] 43) = w4 at *
  have hn1 : ¬ b = w3.heap.size := by have := hb4.out; omega
  have hn2 : ¬ w3.heap.size = b := by have := hb4.out; omega
  have c1 := (A.cell 1).trans (show _ = some _ from rfl)
  have fz := A.frozen 1
  have d1 := (L.cell 1).trans (show _ = some _ from rfl)
  have A5 := A.set 1 (.int .i64 (x.2.1 + 1))
  have O5 := HO3.set (a := ⟨b, 1, none⟩) hbw1.out (.int .i64 (x.2.1 + 1))
  have k5 := k3.set (a := ⟨b, 1, none⟩) hbw1.out (.int .i64 (x.2.1 + 1))
  have G5 : Hid (w.grownBy (w4.setCell ⟨b, 1, none⟩ (.int .i64 (x.2.1 + 1))) (some b)) := grownBy_trans (below_grown BW _) (grown_set _ _ _ _)
  have hs5 : Hid ((w4.setCell ⟨b, 1, none⟩ (.int .i64 (x.2.1 + 1))).heap.size = w4.heap.size) := World.size_setCell _ _ _
  clear A L HO3 k3 BW
  go_wp2_with fail
  generalize w4.setCell ⟨b, 1, none⟩ (.int .i64 (x.2.1 + 1)) = w5 at *
  have P6 : Pcs (w5.alloc (.cells #[.slice (some ⟨H1, 0, none⟩) 5 5, .slice a3 sd.length cc3] 22)) w5.heap.size 0 [⟨some ⟨H1, 0, none⟩, 5, headN inner.length⟩, ⟨a3, cc3, sd⟩] := by
    have h := pcs_two w5 ⟨some ⟨H1, 0, none⟩, 5, headN inner.length⟩ ⟨a3, cc3, sd⟩ 22 (Rd.own O5) (Rd.own k5)
    simp only [Pc.val, headN_len] at h
    exact h
  rw [hs5.out] at P6
  refine (joined_c _ w4.heap.size 0 2 _ P6 (by rw [flat_two]; simp only [List.length_append, headN_len]; have := hsl.out; omega) (by simp)).mono ?_
  rintro e w6 ⟨u6, rfl, k6, hb6⟩
  rw [flat_two] at k6
  have A6 := (A5.old _ (.cells #[.slice (some ⟨H1, 0, none⟩) 5 5, .slice a3 sd.length cc3] 22)).stay hb6
  have G6 := grownBy_trans G5.out (grownBy_trans (World.grownBy_alloc w5 (.cells #[.slice (some ⟨H1, 0, none⟩) 5 5, .slice a3 sd.length cc3] 22) (some b)) (below_grown hb6 _))
  have hz7 : w.heap.size ≤ (w5.alloc (.cells #[.slice (some ⟨H1, 0, none⟩) 5 5, .slice a3 sd.length cc3] 22)).heap.size := by rw [size_alloc]; exact Nat.le_succ_of_le G5.out.size
  go_wp2_with fail
  go_ret
  exact ⟨_, rfl, by rw [← HRN.out]; exact k6.lower hz7, A6, G6⟩
end Go.Proofs.YtdbpnibcblelbaaGreatDoor
