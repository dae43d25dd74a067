/- The contract of impl.OpenBytes in the program, at every argument: code and bytes, where the two tables hold what the program's text lays (Tabs) and the library's variable holds its handle (Hnd). What was there stays. -/
import Derived.Test.YtdemfbbjdnjolaaDoorSealI
import Derived.Test.YtdemfbbjdnjolaaDoorAsI
import Derived.ChangeKeysEq
namespace Go.Proofs.YtdemfbbjdnjolaaDoor
open Go.ChangeShapes Go.WideShapes Go.ChangeAt Go.RowKit

/-- Two arrays of bytes are held against each other, element by element. -/
theorem run_eqItems_u8 {P : Program} (w : World) (d : Nat) {e : TypeId} {k : IntKind} (he : P.underlying e = some (.int k)) (hp : P.plainKey e = true) (xs ys : List UInt8) : ∀ is : List Nat, (∀ i ∈ is, i < xs.length ∧ i < ys.length) →
    (Op.eqItems (d + 1) e 1 (xs.map u8v).toArray (ys.map u8v).toArray is).run P w = .ok (is.all fun i => at8 xs i == at8 ys i) w
  | [], _ => by simp [Op.eqItems]
  | i :: is, h => by
    have ih := run_eqItems_u8 w d he hp xs ys is (fun j hj => h j (List.mem_cons_of_mem _ hj))
    obtain ⟨h1, h2⟩ := h i List.mem_cons_self
    have p1 : (Go.part e (xs.map u8v).toArray (i * 1)).run P w = .ok (.int .u8 (at8 xs i)) w := run_part_plain w hp (by rw [Nat.mul_one, List.getElem?_toArray]; exact u8v_at h1)
    have p2 : (Go.part e (ys.map u8v).toArray (i * 1)).run P w = .ok (.int .u8 (at8 ys i)) w := run_part_plain w hp (by rw [Nat.mul_one, List.getElem?_toArray]; exact u8v_at h2)
    have p3 := run_equalIn_int (P := P) w d e .u8 k (at8 xs i) (at8 ys i) he
    simp only [Op.eqItems, Sem.run_bind, p1, p2, p3, Result.andThen_ok, List.all_cons]
    cases hb : (at8 xs i == at8 ys i)
    · simp
    · simp [ih]
theorem all_at8 {xs ys : List UInt8} {n : Nat} (hx : xs.length = n) (hy : ys.length = n) : ((List.range n).all fun i => at8 xs i == at8 ys i) = (xs == ys) := by
  rw [Bool.eq_iff_iff, List.all_eq_true, beq_iff_eq]
  constructor
  · intro h
    refine List.ext_getElem (by omega) (fun i h1 h2 => ?_)
    have h3 := h i (List.mem_range.2 (by omega))
    rw [beq_iff_eq, at8_get h1, at8_get h2] at h3
    exact UInt8.toNat_inj.1 (by omega)
  · rintro rfl i -
    simp
theorem eq_tag (xs ys : List UInt8) (hx : xs.length = 16) (hy : ys.length = 16) (w : World) : (Op.equalIn 10000 80 (.agg (xs.map u8v).toArray) (.agg (ys.map u8v).toArray)).run Tryd.prog w = .ok (xs == ys) w := by
  obtain ⟨i0, hi, hz0, hz1, hz2⟩ := info_parts info8
  rw [run_equalIn_array w 9999 _ _ Tryd.underlying80 hi, show Tryd.prog.cellsOf 5 = 1 by kernel_rfl, run_eqItems_u8 w 9998 Tryd.underlying5 (by kernel_rfl) xs ys _ (fun i hi => by have := List.mem_range.1 hi; omega), all_at8 hx hy]
set_option maxRecDepth 4000 in
set_option maxHeartbeats 1000000 in
theorem opened_c (p p2 p3 p4 : Option Addr) (q q2 q3 q4 : Nat) (key nonce extra data : List UInt8) (w : World) (hr : Rd w p q key) (hr2 : Rd w p2 q2 nonce) (hr3 : Rd w p3 q3 extra) (hr4 : Rd w p4 q4 data) (hT : Tabs w) (hk : key.length = 32) (hn : nonce.length = 12) (he : extra.length ≤ 60) (hd : 16 ≤ data.length) (hd2 : data.length ≤ 236) :
    Calls Tryd.prog 73 #[.slice p key.length q, .slice p2 nonce.length q2, .slice p3 extra.length q3, .slice p4 data.length q4] w fun e w' => ∃ u v, e = .returned (.tuple #[u, v]) ∧ (borne key nonce extra data = true → v = .nilIface ∧ Own w' w.heap.size u (hideN key nonce (data.take (data.length - 16)))) ∧ (borne key nonce extra data = false → v = .iface 87 (.agg #[]) ∧ u = .slice none 0 0) ∧ Below w.heap.size w w' := by
  have hzv : Hid (∀ w, (zeroValue 80).run Tryd.prog w = .ok (.agg z8.toArray) w) := (zero_of_info info_tag).1
  have HI : Hid ((Tryd.prog.info? 5).map (·.size) = some 1) := by obtain ⟨i0, hi, hz0, hz1, hz2⟩ := info_parts info8; show _ = _; rw [hi]; simp [hz1]
  obtain ⟨m, hm⟩ : ∃ m, data.length = m + 16 := ⟨data.length - 16, by omega⟩
  obtain ⟨ad, o, rfl, -⟩ := hr4.2.2.2 (by omega)
  have hcap := hr4.1
  have HR : Hid (Rd w p q key) := hr
  have HR2 : Hid (Rd w p2 q2 nonce) := hr2
  have HR3 : Hid (Rd w p3 q3 extra) := hr3
  have HR4 : Hid (Rd w (some ⟨ad, o, none⟩) q4 data) := hr4
  have HT : Hid (Tabs w) := hT
  obtain ⟨ct, HCT⟩ := known_of (data.take m)
  obtain ⟨gv, HGV⟩ := known_of (data.drop m)
  have HCL : Hid (ct.length = m) := by show _ = _; rw [HCT.eq, List.length_take]; omega
  have HGL : Hid (gv.length = 16) := by show _ = _; rw [HGV.eq, List.length_drop]; omega
  obtain ⟨tg, HTG⟩ := known_of (tagN key nonce extra ct)
  have HTL : Hid (tg.length = 16) := by show _ = _; rw [HTG.eq, tagN_len]
  have HBO : Hid (borne key nonce extra data = (tg == gv)) := by show _ = _; rw [HTG.eq, HGV.eq, HCT.eq]; unfold borne; rw [show data.length - 16 = m by omega]
  have HHD : Known (hideN key nonce (data.take (m + 16 - 16))) (hideN key nonce ct) := ⟨by rw [HCT.eq, Nat.add_sub_cancel]⟩
  have K : Hid (∀ w, Rd w p q key → Rd w p2 q2 nonce → Rd w p3 q3 extra → Rd w (some ⟨ad, o, none⟩) q4 ct → Tabs w → Calls Tryd.prog 71 #[.slice p key.length q, .slice p2 nonce.length q2, .slice p3 extra.length q3, .slice (some ⟨ad, o, none⟩) m q4] w fun e w' => e = .returned (.agg (tg.map u8v).toArray) ∧ Below w.heap.size w w') := fun w a b c d e => by
    have g := tagOver_c p p2 p3 (some ⟨ad, o, none⟩) q q2 q3 q4 key nonce extra ct w a b c d e (by omega) (by omega) he (by rw [HCL.out]; omega)
    rw [← HTG.eq, HCL.out] at g
    exact g
  have KH : Hid (∀ w, Rd w p q key → Rd w p2 q2 nonce → Rd w (some ⟨ad, o, none⟩) q4 ct → Calls Tryd.prog 70 #[.slice p key.length q, .slice p2 nonce.length q2, .slice (some ⟨ad, o, none⟩) m q4] w fun e w' => ∃ u, e = .returned u ∧ Own w' w.heap.size u (hideN key nonce ct) ∧ Below w.heap.size w w') := fun w a b c => by
    have g := hidden_c p p2 (some ⟨ad, o, none⟩) q q2 q4 key nonce ct w a b c hk hn (by rw [HCL.out]; omega)
    rw [HCL.out] at g
    rw [hk, hn]
    exact g
  have HC4 : Hid (Rd w (some ⟨ad, o, none⟩) q4 ct) := by rw [HCT.eq]; exact hr4.take m
  have HG4 : Hid (Rd w (some ⟨ad, o + m, none⟩) (q4 - m) gv) := by
    have h := hr4.cut m 16 (q4 - m) (by omega) (by omega) (Nat.le_trans (Nat.sub_le _ _) hr4.2.1)
    rw [List.take_of_length_le (by rw [List.length_drop]; omega)] at h
    rw [HGV.eq]; exact h
  have hmq : m < q4 := by omega
  have hmI : (m : Int) ≤ 220 := by omega
  rw [HBO.out, hm]
  clear hr hr2 hr3 hr4 hT hk hn he hd hd2 hm hcap HCT HGV HTG HBO HR4
  go_enter Tryd.func73, Tryd.ntmps73
  go_wp2_with (first
    | refine wpList_alloc_arr rfl 80 rfl _ hzv.out w.heap.size rfl ?_)
  have BW : Below w.heap.size w (w.alloc (.cells z8.toArray 80)) := alloc_below _ _
  have O : Arr (w.alloc (.cells z8.toArray 80)) w.heap.size 80 z8 := Arr.new w z8 80
  generalize w.alloc (.cells z8.toArray 80) = W at *
  have hne := HW.some W
  go_simp
  refine wp_region_pick [0, 1, 2, 3] 4 0 1 rfl rfl rfl (by kernel_rfl) (by kernel_rfl) (by kernel_rfl) (by kernel_rfl) ?_
  simp only [opsAt, List.getElem?_toArray, List.getElem?_cons_zero, List.getElem?_cons_succ]
  repeat (go_big_quiet_step (fail))
  refine wpQuiet_nil ?_
  refine wpM_end (by kernel_rfl) rfl (by kernel_rfl) (by decide) ?_
  rintro V7 hV7
  have B7 := HW.out hV7
  replace O := O.stay B7
  replace BW := Below.step BW B7
  clear B7 hV7
  simp only [List.drop_succ_cons, List.drop_zero]
  rw [z8_eq] at O
  have HG7 := HG4.out.keep BW
  have HON : Hid (∀ v ∈ gv.map u8v, v.oneCell' = true) := fun v hv => by obtain ⟨x, -, rfl⟩ := List.mem_map.1 hv; rfl
  have HAD : Hid (∃ ad', (some (⟨ad, o + m, none⟩ : Addr)) = some ad' ∧ ∀ j v, (gv.map u8v)[j]? = some v → V7.cell? (ad'.add j) = some v) := by
    have h := HG7.addr_take 16 (by rw [HGL.out]; decide)
    rw [List.take_of_length_le (by rw [HGL.out]; exact Nat.le_refl _)] at h
    exact h
  refine wpList_copy_over rfl (.tmp 19) (.tmp 22) 22 22 rfl 5 Tryd.underlying22 HI.out (some ⟨w.heap.size, 0, none⟩) (some ⟨ad, o + m, none⟩) 16 16 16 (q4 - m) rfl rfl w.heap.size 0 _ 80 O (gv.map u8v) (by rw [List.length_map, HGL.out]; decide) (fun _ => ⟨rfl, HAD.out⟩) (by rw [List.length_map, HGL.out, zs16_len]; decide) HON.out ?_
  intro V8 hO8 hg8
  have HSP : Hid (splice ((zs 16).map u8v) 0 (gv.map u8v) = gv.map u8v) := by
    have h := splice_take gv (by rw [HGL.out]; exact Nat.le_refl _)
    rw [List.take_of_length_le (by rw [HGL.out]; exact Nat.le_refl _)] at h
    exact h
  rw [HSP.out] at hO8
  replace BW := BW.grown hg8 BW.size (fun k hk => by simp at hk; omega)
  have S := hO8.out
  have HC8 := HC4.out.keep BW
  have hzn := szT gv HGL.out
  clear HAD HON hg8 hO8 O HG7 HSP
  have hne8 := HW.some V8
  go_simp
  go_wp2_with fail
  refine wp_region_pick [0, 1, 2, 3, 5] 6 1 1 rfl rfl rfl (by kernel_rfl) (by kernel_rfl) (by kernel_rfl) (by kernel_rfl) ?_
  simp only [opsAt, List.getElem?_toArray, List.getElem?_cons_zero, List.getElem?_cons_succ]
  go_big_quiet_step (fail)
  go_big_quiet_step (fail)
  go_big_quiet_step (fail)
  go_big_quiet_step (fail)
  refine wpQuiet_load_row rfl 80 (.tmp 12) rfl w.heap.size rfl 80 (gv.map u8v).toArray (0, 0) _ (fun w' h => by obtain ⟨s, rfl⟩ := h; exact S.stay s.h) Tryd.underlying80 rfl hzn ?_
  refine wpQuiet_nil ?_
  refine wpM_only (i := 4) (by kernel_rfl) ?_
  refine mOp_call rfl (by go_simp) 71 _ #[.slice p key.length q, .slice p2 nonce.length q2, .slice p3 extra.length q3, .slice (some ⟨ad, o, none⟩) m q4] (fun w => by go_simp) rfl ?_
  rintro V9 hV9
  have B9 := HW.out hV9
  replace BW := Below.step BW B9
  refine (K.out _ (HR.out.keep BW) (HR2.out.keep BW) (HR3.out.keep BW) (HC4.out.keep BW) (HT.out.keep BW)).mono ?_
  rintro e V10 ⟨rfl, hb⟩
  refine ⟨_, rfl, ⟨⟨_, hb⟩, rfl⟩, ?_⟩
  replace BW := Below.step BW hb
  clear hb B9 hV9 S
  refine wpM_end (by kernel_rfl) rfl (by kernel_rfl) (by decide) ?_
  rintro V11 hV11
  have B11 := HW.out hV11
  replace BW := Below.step BW B11
  clear B11 hV11 HC8
  simp only [List.drop_succ_cons, List.drop_zero]
  have hcmp := eq_tag tg gv HTL.out HGL.out
  cases hbv : (tg == gv)
  · rw [hbv] at hcmp
    go_wp2_with fail
    exact bodyPost_ret (v := .tuple #[.slice none 0 0, .iface 87 (.agg #[])]) (by simp [results, Tryd.results73, go_sem]) rfl ⟨_, _, rfl, fun h => (by rw [hbv] at h; cases h), fun _ => ⟨rfl, rfl⟩, BW⟩
  · rw [hbv] at hcmp
    go_wp2_with fail
    refine (KH.out _ (HR.out.keep BW) (HR2.out.keep BW) (HC4.out.keep BW)).mono ?_
    rintro e V12 ⟨u, rfl, ho, hb⟩
    have hz := BW.size
    replace BW := Below.step BW hb
    obtain ⟨a, cap, rfl, -⟩ := ho.rd
    go_wp2_with fail
    exact bodyPost_ret (v := .tuple #[.slice a (hideN key nonce ct).length cap, .nilIface]) (by simp [results, Tryd.results73, go_sem]) rfl ⟨_, _, rfl, fun _ => ⟨rfl, by rw [HHD.eq]; exact ho.lower hz⟩, fun h => (by rw [hbv] at h; cases h), BW⟩

theorem ofC_op {key nonce extra data : List UInt8} (h : ofC key nonce extra data = 0) : sealC key nonce extra = 0 ∧ 16 ≤ data.length ∧ data.length ≤ 236 ∧ opC key nonce extra data = (if borne key nonce extra data then 0 else 7) := by
  unfold ofC at h
  split at h
  · rename_i h1
    split at h
    · cases h
    · rename_i h2
      split at h
      · cases h
      · rename_i h3
        refine ⟨h1, by omega, by omega, ?_⟩
        unfold opC openC
        rw [if_pos h1, if_neg h2, if_neg h3]
  · rename_i h1
    exact absurd h h1
theorem ofC_not {key nonce extra data : List UInt8} (h : ofC key nonce extra data ≠ 0) : opC key nonce extra data = ofC key nonce extra data := by
  unfold ofC at h ⊢
  unfold opC openC
  split at h
  · rename_i h1
    rw [if_pos h1, if_pos h1]
    split at h
    · rename_i h2
      rw [if_pos h2, if_pos h2]
    · rename_i h2
      split at h
      · rename_i h3
        rw [if_neg h2, if_pos h3, if_neg h2, if_pos h3]
      · exact absurd rfl h
  · rename_i h1
    rw [if_neg h1, if_neg h1]
set_option maxRecDepth 4000 in
set_option maxHeartbeats 1000000 in
theorem implOp_c (p p2 p3 p4 : Option Addr) (q q2 q3 q4 : Nat) (key nonce extra data : List UInt8) (w : World) (hr : Rd w p q key) (hr2 : Rd w p2 q2 nonce) (hr3 : Rd w p3 q3 extra) (hr4 : Rd w p4 q4 data) (_hl : data.length ≤ 1048576) (hT : Tabs w) (hH : Hnd w) :
    Calls Tryd.prog 61 #[.slice p key.length q, .slice p2 nonce.length q2, .slice p3 extra.length q3, .slice p4 data.length q4] w fun e w' => ∃ u, e = .returned (.agg #[.int .i64 (opC key nonce extra data), u]) ∧ Own w' w.heap.size u (opL key nonce extra data) ∧ Below w.heap.size w w' := by
  have K0 := fun w => openFault_c p p2 p3 p4 q q2 q3 q4 key nonce extra data w (Nat.le_trans hr4.1 hr4.2.1)
  by_cases hc : ofC key nonce extra data = 0
  · rw [hc] at K0
    obtain ⟨hs, hd, hd2, hop⟩ := ofC_op hc
    obtain ⟨h1, h2, h3, -⟩ := sealC_zero hs
    have K : Hid (∀ w, Rd w p q key → Rd w p2 q2 nonce → Rd w p3 q3 extra → Rd w p4 q4 data → Tabs w → Calls Tryd.prog 73 #[.slice p key.length q, .slice p2 nonce.length q2, .slice p3 extra.length q3, .slice p4 data.length q4] w fun e w' => ∃ u v, e = .returned (.tuple #[u, v]) ∧ (borne key nonce extra data = true → v = .nilIface ∧ Own w' w.heap.size u (hideN key nonce (data.take (data.length - 16)))) ∧ (borne key nonce extra data = false → v = .iface 87 (.agg #[]) ∧ u = .slice none 0 0) ∧ Below w.heap.size w w') := fun w a b c d e => opened_c p p2 p3 p4 q q2 q3 q4 key nonce extra data w a b c d e h1 h2 h3 hd hd2
    have HR : Hid (Rd w p q key) := hr
    have HR2 : Hid (Rd w p2 q2 nonce) := hr2
    have HR3 : Hid (Rd w p3 q3 extra) := hr3
    have HR4 : Hid (Rd w p4 q4 data) := hr4
    have HT : Hid (Tabs w) := hT
    have HH : Hid (Hnd w) := hH
    have HOL : Hid (borne key nonce extra data = true → opL key nonce extra data = hideN key nonce (data.take (data.length - 16))) := fun hb => by
      have ho : opC key nonce extra data = 0 := by rw [hop, hb]; rfl
      have hoc := (opC_zero ho).2
      show opL key nonce extra data = _
      rw [opL, if_pos ho, openL, if_pos hoc]
    have HOF : Hid (borne key nonce extra data = false → opL key nonce extra data = []) := fun hb => by
      have ho : opC key nonce extra data = 7 := by rw [hop, hb]; rfl
      show opL key nonce extra data = _
      rw [opL, if_neg (by rw [ho]; decide)]
    rw [hop]
    clear h1 h2 h3 hc hs hd hd2 hop hr hr2 hr3 hr4 hT hH
    generalize opL key nonce extra data = ol at *
    generalize borne key nonce extra data = bo at *
    go_enter Tryd.func61, Tryd.ntmps61
    go_wp2_with fail
    refine (K0 _).mono ?_
    rintro e w' ⟨rfl, hw⟩
    subst hw
    go_wp2_with fail
    refine (K.out _ (HR.out.keep (alloc_below _ _)) (HR2.out.keep (alloc_below _ _)) (HR3.out.keep (alloc_below _ _)) (HR4.out.keep (alloc_below _ _)) (HT.out.keep (alloc_below _ _))).mono ?_
    rintro e w1 ⟨u, v, rfl, hy, hn, hb⟩
    have C1 := (Arr.new w [.int .i64 0, .slice none 0 0] 55).stay hb
    have BW := Below.res hb
    have hz : Hid (w.heap.size < w1.heap.size) := size_lt hb
    rw [size_alloc] at hy
    clear hb
    cases bo with
    | true =>
      obtain ⟨rfl, ho⟩ := hy rfl
      have HE := HOL.out rfl
      clear HOL HOF hy hn
      subst HE
      obtain ⟨hd, HHD⟩ := known_of (hideN key nonce (data.take (data.length - 16)))
      rw [← HHD.eq] at ho
      obtain ⟨a, cap, rfl, -⟩ := ho.rd
      go_wp2_with fail
      refine (as_nil _ _).mono ?_
      rintro e w2 ⟨rfl, rfl⟩
      replace C1 := C1.old _ (.cells #[] 87)
      replace BW := Below.mk BW (.cells #[] 87)
      replace ho := ho.stay (alloc_below _ (.cells #[] 87))
      have c0 := C1.cell 0
      have c1 := C1.cell 1
      simp at c0 c1
      have fz := C1.frozen
      go_wp2
      refine bodyPost_ret (v := .agg #[.int .i64 0, .slice a hd.length cap]) (by simp [results, Tryd.results61, go_sem, c0, c1]) rfl ⟨_, rfl, ?_, (BW.setCell (Nat.le_refl _) _).setCell (Nat.le_refl _) _⟩
      have hlt : w.heap.size < w.heap.size + 1 := Nat.lt_succ_self _
      rw [← HHD.eq]
      exact ((ho.set (a := ⟨w.heap.size, _, none⟩) hlt _).set (a := ⟨w.heap.size, _, none⟩) hlt _).lower (Nat.le_succ _)
    | false =>
      obtain ⟨rfl, rfl⟩ := hn rfl
      have HE := HOF.out rfl
      clear HOL HOF hy hn
      subst HE
      go_wp2_with fail
      refine (as_hit ⟨w1.heap.size, 0, none⟩ _ (HH.out.keep (Below.mk BW _))).mono ?_
      rintro e w2 ⟨rfl, hb2⟩
      replace C1 := (C1.old _ (.cells #[] 87)).stay hb2
      replace BW := Below.step (Below.mk BW (.cells #[] 87)) hb2
      have c0 := C1.cell 0
      have c1 := C1.cell 1
      simp at c0 c1
      have fz := C1.frozen
      clear hb2
      go_wp2
      exact bodyPost_ret (v := .agg #[.int .i64 7, .slice none 0 0]) (by simp [results, Tryd.results61, go_sem, c0, c1]) rfl ⟨_, rfl, Own_nil _ _, (BW.setCell (Nat.le_refl _) _).setCell (Nat.le_refl _) _⟩
  · rw [show opL key nonce extra data = [] by rw [opL, if_neg (by rw [ofC_not hc]; exact hc)], ofC_not hc]
    generalize ofC key nonce extra data = c at *
    have cz1 : (c != 0) = true := by rw [bne_iff_ne]; exact hc
    clear hc
    go_enter Tryd.func61, Tryd.ntmps61
    go_wp2_with fail
    refine (K0 _).mono ?_
    rintro e w' ⟨rfl, hw⟩
    subst hw
    go_wp2
    exact bodyPost_ret (v := .agg #[.int .i64 c, .slice none 0 0]) (by simp [results, Tryd.results61, go_sem]) rfl ⟨_, rfl, Own_nil _ _, alloc_below _ _⟩
end Go.Proofs.YtdemfbbjdnjolaaDoor

