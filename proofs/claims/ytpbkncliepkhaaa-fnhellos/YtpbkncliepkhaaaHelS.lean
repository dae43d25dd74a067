/- The contracts of chapter 10's functions in the specification: faults, kinds, packing, at every argument. What was there stays. -/
import Derived.Test.YtpbkncliepkhaaaHel
import Derived.Test.YtpbkncliepkhaaaJoint11
import Derived.Test.YtpbkncliepkhaaaWireB
import Derived.Test.YtpbkncliepkhaaaJoint12
namespace Go.Proofs.Ytpbkncliepkhaaa
open Go.ChangeShapes Go.WideShapes Go.ChangeAt Go.RowKit

set_option maxRecDepth 4000 in
set_option maxHeartbeats 400000 in
theorem l10Fault_c (b : Nat) (h : HelloD) (p : Option Addr) (q : Nat) (w : World) (A : Has w b [.slice p h.1.length q, .int .i64 h.2.1, .int .i64 h.2.2]) :
    Calls Try.prog 51 #[.pointer (some ⟨b, 0, none⟩)] w fun e w' => e = .returned (.int .i64 (hfC h)) ∧ w' = w := by
  have c0 := A 0 _ rfl
  have c1 := A 1 _ rfl
  have c2 := A 2 _ rfl
  clear A
  by_cases h1 : h.1.length = 8
  · have d1 : ((h.1.length : Int) != 8) = false := by rw [bne_eq_false_iff_eq]; omega
    cases h2 : inB h.2.1 1 65520
    · rw [show hfC h = 3 by simp [hfC, h1, h2]]
      clear h1
      go_enter Try.func51, Try.ntmps51
      go_wp2_with fail
      refine (l8Element_c _ _).mono ?_
      rintro e w' ⟨rfl, hw⟩
      subst hw
      rw [h2]
      go_wp2
      go_ret
      exact ⟨rfl, rfl⟩
    · cases h3 : inB h.2.2 0 9
      · rw [show hfC h = 3 by simp [hfC, h1, h2, h3]]
        clear h1
        go_enter Try.func51, Try.ntmps51
        go_wp2_with fail
        refine (l8Element_c _ _).mono ?_
        rintro e w' ⟨rfl, hw⟩
        subst hw
        rw [h2]
        go_wp2_with fail
        refine (l1In_c _ _ _ _).mono ?_
        rintro e w' ⟨rfl, hw⟩
        subst hw
        rw [h3]
        go_wp2
        go_ret
        exact ⟨rfl, rfl⟩
      · rw [show hfC h = 0 by simp [hfC, h1, h2, h3]]
        clear h1
        go_enter Try.func51, Try.ntmps51
        go_wp2_with fail
        refine (l8Element_c _ _).mono ?_
        rintro e w' ⟨rfl, hw⟩
        subst hw
        rw [h2]
        go_wp2_with fail
        refine (l1In_c _ _ _ _).mono ?_
        rintro e w' ⟨rfl, hw⟩
        subst hw
        rw [h3]
        go_wp2
        go_ret
        exact ⟨rfl, rfl⟩
  · have d1 : ((h.1.length : Int) != 8) = true := by rw [bne_iff_ne]; omega
    rw [show hfC h = 1 by simp [hfC, h1]]
    clear h1
    go_enter Try.func51, Try.ntmps51
    go_wp2
    go_ret
    exact ⟨rfl, rfl⟩
theorem specHf_k (h : HelloD) (us : List Value) (w : World) (r : helloC.rep w h us) :
    Calls Try.prog 19 #[.agg us.toArray] w fun e w' => e = .returned (.int .i64 (hfC h)) ∧ Below w.heap.size w w' := by
  obtain ⟨p, q, rfl, -⟩ := hello_rep r
  go_enter Try.func19, Try.ntmps19
  go_wp2_with fail
  refine (l10Fault_c w.heap.size h p q _ (Has.new (Below.refl _ _))).mono ?_
  rintro e w' ⟨rfl, rfl⟩
  go_wp2
  go_ret
  exact ⟨rfl, alloc_below _ _⟩
theorem l10Kind_c (k : Int) (w : World) : Calls Try.prog 42 #[.int .i64 k] w fun e w' => e = .returned (.bool (hkB k)) ∧ w' = w := by
  by_cases h1 : k = 1
  · rw [show hkB k = true by simp [hkB, h1]]
    have d1 : (k == 1) = true := by rw [beq_iff_eq]; exact h1
    clear h1
    go_enter Try.func42, Try.ntmps42
    go_wp2
    go_ret
    exact ⟨rfl, rfl⟩
  · have d1 : (k == 1) = false := by rw [beq_eq_false_iff_ne]; exact h1
    by_cases h2 : k = 2
    · rw [show hkB k = true by simp [hkB, h2]]
      have d2 : (k == 2) = true := by rw [beq_iff_eq]; exact h2
      clear h1 h2
      go_enter Try.func42, Try.ntmps42
      go_wp2
      go_ret
      exact ⟨rfl, rfl⟩
    · rw [show hkB k = false by simp [hkB, h1, h2]]
      have d2 : (k == 2) = false := by rw [beq_eq_false_iff_ne]; exact h2
      clear h1 h2
      go_enter Try.func42, Try.ntmps42
      go_wp2
      go_ret
      exact ⟨rfl, rfl⟩
theorem rdl_three (w : World) (x y z : Pc) (t : TypeId) (hx : Rd w x.p x.q x.bs) (hy : Rd w y.p y.q y.bs) (hz : Rd w z.p z.q z.bs) :
    RdL bytC (w.alloc (.cells #[x.val, y.val, z.val] t)) (some ⟨w.heap.size, 0, none⟩) 3 [x.bs, y.bs, z.bs] := by
  have hb := alloc_below w (.cells #[x.val, y.val, z.val] t)
  have A := Arr.new w [x.val, y.val, z.val] t
  refine ⟨by simp, by unfold maxLen; decide, (fun e => by cases e), fun _ => ⟨w.heap.size, 0, rfl, fun i a hi => ?_⟩⟩
  match i, hi with
  | 0, hi => cases hi; exact ⟨[x.val], ⟨x.p, x.q, rfl, hx.keep hb⟩, fun j u hj => by
      match j, hj with
      | 0, hj => cases hj; exact A.cell 0⟩
  | 1, hi => cases hi; exact ⟨[y.val], ⟨y.p, y.q, rfl, hy.keep hb⟩, fun j u hj => by
      match j, hj with
      | 0, hj => cases hj; exact A.cell 1⟩
  | 2, hi => cases hi; exact ⟨[z.val], ⟨z.p, z.q, rfl, hz.keep hb⟩, fun j u hj => by
      match j, hj with
      | 0, hj => cases hj; exact A.cell 2⟩
set_option maxRecDepth 4000 in
set_option maxHeartbeats 1000000 in
theorem l10Pack_c (k : Int) (b : Nat) (h : HelloD) (p : Option Addr) (q : Nat) (w : World) (A : Arr w b 29 [.slice p h.1.length q, .int .i64 h.2.1, .int .i64 h.2.2]) (hr : Rd w p q h.1) (hc : hfC h = 0) :
    Calls Try.prog 35 #[.int .i64 k, .pointer (some ⟨b, 0, none⟩)] w fun e w' => ∃ u, e = .returned (.agg #[.int .i64 k, u]) ∧ Own w' w.heap.size u (hpL h) ∧ Below w.heap.size w w' := by
  obtain ⟨p1, p2, p3, p4, p5⟩ := hf_parts hc
  have HLen : Hid ((hpL h).length = 14) := hpL_len hc
  have HR : Hid (Rd w p q h.1) := hr
  have BW := alloc_below w (.cells #[.int .i64 0, .slice none 0 0] 25)
  have R := Arr.new w [.int .i64 0, .slice none 0 0] 25
  replace A := A.stay BW
  have hz0 : Hid ((w.alloc (.cells #[.int .i64 0, .slice none 0 0] 25)).heap.size = w.heap.size + 1) := size_alloc _ _
  have KP : Hid (∀ w, Calls Try.prog 60 #[.int .i64 h.2.1, .int .i64 2] w fun e w' => ∃ u, e = .returned u ∧ Own w' w.heap.size u (putB h.2.1.toNat 2) ∧ Below w.heap.size w w') := fun w => by
    have hh := l1Put_c h.2.1.toNat 2 w (by omega) (by decide)
    rw [show ((h.2.1.toNat : Nat) : Int) = h.2.1 by omega] at hh
    exact hh
  have HKB : Hid (h.2.2 = ((UInt8.ofNat h.2.2.toNat).toNat : Int)) := by show _ = _; rw [UInt8.toNat_ofNat']; omega
  clear hr hc p1
  have g0 := HW.at ((A.cell 0).trans (show _ = some _ from rfl))
  have g1 := HW.at ((A.cell 1).trans (show _ = some _ from rfl))
  have g2 := HW.at ((A.cell 2).trans (show _ = some _ from rfl))
  have hne := HW.some (w.alloc (.cells #[.int .i64 0, .slice none 0 0] 25))
  go_enter Try.func35, Try.ntmps35
  go_wp2_with fail
  refine wp_region_pick [0, 1, 2, 3, 4, 5, 6, 7, 8, 10, 11, 12, 13, 14] 18 4 2 rfl rfl rfl (by kernel_rfl) (by kernel_rfl) (by kernel_rfl) (by kernel_rfl) ?_
  simp only [opsAt, List.getElem?_toArray, List.getElem?_cons_zero, List.getElem?_cons_succ]
  repeat (go_big_quiet_step (fail))
  refine wpQuiet_nil ?_
  clear g0 g1 g2
  refine wpM_two (i := 9) (j := 15) (by kernel_rfl) ?_ ?_
  · refine mOp_call rfl (by go_simp) 60 _ #[.int .i64 h.2.1, .int .i64 2] (fun w => by go_simp) rfl ?_
    rintro _ ⟨s9, rfl⟩
    refine (KP.out _).mono ?_
    rintro e w9 ⟨u9, rfl, k9, hb9⟩
    obtain ⟨a9, c9, rfl, -⟩ := k9.rd
    rw [putB_len] at k9 ⊢
    refine ⟨_, rfl, ⟨⟨_, hb9⟩, rfl⟩, ?_⟩
    have hbc := Below.step s9.h hb9
    have hne2 := HW.some w9
    refine wpM_only (i := 15) (by kernel_rfl) ?_
    refine mOp_make rfl (by go_simp) ?_
    rintro _ ⟨sa, rfl⟩
    refine ⟨.slice (some ⟨sa.w.heap.size, 0, none⟩) 1 1, sa.w.alloc (.cells #[.int .u8 h.2.2] 5), by go_simp, ⟨⟨_, alloc_below _ _⟩, rfl⟩, ?_⟩
    have hba := Below.step sa.h (alloc_below sa.w (.cells #[.int .u8 h.2.2] 5))
    have rk := rd_new sa.w [.int .u8 h.2.2] [UInt8.ofNat h.2.2.toNat] 5 1 (by simp only [List.map_cons, List.map_nil, u8v]; rw [← HKB.out]) rfl (by decide)
    have rp := (Rd.own k9).keep hba
    have BV := Below.step BW (Below.step hbc hba)
    replace R := R.stay (Below.step hbc hba)
    generalize sa.w.heap.size = gk at *
    generalize sa.w.alloc (.cells #[.int .u8 h.2.2] 5) = wk at *
    clear hba hbc hb9 k9 hne hne2 A
    have hne3 := HW.some wk
    refine wpM_only (i := 16) (by kernel_rfl) ?_
    refine mOp_make rfl (by go_simp) ?_
    rintro _ ⟨sb, rfl⟩
    refine ⟨.slice (some ⟨sb.w.heap.size, 0, none⟩) 3 3, sb.w.alloc (.cells #[.slice p h.1.length q, .slice a9 2 c9, .slice (some ⟨gk, 0, none⟩) 1 1] 22), by go_simp, ⟨⟨_, alloc_below _ _⟩, rfl⟩, ?_⟩
    have r3 := rdl_three sb.w ⟨p, q, h.1⟩ ⟨a9, c9, putB h.2.1.toNat 2⟩ ⟨some ⟨gk, 0, none⟩, 1, [UInt8.ofNat h.2.2.toNat]⟩ 22 (HR.out.keep (Below.step BV sb.h)) (rp.keep sb.h) (rk.keep sb.h)
    simp only [Pc.val, putB_len, List.length_singleton] at r3
    have hbb := Below.step sb.h (alloc_below sb.w (.cells #[.slice p h.1.length q, .slice a9 2 c9, .slice (some ⟨gk, 0, none⟩) 1 1] 22))
    replace R := R.stay hbb
    replace BV := Below.step BV hbb
    generalize sb.w.heap.size = gb at *
    generalize sb.w.alloc (.cells #[.slice p h.1.length q, .slice a9 2 c9, .slice (some ⟨gk, 0, none⟩) 1 1] 22) = wb at *
    clear hbb
    have hne4 := HW.some wb
    refine wpM_only (i := 17) (by kernel_rfl) ?_
    refine mOp_call rfl (by go_simp) 59 _ #[.slice (some ⟨gb, 0, none⟩) 3 3] (fun w => by go_simp) rfl ?_
    rintro _ ⟨sc, rfl⟩
    refine (l6Blocks_c (hpB h) (some ⟨gb, 0, none⟩) 3 _ (r3.keep sc.h) (by have := HLen.out; unfold hpL at this; omega)).mono ?_
    rintro e wc ⟨uc, rfl, kc, hbx⟩
    obtain ⟨ac, cc, rfl, -⟩ := kc.rd
    refine ⟨_, rfl, ⟨⟨_, hbx⟩, rfl⟩, ?_⟩
    have hbd := Below.step sc.h hbx
    replace kc := kc.lower (show w.heap.size + 1 ≤ sc.w.heap.size from Nat.le_trans (show w.heap.size + 1 ≤ wb.heap.size from R.lt) sc.h.size)
    replace R := R.stay hbd
    replace BV := Below.step BV hbd
    clear hbd hbx
    refine wpM_end (by kernel_rfl) rfl (by kernel_rfl) (by decide) ?_
    rintro _ ⟨sz, rfl⟩
    simp only [List.drop_succ_cons, List.drop_zero]
    replace R := R.stay sz.h
    replace kc := kc.stay sz.h
    replace BV := Below.step BV sz.h
    generalize sz.w = wz at *
    have t0 := (R.cell 0).trans (show _ = some _ from rfl)
    have t1 := (R.cell 1).trans (show _ = some _ from rfl)
    have ft := R.frozen
    go_wp2_with fail
    exact bodyPost_ret (v := .agg #[.int .i64 k, .slice ac (blksN (hpB h)).length cc]) (by simp [results, Try.results35, go_sem, t0, t1]) rfl ⟨_, rfl, ((kc.set (Nat.lt_succ_self _) _).set (Nat.lt_succ_self _) _).lower (Nat.le_succ _), (BV.setCell (Nat.le_refl _) _).setCell (Nat.le_refl _) _⟩
  · refine mOp_make rfl (by go_simp) ?_
    rintro _ ⟨sa, rfl⟩
    refine ⟨.slice (some ⟨sa.w.heap.size, 0, none⟩) 1 1, sa.w.alloc (.cells #[.int .u8 h.2.2] 5), by go_simp, ⟨⟨_, alloc_below _ _⟩, rfl⟩, ?_⟩
    have hba := Below.step sa.h (alloc_below sa.w (.cells #[.int .u8 h.2.2] 5))
    have rk := rd_new sa.w [.int .u8 h.2.2] [UInt8.ofNat h.2.2.toNat] 5 1 (by simp only [List.map_cons, List.map_nil, u8v]; rw [← HKB.out]) rfl (by decide)
    generalize sa.w.heap.size = gk at *
    generalize sa.w.alloc (.cells #[.int .u8 h.2.2] 5) = wk at *
    have hne2 := HW.some wk
    refine wpM_only (i := 9) (by kernel_rfl) ?_
    refine mOp_call rfl (by go_simp) 60 _ #[.int .i64 h.2.1, .int .i64 2] (fun w => by go_simp) rfl ?_
    rintro _ ⟨s9, rfl⟩
    refine (KP.out _).mono ?_
    rintro e w9 ⟨u9, rfl, k9, hb9⟩
    obtain ⟨a9, c9, rfl, -⟩ := k9.rd
    rw [putB_len] at k9 ⊢
    refine ⟨_, rfl, ⟨⟨_, hb9⟩, rfl⟩, ?_⟩
    have hbc := Below.step s9.h hb9
    have rp := Rd.own k9
    replace rk := rk.keep hbc
    have BV := Below.step BW (Below.step hba hbc)
    replace R := R.stay (Below.step hba hbc)
    clear hba hbc hb9 k9 hne hne2 A
    have hne3 := HW.some w9
    refine wpM_only (i := 16) (by kernel_rfl) ?_
    refine mOp_make rfl (by go_simp) ?_
    rintro _ ⟨sb, rfl⟩
    refine ⟨.slice (some ⟨sb.w.heap.size, 0, none⟩) 3 3, sb.w.alloc (.cells #[.slice p h.1.length q, .slice a9 2 c9, .slice (some ⟨gk, 0, none⟩) 1 1] 22), by go_simp, ⟨⟨_, alloc_below _ _⟩, rfl⟩, ?_⟩
    have r3 := rdl_three sb.w ⟨p, q, h.1⟩ ⟨a9, c9, putB h.2.1.toNat 2⟩ ⟨some ⟨gk, 0, none⟩, 1, [UInt8.ofNat h.2.2.toNat]⟩ 22 (HR.out.keep (Below.step BV sb.h)) (rp.keep sb.h) (rk.keep sb.h)
    simp only [Pc.val, putB_len, List.length_singleton] at r3
    have hbb := Below.step sb.h (alloc_below sb.w (.cells #[.slice p h.1.length q, .slice a9 2 c9, .slice (some ⟨gk, 0, none⟩) 1 1] 22))
    replace R := R.stay hbb
    replace BV := Below.step BV hbb
    generalize sb.w.heap.size = gb at *
    generalize sb.w.alloc (.cells #[.slice p h.1.length q, .slice a9 2 c9, .slice (some ⟨gk, 0, none⟩) 1 1] 22) = wb at *
    clear hbb
    have hne4 := HW.some wb
    refine wpM_only (i := 17) (by kernel_rfl) ?_
    refine mOp_call rfl (by go_simp) 59 _ #[.slice (some ⟨gb, 0, none⟩) 3 3] (fun w => by go_simp) rfl ?_
    rintro _ ⟨sc, rfl⟩
    refine (l6Blocks_c (hpB h) (some ⟨gb, 0, none⟩) 3 _ (r3.keep sc.h) (by have := HLen.out; unfold hpL at this; omega)).mono ?_
    rintro e wc ⟨uc, rfl, kc, hbx⟩
    obtain ⟨ac, cc, rfl, -⟩ := kc.rd
    refine ⟨_, rfl, ⟨⟨_, hbx⟩, rfl⟩, ?_⟩
    have hbd := Below.step sc.h hbx
    replace kc := kc.lower (show w.heap.size + 1 ≤ sc.w.heap.size from Nat.le_trans (show w.heap.size + 1 ≤ wb.heap.size from R.lt) sc.h.size)
    replace R := R.stay hbd
    replace BV := Below.step BV hbd
    clear hbd hbx
    refine wpM_end (by kernel_rfl) rfl (by kernel_rfl) (by decide) ?_
    rintro _ ⟨sz, rfl⟩
    simp only [List.drop_succ_cons, List.drop_zero]
    replace R := R.stay sz.h
    replace kc := kc.stay sz.h
    replace BV := Below.step BV sz.h
    generalize sz.w = wz at *
    have t0 := (R.cell 0).trans (show _ = some _ from rfl)
    have t1 := (R.cell 1).trans (show _ = some _ from rfl)
    have ft := R.frozen
    go_wp2_with fail
    exact bodyPost_ret (v := .agg #[.int .i64 k, .slice ac (blksN (hpB h)).length cc]) (by simp [results, Try.results35, go_sem, t0, t1]) rfl ⟨_, rfl, ((kc.set (Nat.lt_succ_self _) _).set (Nat.lt_succ_self _) _).lower (Nat.le_succ _), (BV.setCell (Nat.le_refl _) _).setCell (Nat.le_refl _) _⟩
end Go.Proofs.Ytpbkncliepkhaaa

