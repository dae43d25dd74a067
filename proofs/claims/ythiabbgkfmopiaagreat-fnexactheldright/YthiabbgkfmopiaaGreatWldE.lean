/- Chapter 15, the specification's side: an event (written by tools/wld_e.py). What was there stays. -/
import Derived.Test.YthiabbgkfmopiaaGreatWldS
namespace Go.Proofs.YthiabbgkfmopiaaGreat
open Go.ChangeShapes Go.WideShapes Go.ChangeAt Go.RowKit

theorem l1In_d (v lo hi : Int) (w : World) : Calls Tryz.prog 39 #[.int .i64 v, .int .i64 lo, .int .i64 hi] w fun e w' => e = .returned (.bool (inB v lo hi)) ∧ Below w.heap.size w w' := (l1In_c v lo hi w).mono fun _ _ h => ⟨h.1, by rw [h.2]; exact Below.refl _ _⟩
theorem l13Role_d (r : Int) (w : World) : Calls Tryz.prog 69 #[.int .i64 r] w fun e w' => e = .returned (.bool (roleB r)) ∧ Below w.heap.size w w' := (l13Role_c r w).mono fun _ _ h => ⟨h.1, by rw [h.2]; exact Below.refl _ _⟩
theorem role_in (r : Int) : roleB r = inB r 1 2 := by
  unfold roleB inB
  by_cases h1 : r = 1
  · subst h1; decide
  · by_cases h2 : r = 2
    · subst h2; decide
    · have : ¬ (1 ≤ r ∧ r ≤ 2) := by omega
      simp [h1, h2]
      omega
set_option maxRecDepth 4000 in
set_option maxHeartbeats 4000000 in
theorem l15Event_c (b o b2 o2 : Nat) (a : EventD) (n : Nat) (pl p4 : Option Addr) (ql q4 : Nat) (w : World) (hl : w.cell? ⟨b, o + 4, none⟩ = some (.slice pl n ql)) (hn : n ≤ 1000000)
    (e0 : w.cell? ⟨b2, o2, none⟩ = some (.int .i64 a.1)) (e1 : w.cell? ⟨b2, o2 + 1, none⟩ = some (.int .i64 a.2.1)) (e2 : w.cell? ⟨b2, o2 + 2, none⟩ = some (.int .i64 a.2.2.1)) (e3 : w.cell? ⟨b2, o2 + 3, none⟩ = some (.slice p4 a.2.2.2.1.length q4)) (e4 : w.cell? ⟨b2, o2 + 4, none⟩ = some (.int .i64 a.2.2.2.2.1)) (e5 : w.cell? ⟨b2, o2 + 5, none⟩ = some (.int .i64 a.2.2.2.2.2)) :
    Calls Tryz.prog 43 #[.pointer (some ⟨b, o, none⟩), .pointer (some ⟨b2, o2, none⟩)] w fun e w' => e = .returned (.bool (evB n a)) ∧ Below w.heap.size w w' := by
  obtain ⟨Z, HZ⟩ : ∃ Z, (if a.1 = 3 then (a.2.2.2.1.length : Int) == 0 else inB (a.2.2.2.1.length : Int) 1 20) = Z := ⟨_, rfl⟩
  obtain ⟨A1, HA1⟩ : ∃ A, inB a.1 1 3 = A := ⟨_, rfl⟩
  obtain ⟨A2, HA2⟩ : ∃ A, inB a.2.1 0 ((n : Int) - 1) = A := ⟨_, rfl⟩
  obtain ⟨A3, HA3⟩ : ∃ A, roleB a.2.2.1 = A := ⟨_, rfl⟩
  obtain ⟨A4, HA4⟩ : ∃ A, inB a.2.2.2.2.1 1 99 = A := ⟨_, rfl⟩
  obtain ⟨A5, HA5⟩ : ∃ A, inB a.2.2.2.2.2 0 9 = A := ⟨_, rfl⟩
  have HE : Hid (evB n a = (A1 && A2 && A3 && A4 && A5 && Z)) := by show _ = _; unfold evB; rw [HZ, HA1, HA2, HA4, HA5, ← HA3, role_in]
  have hw : wrap64 ((n : Int) - 1) = (n : Int) - 1 := by unfold wrap64; omega
  have KA1 : Hid (∀ W, Calls Tryz.prog 39 #[.int .i64 a.1, .int .i64 1, .int .i64 3] W fun e w' => e = .returned (.bool A1) ∧ Below W.heap.size W w') := fun W => by rw [← HA1]; exact l1In_d a.1 1 3 W
  have KA2 : Hid (∀ W, Calls Tryz.prog 39 #[.int .i64 a.2.1, .int .i64 0, .int .i64 ((n : Int) - 1)] W fun e w' => e = .returned (.bool A2) ∧ Below W.heap.size W w') := fun W => by rw [← HA2]; exact l1In_d a.2.1 0 ((n : Int) - 1) W
  have KA3 : Hid (∀ W, Calls Tryz.prog 69 #[.int .i64 a.2.2.1] W fun e w' => e = .returned (.bool A3) ∧ Below W.heap.size W w') := fun W => by rw [← HA3]; exact l13Role_d a.2.2.1 W
  have KA4 : Hid (∀ W, Calls Tryz.prog 39 #[.int .i64 a.2.2.2.2.1, .int .i64 1, .int .i64 99] W fun e w' => e = .returned (.bool A4) ∧ Below W.heap.size W w') := fun W => by rw [← HA4]; exact l1In_d a.2.2.2.2.1 1 99 W
  have KA5 : Hid (∀ W, Calls Tryz.prog 39 #[.int .i64 a.2.2.2.2.2, .int .i64 0, .int .i64 9] W fun e w' => e = .returned (.bool A5) ∧ Below W.heap.size W w') := fun W => by rw [← HA5]; exact l1In_d a.2.2.2.2.2 0 9 W
  clear HA1 HA2 HA3 HA4 HA5
  go_enter Tryz.func43, Tryz.ntmps43
  go_wp2_with fail
  refine (l1In_c (a.2.2.2.1.length : Int) 1 20 w).mono ?_
  rintro e w1 ⟨rfl, hw⟩
  rw [hw]
  clear hw w1
  by_cases hk : a.1 = 3
  · have d3 : (a.1 == 3) = true := by rw [beq_iff_eq]; exact hk
    rw [if_pos hk] at HZ
    clear hk
    go_wp2_with fail
    try rw [HZ]
    clear HZ d3
    have BB := Below.refl w.heap.size w
    have hne := HW.some w
    have g0 := HW.at e0
    refine wp_region_pick [0, 1, 2, 3] 42 38 1 rfl rfl rfl (by kernel_rfl) (by kernel_rfl) (by kernel_rfl) (by kernel_rfl) ?_
    simp only [opsAt, List.getElem?_toArray, List.getElem?_cons_zero, List.getElem?_cons_succ]
    repeat (go_big_quiet_step (fail))
    refine wpQuiet_nil ?_
    clear g0 hne
    refine wpM_only (i := 4) (by kernel_rfl) ?_
    refine mOp_call rfl (by go_simp) 39 _ #[.int .i64 a.1, .int .i64 1, .int .i64 3] (fun w => by go_simp) rfl ?_
    rintro _ ⟨sg, rfl⟩
    refine (KA1.out _).mono ?_
    rintro e wg0 ⟨rfl, hbx⟩
    have hbg := Below.step sg.h hbx
    refine ⟨_, rfl, ⟨⟨wg0, hbx⟩, rfl⟩, ?_⟩
    replace BB := Below.step BB hbg
    clear hbg hbx sg
    have g1 := HW.at (cell_keep e1 BB)
    have gl := HW.at (cell_keep hl BB)
    have hne := HW.some wg0
    cases A1
    case false =>
      refine wpM_more [5, 6, 7, 8, 9, 10, 11, 12, 13, 14, 15] 37 26 rfl (by kernel_rfl) (by kernel_rfl) (by kernel_rfl) (by kernel_rfl) ?_
      simp only [opsAt, List.getElem?_toArray, List.getElem?_cons_zero, List.getElem?_cons_succ]
      go_simp
      repeat (go_big_quiet_step (fail))
      refine wpQuiet_nil ?_
      refine wpM_only (i := 16) (by kernel_rfl) ?_
      refine mOp_skip rfl (by go_simp) ?_
      refine wpM_more [17, 18, 19, 20, 21, 22] 25 19 rfl (by kernel_rfl) (by kernel_rfl) (by kernel_rfl) (by kernel_rfl) ?_
      simp only [opsAt, List.getElem?_toArray, List.getElem?_cons_zero, List.getElem?_cons_succ]
      go_simp
      repeat (go_big_quiet_step (fail))
      refine wpQuiet_nil ?_
      refine wpM_only (i := 23) (by kernel_rfl) ?_
      refine mOp_skip rfl (by go_simp) ?_
      refine wpM_more [24, 25, 26, 27, 28, 29] 18 12 rfl (by kernel_rfl) (by kernel_rfl) (by kernel_rfl) (by kernel_rfl) ?_
      simp only [opsAt, List.getElem?_toArray, List.getElem?_cons_zero, List.getElem?_cons_succ]
      go_simp
      repeat (go_big_quiet_step (fail))
      refine wpQuiet_nil ?_
      refine wpM_only (i := 30) (by kernel_rfl) ?_
      refine mOp_skip rfl (by go_simp) ?_
      refine wpM_more [31, 32, 33, 34, 35, 36] 11 5 rfl (by kernel_rfl) (by kernel_rfl) (by kernel_rfl) (by kernel_rfl) ?_
      simp only [opsAt, List.getElem?_toArray, List.getElem?_cons_zero, List.getElem?_cons_succ]
      go_simp
      repeat (go_big_quiet_step (fail))
      refine wpQuiet_nil ?_
      refine wpM_only (i := 37) (by kernel_rfl) ?_
      refine mOp_skip rfl (by go_simp) ?_
      refine wpM_more [38, 39, 40, 41] 4 0 rfl (by kernel_rfl) (by kernel_rfl) (by kernel_rfl) (by kernel_rfl) ?_
      simp only [opsAt, List.getElem?_toArray, List.getElem?_cons_zero, List.getElem?_cons_succ]
      go_simp
      repeat (go_big_quiet_step (fail))
      refine wpQuiet_nil ?_
      refine wpM_end (by kernel_rfl) rfl (by kernel_rfl) (by decide) ?_
      rintro _ ⟨sz, rfl⟩
      simp only [List.drop_succ_cons, List.drop_zero]
      go_simp
      have BZ := Below.step BB sz.h
      go_wp2_with fail
      go_ret
      exact ⟨by rw [HE.out]; rfl, BZ⟩
    refine wpM_more [5, 6, 7, 8, 9, 10, 11, 12, 13, 14, 15] 37 26 rfl (by kernel_rfl) (by kernel_rfl) (by kernel_rfl) (by kernel_rfl) ?_
    simp only [opsAt, List.getElem?_toArray, List.getElem?_cons_zero, List.getElem?_cons_succ]
    go_simp
    repeat (go_big_quiet_step (fail))
    refine wpQuiet_nil ?_
    clear hne g1 gl
    refine wpM_only (i := 16) (by kernel_rfl) ?_
    refine mOp_call rfl (by go_simp) 39 _ #[.int .i64 a.2.1, .int .i64 0, .int .i64 ((n : Int) - 1)] (fun w => by go_simp) rfl ?_
    rintro _ ⟨sg, rfl⟩
    refine (KA2.out _).mono ?_
    rintro e wg1 ⟨rfl, hbx⟩
    have hbg := Below.step sg.h hbx
    refine ⟨_, rfl, ⟨⟨wg1, hbx⟩, rfl⟩, ?_⟩
    replace BB := Below.step BB hbg
    clear hbg hbx sg
    have g2 := HW.at (cell_keep e2 BB)
    have hne := HW.some wg1
    cases A2
    case false =>
      refine wpM_more [17, 18, 19, 20, 21, 22] 25 19 rfl (by kernel_rfl) (by kernel_rfl) (by kernel_rfl) (by kernel_rfl) ?_
      simp only [opsAt, List.getElem?_toArray, List.getElem?_cons_zero, List.getElem?_cons_succ]
      go_simp
      repeat (go_big_quiet_step (fail))
      refine wpQuiet_nil ?_
      refine wpM_only (i := 23) (by kernel_rfl) ?_
      refine mOp_skip rfl (by go_simp) ?_
      refine wpM_more [24, 25, 26, 27, 28, 29] 18 12 rfl (by kernel_rfl) (by kernel_rfl) (by kernel_rfl) (by kernel_rfl) ?_
      simp only [opsAt, List.getElem?_toArray, List.getElem?_cons_zero, List.getElem?_cons_succ]
      go_simp
      repeat (go_big_quiet_step (fail))
      refine wpQuiet_nil ?_
      refine wpM_only (i := 30) (by kernel_rfl) ?_
      refine mOp_skip rfl (by go_simp) ?_
      refine wpM_more [31, 32, 33, 34, 35, 36] 11 5 rfl (by kernel_rfl) (by kernel_rfl) (by kernel_rfl) (by kernel_rfl) ?_
      simp only [opsAt, List.getElem?_toArray, List.getElem?_cons_zero, List.getElem?_cons_succ]
      go_simp
      repeat (go_big_quiet_step (fail))
      refine wpQuiet_nil ?_
      refine wpM_only (i := 37) (by kernel_rfl) ?_
      refine mOp_skip rfl (by go_simp) ?_
      refine wpM_more [38, 39, 40, 41] 4 0 rfl (by kernel_rfl) (by kernel_rfl) (by kernel_rfl) (by kernel_rfl) ?_
      simp only [opsAt, List.getElem?_toArray, List.getElem?_cons_zero, List.getElem?_cons_succ]
      go_simp
      repeat (go_big_quiet_step (fail))
      refine wpQuiet_nil ?_
      refine wpM_end (by kernel_rfl) rfl (by kernel_rfl) (by decide) ?_
      rintro _ ⟨sz, rfl⟩
      simp only [List.drop_succ_cons, List.drop_zero]
      go_simp
      have BZ := Below.step BB sz.h
      go_wp2_with fail
      go_ret
      exact ⟨by rw [HE.out]; rfl, BZ⟩
    refine wpM_more [17, 18, 19, 20, 21, 22] 25 19 rfl (by kernel_rfl) (by kernel_rfl) (by kernel_rfl) (by kernel_rfl) ?_
    simp only [opsAt, List.getElem?_toArray, List.getElem?_cons_zero, List.getElem?_cons_succ]
    go_simp
    repeat (go_big_quiet_step (fail))
    refine wpQuiet_nil ?_
    clear hne g2
    refine wpM_only (i := 23) (by kernel_rfl) ?_
    refine mOp_call rfl (by go_simp) 69 _ #[.int .i64 a.2.2.1] (fun w => by go_simp) rfl ?_
    rintro _ ⟨sg, rfl⟩
    refine (KA3.out _).mono ?_
    rintro e wg2 ⟨rfl, hbx⟩
    have hbg := Below.step sg.h hbx
    refine ⟨_, rfl, ⟨⟨wg2, hbx⟩, rfl⟩, ?_⟩
    replace BB := Below.step BB hbg
    clear hbg hbx sg
    have g4 := HW.at (cell_keep e4 BB)
    have hne := HW.some wg2
    cases A3
    case false =>
      refine wpM_more [24, 25, 26, 27, 28, 29] 18 12 rfl (by kernel_rfl) (by kernel_rfl) (by kernel_rfl) (by kernel_rfl) ?_
      simp only [opsAt, List.getElem?_toArray, List.getElem?_cons_zero, List.getElem?_cons_succ]
      go_simp
      repeat (go_big_quiet_step (fail))
      refine wpQuiet_nil ?_
      refine wpM_only (i := 30) (by kernel_rfl) ?_
      refine mOp_skip rfl (by go_simp) ?_
      refine wpM_more [31, 32, 33, 34, 35, 36] 11 5 rfl (by kernel_rfl) (by kernel_rfl) (by kernel_rfl) (by kernel_rfl) ?_
      simp only [opsAt, List.getElem?_toArray, List.getElem?_cons_zero, List.getElem?_cons_succ]
      go_simp
      repeat (go_big_quiet_step (fail))
      refine wpQuiet_nil ?_
      refine wpM_only (i := 37) (by kernel_rfl) ?_
      refine mOp_skip rfl (by go_simp) ?_
      refine wpM_more [38, 39, 40, 41] 4 0 rfl (by kernel_rfl) (by kernel_rfl) (by kernel_rfl) (by kernel_rfl) ?_
      simp only [opsAt, List.getElem?_toArray, List.getElem?_cons_zero, List.getElem?_cons_succ]
      go_simp
      repeat (go_big_quiet_step (fail))
      refine wpQuiet_nil ?_
      refine wpM_end (by kernel_rfl) rfl (by kernel_rfl) (by decide) ?_
      rintro _ ⟨sz, rfl⟩
      simp only [List.drop_succ_cons, List.drop_zero]
      go_simp
      have BZ := Below.step BB sz.h
      go_wp2_with fail
      go_ret
      exact ⟨by rw [HE.out]; rfl, BZ⟩
    refine wpM_more [24, 25, 26, 27, 28, 29] 18 12 rfl (by kernel_rfl) (by kernel_rfl) (by kernel_rfl) (by kernel_rfl) ?_
    simp only [opsAt, List.getElem?_toArray, List.getElem?_cons_zero, List.getElem?_cons_succ]
    go_simp
    repeat (go_big_quiet_step (fail))
    refine wpQuiet_nil ?_
    clear hne g4
    refine wpM_only (i := 30) (by kernel_rfl) ?_
    refine mOp_call rfl (by go_simp) 39 _ #[.int .i64 a.2.2.2.2.1, .int .i64 1, .int .i64 99] (fun w => by go_simp) rfl ?_
    rintro _ ⟨sg, rfl⟩
    refine (KA4.out _).mono ?_
    rintro e wg3 ⟨rfl, hbx⟩
    have hbg := Below.step sg.h hbx
    refine ⟨_, rfl, ⟨⟨wg3, hbx⟩, rfl⟩, ?_⟩
    replace BB := Below.step BB hbg
    clear hbg hbx sg
    have g5 := HW.at (cell_keep e5 BB)
    have hne := HW.some wg3
    cases A4
    case false =>
      refine wpM_more [31, 32, 33, 34, 35, 36] 11 5 rfl (by kernel_rfl) (by kernel_rfl) (by kernel_rfl) (by kernel_rfl) ?_
      simp only [opsAt, List.getElem?_toArray, List.getElem?_cons_zero, List.getElem?_cons_succ]
      go_simp
      repeat (go_big_quiet_step (fail))
      refine wpQuiet_nil ?_
      refine wpM_only (i := 37) (by kernel_rfl) ?_
      refine mOp_skip rfl (by go_simp) ?_
      refine wpM_more [38, 39, 40, 41] 4 0 rfl (by kernel_rfl) (by kernel_rfl) (by kernel_rfl) (by kernel_rfl) ?_
      simp only [opsAt, List.getElem?_toArray, List.getElem?_cons_zero, List.getElem?_cons_succ]
      go_simp
      repeat (go_big_quiet_step (fail))
      refine wpQuiet_nil ?_
      refine wpM_end (by kernel_rfl) rfl (by kernel_rfl) (by decide) ?_
      rintro _ ⟨sz, rfl⟩
      simp only [List.drop_succ_cons, List.drop_zero]
      go_simp
      have BZ := Below.step BB sz.h
      go_wp2_with fail
      go_ret
      exact ⟨by rw [HE.out]; rfl, BZ⟩
    refine wpM_more [31, 32, 33, 34, 35, 36] 11 5 rfl (by kernel_rfl) (by kernel_rfl) (by kernel_rfl) (by kernel_rfl) ?_
    simp only [opsAt, List.getElem?_toArray, List.getElem?_cons_zero, List.getElem?_cons_succ]
    go_simp
    repeat (go_big_quiet_step (fail))
    refine wpQuiet_nil ?_
    clear hne g5
    refine wpM_only (i := 37) (by kernel_rfl) ?_
    refine mOp_call rfl (by go_simp) 39 _ #[.int .i64 a.2.2.2.2.2, .int .i64 0, .int .i64 9] (fun w => by go_simp) rfl ?_
    rintro _ ⟨sg, rfl⟩
    refine (KA5.out _).mono ?_
    rintro e wg4 ⟨rfl, hbx⟩
    have hbg := Below.step sg.h hbx
    refine ⟨_, rfl, ⟨⟨wg4, hbx⟩, rfl⟩, ?_⟩
    replace BB := Below.step BB hbg
    clear hbg hbx sg
    have hne := HW.some wg4
    cases A5
    case false =>
      refine wpM_more [38, 39, 40, 41] 4 0 rfl (by kernel_rfl) (by kernel_rfl) (by kernel_rfl) (by kernel_rfl) ?_
      simp only [opsAt, List.getElem?_toArray, List.getElem?_cons_zero, List.getElem?_cons_succ]
      go_simp
      repeat (go_big_quiet_step (fail))
      refine wpQuiet_nil ?_
      refine wpM_end (by kernel_rfl) rfl (by kernel_rfl) (by decide) ?_
      rintro _ ⟨sz, rfl⟩
      simp only [List.drop_succ_cons, List.drop_zero]
      go_simp
      have BZ := Below.step BB sz.h
      go_wp2_with fail
      go_ret
      exact ⟨by rw [HE.out]; rfl, BZ⟩
    refine wpM_more [38, 39, 40, 41] 4 0 rfl (by kernel_rfl) (by kernel_rfl) (by kernel_rfl) (by kernel_rfl) ?_
    simp only [opsAt, List.getElem?_toArray, List.getElem?_cons_zero, List.getElem?_cons_succ]
    go_simp
    repeat (go_big_quiet_step (fail))
    refine wpQuiet_nil ?_
    clear hne
    refine wpM_end (by kernel_rfl) rfl (by kernel_rfl) (by decide) ?_
    rintro _ ⟨sz, rfl⟩
    simp only [List.drop_succ_cons, List.drop_zero]
    go_simp
    have BZ := Below.step BB sz.h
    go_wp2_with fail
    go_ret
    exact ⟨by rw [HE.out]; rfl, BZ⟩
  · have d3 : (a.1 == 3) = false := by rw [beq_eq_false_iff_ne]; exact hk
    rw [if_neg hk] at HZ
    clear hk
    go_wp2_with fail
    try rw [HZ]
    clear HZ d3
    have BB := Below.refl w.heap.size w
    have hne := HW.some w
    have g0 := HW.at e0
    refine wp_region_pick [0, 1, 2, 3] 42 38 1 rfl rfl rfl (by kernel_rfl) (by kernel_rfl) (by kernel_rfl) (by kernel_rfl) ?_
    simp only [opsAt, List.getElem?_toArray, List.getElem?_cons_zero, List.getElem?_cons_succ]
    repeat (go_big_quiet_step (fail))
    refine wpQuiet_nil ?_
    clear g0 hne
    refine wpM_only (i := 4) (by kernel_rfl) ?_
    refine mOp_call rfl (by go_simp) 39 _ #[.int .i64 a.1, .int .i64 1, .int .i64 3] (fun w => by go_simp) rfl ?_
    rintro _ ⟨sg, rfl⟩
    refine (KA1.out _).mono ?_
    rintro e wg0 ⟨rfl, hbx⟩
    have hbg := Below.step sg.h hbx
    refine ⟨_, rfl, ⟨⟨wg0, hbx⟩, rfl⟩, ?_⟩
    replace BB := Below.step BB hbg
    clear hbg hbx sg
    have g1 := HW.at (cell_keep e1 BB)
    have gl := HW.at (cell_keep hl BB)
    have hne := HW.some wg0
    cases A1
    case false =>
      refine wpM_more [5, 6, 7, 8, 9, 10, 11, 12, 13, 14, 15] 37 26 rfl (by kernel_rfl) (by kernel_rfl) (by kernel_rfl) (by kernel_rfl) ?_
      simp only [opsAt, List.getElem?_toArray, List.getElem?_cons_zero, List.getElem?_cons_succ]
      go_simp
      repeat (go_big_quiet_step (fail))
      refine wpQuiet_nil ?_
      refine wpM_only (i := 16) (by kernel_rfl) ?_
      refine mOp_skip rfl (by go_simp) ?_
      refine wpM_more [17, 18, 19, 20, 21, 22] 25 19 rfl (by kernel_rfl) (by kernel_rfl) (by kernel_rfl) (by kernel_rfl) ?_
      simp only [opsAt, List.getElem?_toArray, List.getElem?_cons_zero, List.getElem?_cons_succ]
      go_simp
      repeat (go_big_quiet_step (fail))
      refine wpQuiet_nil ?_
      refine wpM_only (i := 23) (by kernel_rfl) ?_
      refine mOp_skip rfl (by go_simp) ?_
      refine wpM_more [24, 25, 26, 27, 28, 29] 18 12 rfl (by kernel_rfl) (by kernel_rfl) (by kernel_rfl) (by kernel_rfl) ?_
      simp only [opsAt, List.getElem?_toArray, List.getElem?_cons_zero, List.getElem?_cons_succ]
      go_simp
      repeat (go_big_quiet_step (fail))
      refine wpQuiet_nil ?_
      refine wpM_only (i := 30) (by kernel_rfl) ?_
      refine mOp_skip rfl (by go_simp) ?_
      refine wpM_more [31, 32, 33, 34, 35, 36] 11 5 rfl (by kernel_rfl) (by kernel_rfl) (by kernel_rfl) (by kernel_rfl) ?_
      simp only [opsAt, List.getElem?_toArray, List.getElem?_cons_zero, List.getElem?_cons_succ]
      go_simp
      repeat (go_big_quiet_step (fail))
      refine wpQuiet_nil ?_
      refine wpM_only (i := 37) (by kernel_rfl) ?_
      refine mOp_skip rfl (by go_simp) ?_
      refine wpM_more [38, 39, 40, 41] 4 0 rfl (by kernel_rfl) (by kernel_rfl) (by kernel_rfl) (by kernel_rfl) ?_
      simp only [opsAt, List.getElem?_toArray, List.getElem?_cons_zero, List.getElem?_cons_succ]
      go_simp
      repeat (go_big_quiet_step (fail))
      refine wpQuiet_nil ?_
      refine wpM_end (by kernel_rfl) rfl (by kernel_rfl) (by decide) ?_
      rintro _ ⟨sz, rfl⟩
      simp only [List.drop_succ_cons, List.drop_zero]
      go_simp
      have BZ := Below.step BB sz.h
      go_wp2_with fail
      go_ret
      exact ⟨by rw [HE.out]; rfl, BZ⟩
    refine wpM_more [5, 6, 7, 8, 9, 10, 11, 12, 13, 14, 15] 37 26 rfl (by kernel_rfl) (by kernel_rfl) (by kernel_rfl) (by kernel_rfl) ?_
    simp only [opsAt, List.getElem?_toArray, List.getElem?_cons_zero, List.getElem?_cons_succ]
    go_simp
    repeat (go_big_quiet_step (fail))
    refine wpQuiet_nil ?_
    clear hne g1 gl
    refine wpM_only (i := 16) (by kernel_rfl) ?_
    refine mOp_call rfl (by go_simp) 39 _ #[.int .i64 a.2.1, .int .i64 0, .int .i64 ((n : Int) - 1)] (fun w => by go_simp) rfl ?_
    rintro _ ⟨sg, rfl⟩
    refine (KA2.out _).mono ?_
    rintro e wg1 ⟨rfl, hbx⟩
    have hbg := Below.step sg.h hbx
    refine ⟨_, rfl, ⟨⟨wg1, hbx⟩, rfl⟩, ?_⟩
    replace BB := Below.step BB hbg
    clear hbg hbx sg
    have g2 := HW.at (cell_keep e2 BB)
    have hne := HW.some wg1
    cases A2
    case false =>
      refine wpM_more [17, 18, 19, 20, 21, 22] 25 19 rfl (by kernel_rfl) (by kernel_rfl) (by kernel_rfl) (by kernel_rfl) ?_
      simp only [opsAt, List.getElem?_toArray, List.getElem?_cons_zero, List.getElem?_cons_succ]
      go_simp
      repeat (go_big_quiet_step (fail))
      refine wpQuiet_nil ?_
      refine wpM_only (i := 23) (by kernel_rfl) ?_
      refine mOp_skip rfl (by go_simp) ?_
      refine wpM_more [24, 25, 26, 27, 28, 29] 18 12 rfl (by kernel_rfl) (by kernel_rfl) (by kernel_rfl) (by kernel_rfl) ?_
      simp only [opsAt, List.getElem?_toArray, List.getElem?_cons_zero, List.getElem?_cons_succ]
      go_simp
      repeat (go_big_quiet_step (fail))
      refine wpQuiet_nil ?_
      refine wpM_only (i := 30) (by kernel_rfl) ?_
      refine mOp_skip rfl (by go_simp) ?_
      refine wpM_more [31, 32, 33, 34, 35, 36] 11 5 rfl (by kernel_rfl) (by kernel_rfl) (by kernel_rfl) (by kernel_rfl) ?_
      simp only [opsAt, List.getElem?_toArray, List.getElem?_cons_zero, List.getElem?_cons_succ]
      go_simp
      repeat (go_big_quiet_step (fail))
      refine wpQuiet_nil ?_
      refine wpM_only (i := 37) (by kernel_rfl) ?_
      refine mOp_skip rfl (by go_simp) ?_
      refine wpM_more [38, 39, 40, 41] 4 0 rfl (by kernel_rfl) (by kernel_rfl) (by kernel_rfl) (by kernel_rfl) ?_
      simp only [opsAt, List.getElem?_toArray, List.getElem?_cons_zero, List.getElem?_cons_succ]
      go_simp
      repeat (go_big_quiet_step (fail))
      refine wpQuiet_nil ?_
      refine wpM_end (by kernel_rfl) rfl (by kernel_rfl) (by decide) ?_
      rintro _ ⟨sz, rfl⟩
      simp only [List.drop_succ_cons, List.drop_zero]
      go_simp
      have BZ := Below.step BB sz.h
      go_wp2_with fail
      go_ret
      exact ⟨by rw [HE.out]; rfl, BZ⟩
    refine wpM_more [17, 18, 19, 20, 21, 22] 25 19 rfl (by kernel_rfl) (by kernel_rfl) (by kernel_rfl) (by kernel_rfl) ?_
    simp only [opsAt, List.getElem?_toArray, List.getElem?_cons_zero, List.getElem?_cons_succ]
    go_simp
    repeat (go_big_quiet_step (fail))
    refine wpQuiet_nil ?_
    clear hne g2
    refine wpM_only (i := 23) (by kernel_rfl) ?_
    refine mOp_call rfl (by go_simp) 69 _ #[.int .i64 a.2.2.1] (fun w => by go_simp) rfl ?_
    rintro _ ⟨sg, rfl⟩
    refine (KA3.out _).mono ?_
    rintro e wg2 ⟨rfl, hbx⟩
    have hbg := Below.step sg.h hbx
    refine ⟨_, rfl, ⟨⟨wg2, hbx⟩, rfl⟩, ?_⟩
    replace BB := Below.step BB hbg
    clear hbg hbx sg
    have g4 := HW.at (cell_keep e4 BB)
    have hne := HW.some wg2
    cases A3
    case false =>
      refine wpM_more [24, 25, 26, 27, 28, 29] 18 12 rfl (by kernel_rfl) (by kernel_rfl) (by kernel_rfl) (by kernel_rfl) ?_
      simp only [opsAt, List.getElem?_toArray, List.getElem?_cons_zero, List.getElem?_cons_succ]
      go_simp
      repeat (go_big_quiet_step (fail))
      refine wpQuiet_nil ?_
      refine wpM_only (i := 30) (by kernel_rfl) ?_
      refine mOp_skip rfl (by go_simp) ?_
      refine wpM_more [31, 32, 33, 34, 35, 36] 11 5 rfl (by kernel_rfl) (by kernel_rfl) (by kernel_rfl) (by kernel_rfl) ?_
      simp only [opsAt, List.getElem?_toArray, List.getElem?_cons_zero, List.getElem?_cons_succ]
      go_simp
      repeat (go_big_quiet_step (fail))
      refine wpQuiet_nil ?_
      refine wpM_only (i := 37) (by kernel_rfl) ?_
      refine mOp_skip rfl (by go_simp) ?_
      refine wpM_more [38, 39, 40, 41] 4 0 rfl (by kernel_rfl) (by kernel_rfl) (by kernel_rfl) (by kernel_rfl) ?_
      simp only [opsAt, List.getElem?_toArray, List.getElem?_cons_zero, List.getElem?_cons_succ]
      go_simp
      repeat (go_big_quiet_step (fail))
      refine wpQuiet_nil ?_
      refine wpM_end (by kernel_rfl) rfl (by kernel_rfl) (by decide) ?_
      rintro _ ⟨sz, rfl⟩
      simp only [List.drop_succ_cons, List.drop_zero]
      go_simp
      have BZ := Below.step BB sz.h
      go_wp2_with fail
      go_ret
      exact ⟨by rw [HE.out]; rfl, BZ⟩
    refine wpM_more [24, 25, 26, 27, 28, 29] 18 12 rfl (by kernel_rfl) (by kernel_rfl) (by kernel_rfl) (by kernel_rfl) ?_
    simp only [opsAt, List.getElem?_toArray, List.getElem?_cons_zero, List.getElem?_cons_succ]
    go_simp
    repeat (go_big_quiet_step (fail))
    refine wpQuiet_nil ?_
    clear hne g4
    refine wpM_only (i := 30) (by kernel_rfl) ?_
    refine mOp_call rfl (by go_simp) 39 _ #[.int .i64 a.2.2.2.2.1, .int .i64 1, .int .i64 99] (fun w => by go_simp) rfl ?_
    rintro _ ⟨sg, rfl⟩
    refine (KA4.out _).mono ?_
    rintro e wg3 ⟨rfl, hbx⟩
    have hbg := Below.step sg.h hbx
    refine ⟨_, rfl, ⟨⟨wg3, hbx⟩, rfl⟩, ?_⟩
    replace BB := Below.step BB hbg
    clear hbg hbx sg
    have g5 := HW.at (cell_keep e5 BB)
    have hne := HW.some wg3
    cases A4
    case false =>
      refine wpM_more [31, 32, 33, 34, 35, 36] 11 5 rfl (by kernel_rfl) (by kernel_rfl) (by kernel_rfl) (by kernel_rfl) ?_
      simp only [opsAt, List.getElem?_toArray, List.getElem?_cons_zero, List.getElem?_cons_succ]
      go_simp
      repeat (go_big_quiet_step (fail))
      refine wpQuiet_nil ?_
      refine wpM_only (i := 37) (by kernel_rfl) ?_
      refine mOp_skip rfl (by go_simp) ?_
      refine wpM_more [38, 39, 40, 41] 4 0 rfl (by kernel_rfl) (by kernel_rfl) (by kernel_rfl) (by kernel_rfl) ?_
      simp only [opsAt, List.getElem?_toArray, List.getElem?_cons_zero, List.getElem?_cons_succ]
      go_simp
      repeat (go_big_quiet_step (fail))
      refine wpQuiet_nil ?_
      refine wpM_end (by kernel_rfl) rfl (by kernel_rfl) (by decide) ?_
      rintro _ ⟨sz, rfl⟩
      simp only [List.drop_succ_cons, List.drop_zero]
      go_simp
      have BZ := Below.step BB sz.h
      go_wp2_with fail
      go_ret
      exact ⟨by rw [HE.out]; rfl, BZ⟩
    refine wpM_more [31, 32, 33, 34, 35, 36] 11 5 rfl (by kernel_rfl) (by kernel_rfl) (by kernel_rfl) (by kernel_rfl) ?_
    simp only [opsAt, List.getElem?_toArray, List.getElem?_cons_zero, List.getElem?_cons_succ]
    go_simp
    repeat (go_big_quiet_step (fail))
    refine wpQuiet_nil ?_
    clear hne g5
    refine wpM_only (i := 37) (by kernel_rfl) ?_
    refine mOp_call rfl (by go_simp) 39 _ #[.int .i64 a.2.2.2.2.2, .int .i64 0, .int .i64 9] (fun w => by go_simp) rfl ?_
    rintro _ ⟨sg, rfl⟩
    refine (KA5.out _).mono ?_
    rintro e wg4 ⟨rfl, hbx⟩
    have hbg := Below.step sg.h hbx
    refine ⟨_, rfl, ⟨⟨wg4, hbx⟩, rfl⟩, ?_⟩
    replace BB := Below.step BB hbg
    clear hbg hbx sg
    have hne := HW.some wg4
    cases A5
    case false =>
      refine wpM_more [38, 39, 40, 41] 4 0 rfl (by kernel_rfl) (by kernel_rfl) (by kernel_rfl) (by kernel_rfl) ?_
      simp only [opsAt, List.getElem?_toArray, List.getElem?_cons_zero, List.getElem?_cons_succ]
      go_simp
      repeat (go_big_quiet_step (fail))
      refine wpQuiet_nil ?_
      refine wpM_end (by kernel_rfl) rfl (by kernel_rfl) (by decide) ?_
      rintro _ ⟨sz, rfl⟩
      simp only [List.drop_succ_cons, List.drop_zero]
      go_simp
      have BZ := Below.step BB sz.h
      go_wp2_with fail
      go_ret
      exact ⟨by rw [HE.out]; rfl, BZ⟩
    refine wpM_more [38, 39, 40, 41] 4 0 rfl (by kernel_rfl) (by kernel_rfl) (by kernel_rfl) (by kernel_rfl) ?_
    simp only [opsAt, List.getElem?_toArray, List.getElem?_cons_zero, List.getElem?_cons_succ]
    go_simp
    repeat (go_big_quiet_step (fail))
    refine wpQuiet_nil ?_
    clear hne
    refine wpM_end (by kernel_rfl) rfl (by kernel_rfl) (by decide) ?_
    rintro _ ⟨sz, rfl⟩
    simp only [List.drop_succ_cons, List.drop_zero]
    go_simp
    have BZ := Below.step BB sz.h
    go_wp2_with fail
    go_ret
    exact ⟨by rw [HE.out]; rfl, BZ⟩
end Go.Proofs.YthiabbgkfmopiaaGreat

