/- Chapter 15, the program's side: linkFault, partsFault, WorldFault (written by tools/wld_i.py). What was there stays. -/
import Derived.Test.YthiabbgkfmopiaaGreatJoint18
import Derived.Test.YthiabbgkfmopiaaGreatSesI
import Derived.Test.YthiabbgkfmopiaaGreatJoint16
import Derived.Test.YthiabbgkfmopiaaGreatJoint19
namespace Go.Proofs.YthiabbgkfmopiaaGreat
open Go.ChangeShapes Go.WideShapes Go.ChangeAt Go.RowKit

set_option maxRecDepth 4000 in
set_option maxHeartbeats 4000000 in
theorem linkFault_c (a : LinkD) (us : List Value) (w : World) (h : linkC.rep w a us) :
    Calls Tryz.prog 75 #[.agg us.toArray] w fun e w' => e = .returned (.int .i64 (lkF hdC a)) ∧ Below w.heap.size w w' := by
  obtain ⟨p1, q1, p3, q3, p4, q4, p5, q5, s1, t1, s3, t3, s4, t4, s5, t5, rfl, r1, r3, r4, r5, u1, u3, u4, u5⟩ := link_rep h
  clear h
  have BW := alloc_below w (.cells #[.int .i64 a.1, .int .i64 a.2.1, .slice p1 a.2.2.1.1.length q1, .int .i64 a.2.2.1.2.1, .slice p3 a.2.2.1.2.2.1.length q3, .slice p4 a.2.2.1.2.2.2.1.length q4, .slice p5 a.2.2.1.2.2.2.2.length q5, .slice s1 a.2.2.2.1.length t1, .int .i64 a.2.2.2.2.1, .slice s3 a.2.2.2.2.2.1.length t3, .slice s4 a.2.2.2.2.2.2.1.length t4, .slice s5 a.2.2.2.2.2.2.2.length t5] 57)
  have R := Arr.new w [.int .i64 a.1, .int .i64 a.2.1, .slice p1 a.2.2.1.1.length q1, .int .i64 a.2.2.1.2.1, .slice p3 a.2.2.1.2.2.1.length q3, .slice p4 a.2.2.1.2.2.2.1.length q4, .slice p5 a.2.2.1.2.2.2.2.length q5, .slice s1 a.2.2.2.1.length t1, .int .i64 a.2.2.2.2.1, .slice s3 a.2.2.2.2.2.1.length t3, .slice s4 a.2.2.2.2.2.2.1.length t4, .slice s5 a.2.2.2.2.2.2.2.length t5] 57
  have KC : Hid (∀ W, Below w.heap.size w W → Calls Tryz.prog 88 #[.agg #[.slice p1 a.2.2.1.1.length q1, .int .i64 a.2.2.1.2.1, .slice p3 a.2.2.1.2.2.1.length q3, .slice p4 a.2.2.1.2.2.2.1.length q4, .slice p5 a.2.2.1.2.2.2.2.length q5]] W fun e w' => e = .returned (.int .i64 (seF hdC a.2.2.1)) ∧ Below W.heap.size W w') := fun W hb => sessFault_k a.2.2.1 _ W (session_mk (r1.keep hb) (r3.keep hb) (r4.keep hb) (r5.keep hb))
  have KS : Hid (∀ W, Below w.heap.size w W → Calls Tryz.prog 88 #[.agg #[.slice s1 a.2.2.2.1.length t1, .int .i64 a.2.2.2.2.1, .slice s3 a.2.2.2.2.2.1.length t3, .slice s4 a.2.2.2.2.2.2.1.length t4, .slice s5 a.2.2.2.2.2.2.2.length t5]] W fun e w' => e = .returned (.int .i64 (seF hdC a.2.2.2)) ∧ Below W.heap.size W w') := fun W hb => sessFault_k a.2.2.2 _ W (session_mk (u1.keep hb) (u3.keep hb) (u4.keep hb) (u5.keep hb))
  have RC : Hid (Rd w p1 q1 a.2.2.1.1) := r1
  have RS : Hid (Rd w s1 t1 a.2.2.2.1) := u1
  clear r1 r3 r4 r5 u1 u3 u4 u5
  have c0 := (R.cell 0).trans (show _ = some _ from rfl)
  have c1 := (R.cell 1).trans (show _ = some _ from rfl)
  have c2 := (R.cell 2).trans (show _ = some _ from rfl)
  have c3 := (R.cell 3).trans (show _ = some _ from rfl)
  have c4 := (R.cell 4).trans (show _ = some _ from rfl)
  have c5 := (R.cell 5).trans (show _ = some _ from rfl)
  have c6 := (R.cell 6).trans (show _ = some _ from rfl)
  have c7 := (R.cell 7).trans (show _ = some _ from rfl)
  have c8 := (R.cell 8).trans (show _ = some _ from rfl)
  have c9 := (R.cell 9).trans (show _ = some _ from rfl)
  have c10 := (R.cell 10).trans (show _ = some _ from rfl)
  have c11 := (R.cell 11).trans (show _ = some _ from rfl)
  obtain ⟨V, HV⟩ : ∃ V, Hid (w.alloc (.cells #[.int .i64 a.1, .int .i64 a.2.1, .slice p1 a.2.2.1.1.length q1, .int .i64 a.2.2.1.2.1, .slice p3 a.2.2.1.2.2.1.length q3, .slice p4 a.2.2.1.2.2.2.1.length q4, .slice p5 a.2.2.1.2.2.2.2.length q5, .slice s1 a.2.2.2.1.length t1, .int .i64 a.2.2.2.2.1, .slice s3 a.2.2.2.2.2.1.length t3, .slice s4 a.2.2.2.2.2.2.1.length t4, .slice s5 a.2.2.2.2.2.2.2.length t5] 57) = V) := ⟨_, rfl⟩
  have hg : Hid (w.heap.size < V.heap.size) := by show _ < _; rw [← HV.out, size_alloc]; omega
  rw [HV.out] at BW R c0 c1 c2 c3 c4 c5 c6 c7 c8 c9 c10 c11
  obtain ⟨A, HA⟩ : ∃ A, inB a.1 1 9 = A := ⟨_, rfl⟩
  obtain ⟨B, HB⟩ : ∃ A, inB a.2.1 1 9 = A := ⟨_, rfl⟩
  go_enter Tryz.func75, Tryz.ntmps75
  go_wp2_with fail
  rw [HV.out]
  refine (isPrincipal_c a.1 V).mono ?_
  rintro e w1 ⟨rfl, hw⟩
  rw [hw, HA]
  clear hw w1
  cases A
  case false =>
    go_wp2_with fail
    go_ret
    exact ⟨by unfold lkF; rw [if_neg (by rw [HA]; simp)]; rfl, BW⟩
  go_wp2_with fail
  refine (isPrincipal_c a.2.1 V).mono ?_
  rintro e w1 ⟨rfl, hw⟩
  rw [hw, HB]
  clear hw w1
  cases B
  case false =>
    go_wp2_with fail
    go_ret
    exact ⟨by unfold lkF; rw [if_neg (by rw [HB]; simp)]; rfl, BW⟩
  have HAB : Hid (lkF hdC a = (if seF hdC a.2.2.1 = 0 then (if seF hdC a.2.2.2 = 0 then (if a.2.2.1.2.1 = 1 ∧ a.2.2.2.2.1 = 2 ∧ sameB a.2.2.1.1 a.2.2.2.1 = true then 0 else 1) else seF hdC a.2.2.2) else seF hdC a.2.2.1)) := by show _ = _; unfold lkF; rw [if_pos ⟨HA, HB⟩]
  clear HA HB
  go_wp2_with fail
  have X := Arr.new V [.slice p1 a.2.2.1.1.length q1, .int .i64 a.2.2.1.2.1, .slice p3 a.2.2.1.2.2.1.length q3, .slice p4 a.2.2.1.2.2.2.1.length q4, .slice p5 a.2.2.1.2.2.2.2.length q5, .slice s1 a.2.2.2.1.length t1, .int .i64 a.2.2.2.2.1, .slice s3 a.2.2.2.2.2.1.length t3, .slice s4 a.2.2.2.2.2.2.1.length t4, .slice s5 a.2.2.2.2.2.2.2.length t5] 53
  replace R := R.stay (alloc_below V (.cells #[.slice p1 a.2.2.1.1.length q1, .int .i64 a.2.2.1.2.1, .slice p3 a.2.2.1.2.2.1.length q3, .slice p4 a.2.2.1.2.2.2.1.length q4, .slice p5 a.2.2.1.2.2.2.2.length q5, .slice s1 a.2.2.2.1.length t1, .int .i64 a.2.2.2.2.1, .slice s3 a.2.2.2.2.2.1.length t3, .slice s4 a.2.2.2.2.2.2.1.length t4, .slice s5 a.2.2.2.2.2.2.2.length t5] 53))
  replace BW := Below.mk BW (.cells #[.slice p1 a.2.2.1.1.length q1, .int .i64 a.2.2.1.2.1, .slice p3 a.2.2.1.2.2.1.length q3, .slice p4 a.2.2.1.2.2.2.1.length q4, .slice p5 a.2.2.1.2.2.2.2.length q5, .slice s1 a.2.2.2.1.length t1, .int .i64 a.2.2.2.2.1, .slice s3 a.2.2.2.2.2.1.length t3, .slice s4 a.2.2.2.2.2.2.1.length t4, .slice s5 a.2.2.2.2.2.2.2.length t5] 53)
  clear c0 c1 c2 c3 c4 c5 c6 c7 c8 c9 c10 c11 HV
  go_loopw [22] (fun i wr => ∃ k : Nat, k ≤ 2 ∧ i = .int .i64 k ∧ (1 ≤ k → seF hdC a.2.2.1 = 0) ∧ (2 ≤ k → seF hdC a.2.2.2 = 0) ∧ Arr wr V.heap.size 53 [.slice p1 a.2.2.1.1.length q1, .int .i64 a.2.2.1.2.1, .slice p3 a.2.2.1.2.2.1.length q3, .slice p4 a.2.2.1.2.2.2.1.length q4, .slice p5 a.2.2.1.2.2.2.2.length q5, .slice s1 a.2.2.2.1.length t1, .int .i64 a.2.2.2.2.1, .slice s3 a.2.2.2.2.2.1.length t3, .slice s4 a.2.2.2.2.2.2.1.length t4, .slice s5 a.2.2.2.2.2.2.2.length t5] ∧ Arr wr w.heap.size 57 [.int .i64 a.1, .int .i64 a.2.1, .slice p1 a.2.2.1.1.length q1, .int .i64 a.2.2.1.2.1, .slice p3 a.2.2.1.2.2.1.length q3, .slice p4 a.2.2.1.2.2.2.1.length q4, .slice p5 a.2.2.1.2.2.2.2.length q5, .slice s1 a.2.2.2.1.length t1, .int .i64 a.2.2.2.2.1, .slice s3 a.2.2.2.2.2.1.length t3, .slice s4 a.2.2.2.2.2.2.1.length t4, .slice s5 a.2.2.2.2.2.2.2.length t5] ∧ Below w.heap.size w wr)
    (fun i _ => 2 - (intOf i).toNat)
  case atStart => exact ⟨0, by omega, rfl, fun h => absurd h (by omega), fun h => absurd h (by omega), X, R, BW⟩
  case round =>
    clear X R BW
    obtain ⟨k, hk, rfl, h1, h2, X, R, BW⟩ := hrel
    have hX : Hid (V.heap.size < wr.heap.size) := X.lt
    by_cases hk0 : k = 0
    · subst hk0
      have d0 := (X.cell 0).trans (show _ = some _ from rfl)
      have d1 := (X.cell 1).trans (show _ = some _ from rfl)
      have d2 := (X.cell 2).trans (show _ = some _ from rfl)
      have d3 := (X.cell 3).trans (show _ = some _ from rfl)
      have d4 := (X.cell 4).trans (show _ = some _ from rfl)
      go_wp2_with fail
      refine (KC.out _ (Below.mk BW _)).mono ?_
      rintro e w2 ⟨rfl, hb⟩
      have hb2 := Below.step (alloc_below wr (.cells #[.slice p1 a.2.2.1.1.length q1, .int .i64 a.2.2.1.2.1, .slice p3 a.2.2.1.2.2.1.length q3, .slice p4 a.2.2.1.2.2.2.1.length q4, .slice p5 a.2.2.1.2.2.2.2.length q5] 53)) hb
      have BW2 := Below.step BW hb2
      clear d0 d1 d2 d3 d4
      by_cases hc : seF hdC a.2.2.1 = 0
      case neg =>
        have dz : (seF hdC a.2.2.1 != 0) = true := by rw [bne_iff_ne]; exact hc
        have hz : Hid (lkF hdC a = seF hdC a.2.2.1) := by show _ = _; rw [HAB.out, if_neg hc]
        clear HAB h1 h2
        generalize seF hdC a.2.2.1 = k0 at *
        go_wp2_with fail
        go_ret
        exact ⟨by rw [hz.out]; rfl, BW2⟩
      have HC1 : Hid (seF hdC a.2.2.1 = 0) := hc
      rw [hc]
      clear hc
      go_wp2_with fail
      go_roundw
      case rel => exact ⟨1, by omega, by go_num, fun _ => HC1.out, fun h => absurd h (by omega), X.stay hb2, R.stay hb2, BW2⟩
      case measure => simp [intOf]
    by_cases hk1 : k = 1
    · subst hk1
      have d0 := (X.cell 5).trans (show _ = some _ from rfl)
      have d1 := (X.cell 6).trans (show _ = some _ from rfl)
      have d2 := (X.cell 7).trans (show _ = some _ from rfl)
      have d3 := (X.cell 8).trans (show _ = some _ from rfl)
      have d4 := (X.cell 9).trans (show _ = some _ from rfl)
      go_wp2_with fail
      refine (KS.out _ (Below.mk BW _)).mono ?_
      rintro e w2 ⟨rfl, hb⟩
      have hb2 := Below.step (alloc_below wr (.cells #[.slice s1 a.2.2.2.1.length t1, .int .i64 a.2.2.2.2.1, .slice s3 a.2.2.2.2.2.1.length t3, .slice s4 a.2.2.2.2.2.2.1.length t4, .slice s5 a.2.2.2.2.2.2.2.length t5] 53)) hb
      have BW2 := Below.step BW hb2
      clear d0 d1 d2 d3 d4
      by_cases hc : seF hdC a.2.2.2 = 0
      case neg =>
        have dz : (seF hdC a.2.2.2 != 0) = true := by rw [bne_iff_ne]; exact hc
        have hz : Hid (lkF hdC a = seF hdC a.2.2.2) := by show _ = _; rw [HAB.out, if_pos (h1 (Nat.le_refl _)), if_neg hc]
        clear HAB h1 h2
        generalize seF hdC a.2.2.2 = k0 at *
        go_wp2_with fail
        go_ret
        exact ⟨by rw [hz.out]; rfl, BW2⟩
      have HC1 : Hid (seF hdC a.2.2.2 = 0) := hc
      rw [hc]
      clear hc
      go_wp2_with fail
      go_roundw
      case rel => exact ⟨2, by omega, by go_num, fun _ => h1 (Nat.le_refl _), fun _ => HC1.out, X.stay hb2, R.stay hb2, BW2⟩
      case measure => simp [intOf]
    have hk2 : k = 2 := by omega
    subst hk2
    have HZ : Hid (lkF hdC a = (if a.2.2.1.2.1 = 1 ∧ a.2.2.2.2.1 = 2 ∧ sameB a.2.2.1.1 a.2.2.2.1 = true then 0 else 1)) := by show _ = _; rw [HAB.out, if_pos (h1 (by omega)), if_pos (h2 (by omega))]
    clear HAB h1 h2 X hk hk0 hk1
    have c2 := (R.cell 2).trans (show _ = some _ from rfl)
    have c3 := (R.cell 3).trans (show _ = some _ from rfl)
    have c7 := (R.cell 7).trans (show _ = some _ from rfl)
    have c8 := (R.cell 8).trans (show _ = some _ from rfl)
    clear R
    by_cases hr1 : a.2.2.1.2.1 = 1
    case neg =>
      have i1 : (a.2.2.1.2.1 != 1) = true := by rw [bne_iff_ne]; exact hr1
      have hz : Hid (lkF hdC a = 1) := by show _ = _; rw [HZ.out, if_neg (fun h => hr1 h.1)]
      clear hr1 HZ
      go_wp2_with fail
      go_ret
      exact ⟨by rw [hz.out]; rfl, BW⟩
    have i1 : (a.2.2.1.2.1 != 1) = false := by rw [bne_eq_false_iff_eq]; exact hr1
    by_cases hr2 : a.2.2.2.2.1 = 2
    case neg =>
      have i2 : (a.2.2.2.2.1 != 2) = true := by rw [bne_iff_ne]; exact hr2
      have hz : Hid (lkF hdC a = 1) := by show _ = _; rw [HZ.out, if_neg (fun h => hr2 h.2.1)]
      clear hr1 hr2 HZ
      go_wp2_with fail
      go_ret
      exact ⟨by rw [hz.out]; rfl, BW⟩
    have i2 : (a.2.2.2.2.1 != 2) = false := by rw [bne_eq_false_iff_eq]; exact hr2
    have HZ2 : Hid (lkF hdC a = (if sameB a.2.2.1.1 a.2.2.2.1 = true then 0 else 1)) := by
      show _ = _
      rw [HZ.out]
      by_cases h : sameB a.2.2.1.1 a.2.2.2.1 = true
      · rw [if_pos ⟨hr1, hr2, h⟩, if_pos h]
      · rw [if_neg (fun x => h x.2.2), if_neg h]
    clear HZ hr1 hr2
    go_wp2_with fail
    refine (implSame_c p1 s1 q1 t1 a.2.2.1.1 a.2.2.2.1 wr (RC.out.keep BW) (RS.out.keep BW)).mono ?_
    rintro e w2 ⟨rfl, hb⟩
    have BW2 := Below.step BW hb
    cases hs : sameB a.2.2.1.1 a.2.2.2.1
    · go_wp2_with fail
      go_ret
      exact ⟨by rw [HZ2.out, hs]; rfl, BW2⟩
    · go_wp2_with fail
      go_ret
      exact ⟨by rw [HZ2.out, hs]; rfl, BW2⟩
set_option maxRecDepth 4000 in
set_option maxHeartbeats 4000000 in
theorem partsFault_c (x : WorldD) (us : List Value) (w : World) (h : worldC.rep w x us) :
    Calls Tryz.prog 54 #[.agg us.toArray] w fun e w' => e = .returned (.int .i64 (pfF hdC x)) ∧ Below w.heap.size w w' := by
  obtain ⟨p2, q2, p3, q3, p4, q4, p5, q5, p6, q6, p7, q7, rfl, r2, r3, r4, r5, r6, r7⟩ := world_rep h
  clear h r2 r4
  have BW := alloc_below w (.cells #[.int .i64 x.1, .slice p2 x.2.1.length q2, .slice p3 x.2.2.1.length q3, .slice p4 x.2.2.2.1.length q4, .slice p5 x.2.2.2.2.1.length q5, .slice p6 x.2.2.2.2.2.1.length q6, .slice p7 x.2.2.2.2.2.2.length q7] 37)
  have R := Arr.new w [.int .i64 x.1, .slice p2 x.2.1.length q2, .slice p3 x.2.2.1.length q3, .slice p4 x.2.2.2.1.length q4, .slice p5 x.2.2.2.2.1.length q5, .slice p6 x.2.2.2.2.2.1.length q6, .slice p7 x.2.2.2.2.2.2.length q7] 37
  have R3 : Hid (RdL (intC .i64) w p3 q3 x.2.2.1) := r3
  have R5 : Hid (RdL linkC w p5 q5 x.2.2.2.2.1) := r5
  have R6 : Hid (RdL bytC w p6 q6 x.2.2.2.2.2.1) := r6
  have R7 : Hid (RdL eventC w p7 q7 x.2.2.2.2.2.2) := r7
  have hq3 : x.2.2.1.length ≤ q3 := r3.1
  have hq5 : x.2.2.2.2.1.length ≤ q5 := r5.1
  have hq6 : x.2.2.2.2.2.1.length ≤ q6 := r6.1
  have hq7 : x.2.2.2.2.2.2.length ≤ q7 := r7.1
  have hz3 : q3 ≤ 2 ^ 63 - 1 := r3.2.1
  have hz5 : q5 ≤ 2 ^ 63 - 1 := r5.2.1
  have hz6 : q6 ≤ 2 ^ 63 - 1 := r6.2.1
  have hz7 : q7 ≤ 2 ^ 63 - 1 := r7.2.1
  clear r3 r5 r6 r7
  have HE2 : Hid (pfF hdC x = (if x.2.2.1.all (fun i => inB i 1 99) = true then (if lksF hdC x.2.2.2.2.1 = 0 then (if x.2.2.2.2.2.1.all (fun d => decide (d.length ≤ 160)) = true then (if x.2.2.2.2.2.2.all (evB x.2.2.2.2.1.length) = true then 0 else 3) else 2) else lksF hdC x.2.2.2.2.1) else 3)) := rfl
  obtain ⟨V, HV⟩ : ∃ V, Hid (w.alloc (.cells #[.int .i64 x.1, .slice p2 x.2.1.length q2, .slice p3 x.2.2.1.length q3, .slice p4 x.2.2.2.1.length q4, .slice p5 x.2.2.2.2.1.length q5, .slice p6 x.2.2.2.2.2.1.length q6, .slice p7 x.2.2.2.2.2.2.length q7] 37) = V) := ⟨_, rfl⟩
  have hg : Hid (w.heap.size < V.heap.size) := by show _ < _; rw [← HV.out, size_alloc]; omega
  rw [HV.out] at BW R
  have c2 := (R.cell 2).trans (show _ = some _ from rfl)
  go_enter Tryz.func54, Tryz.ntmps54
  go_wp2_with fail
  rw [HV.out]
  go_loopw [15] (fun i wr => ∃ k : Nat, k ≤ x.2.2.1.length ∧ i = .int .i64 k ∧ (∀ j id, j < k → x.2.2.1[j]? = some id → inB id 1 99 = true) ∧ wr = V)
    (fun i _ => x.2.2.1.length - (intOf i).toNat)
  case atStart => exact ⟨0, Nat.zero_le _, rfl, fun j id h => absurd h (Nat.not_lt_zero j), rfl⟩
  case round =>
    obtain ⟨k, hk, rfl, hall, hw⟩ := hrel
    rw [hw]
    clear hw wr c2
    by_cases hlt : k < x.2.2.1.length
    · have hkI : (k : Int) < (x.2.2.1.length : Int) := by omega
      obtain ⟨b3, o3, e1, hc⟩ := (R3.out.keep BW).2.2.2 (by omega)
      subst e1
      obtain ⟨id, ha⟩ : ∃ a, x.2.2.1[k]? = some a := ⟨x.2.2.1[k], by simp [hlt]⟩
      obtain ⟨us, hrep, hcell⟩ := hc k id ha
      have hu : us = [Value.int .i64 id] := hrep
      subst hu
      have d0 := hcell 0 _ rfl
      rw [show (intC .i64).n = 1 from rfl, Nat.mul_one, Nat.add_zero] at d0
      clear hc hrep hcell
      go_wp2_with fail
      refine (isCertId_c id V).mono ?_
      rintro e w1 ⟨rfl, hw⟩
      rw [hw]
      clear hw w1
      cases hl : inB id 1 99
      · have hz : Hid (pfF hdC x = 3) := by
          show _ = _
          rw [HE2.out, if_neg (fun h => by have h2 := List.all_eq_true.1 h id (List.mem_of_getElem? ha); rw [hl] at h2; exact absurd h2 (by decide))]
        go_wp2_with fail
        go_ret
        exact ⟨by rw [hz.out]; rfl, BW⟩
      · have HR2 : Hid (∀ j b, j < k + 1 → x.2.2.1[j]? = some b → inB b 1 99 = true) := fun j b2 hj h => by
              by_cases hjk : j < k
              · exact hall j b2 hjk h
              · have e2 : j = k := by omega
                subst e2
                rw [ha] at h
                cases h
                exact hl
        clear hall hl
        go_wp2_with fail
        go_roundw
        case rel => exact ⟨k + 1, by omega, by go_num, HR2.out, trivial⟩
        case measure => simp [intOf]; omega
    · have hkI : ¬ ((k : Int) < (x.2.2.1.length : Int)) := by omega
      have HE3 : Hid (pfF hdC x = (if lksF hdC x.2.2.2.2.1 = 0 then (if x.2.2.2.2.2.1.all (fun d => decide (d.length ≤ 160)) = true then (if x.2.2.2.2.2.2.all (evB x.2.2.2.2.1.length) = true then 0 else 3) else 2) else lksF hdC x.2.2.2.2.1)) := by
        show _ = _
        rw [HE2.out, if_pos (List.all_eq_true.2 fun id hid => by obtain ⟨j, hj⟩ := List.getElem?_of_mem hid; exact hall j id (by have := (List.getElem?_eq_some_iff.1 hj).1; omega) hj)]
      clear HE2 hall HV
      have c4 := (R.cell 4).trans (show _ = some _ from rfl)
      go_wp2_with fail
      clear c4
      go_loopw [26] (fun i wr => ∃ k : Nat, k ≤ x.2.2.2.2.1.length ∧ i = .int .i64 k ∧ (∀ j a, j < k → x.2.2.2.2.1[j]? = some a → lkF hdC a = 0) ∧ Arr wr w.heap.size 37 [.int .i64 x.1, .slice p2 x.2.1.length q2, .slice p3 x.2.2.1.length q3, .slice p4 x.2.2.2.1.length q4, .slice p5 x.2.2.2.2.1.length q5, .slice p6 x.2.2.2.2.2.1.length q6, .slice p7 x.2.2.2.2.2.2.length q7] ∧ Below w.heap.size w wr)
        (fun i _ => x.2.2.2.2.1.length - (intOf i).toNat)
      case atStart => exact ⟨0, Nat.zero_le _, rfl, fun j id h => absurd h (Nat.not_lt_zero j), R, BW⟩
      case round =>
        clear R BW
        obtain ⟨m, hm, rfl, hall, R, BW⟩ := hrel
        by_cases hlt2 : m < x.2.2.2.2.1.length
        · have hmI : (m : Int) < (x.2.2.2.2.1.length : Int) := by omega
          obtain ⟨b5, o5, e1, hc⟩ := (R5.out.keep BW).2.2.2 (by omega)
          subst e1
          obtain ⟨a, ha⟩ : ∃ a, x.2.2.2.2.1[m]? = some a := ⟨x.2.2.2.2.1[m], by simp [hlt2]⟩
          obtain ⟨us, hrep, hcell⟩ := hc m a ha
          obtain ⟨p3_1, q3_1, p3_3, q3_3, p3_4, q3_4, p3_5, q3_5, p4_1, q4_1, p4_3, q4_3, p4_4, q4_4, p4_5, q4_5, rfl, r3_1, r3_3, r3_4, r3_5, r4_1, r4_3, r4_4, r4_5⟩ := link_rep hrep
          rw [show linkC.n = 12 from rfl] at hcell
          have d0 := hcell 0 _ rfl
          have d1 := hcell 1 _ rfl
          have d2 := hcell 2 _ rfl
          have d3 := hcell 3 _ rfl
          have d4 := hcell 4 _ rfl
          have d5 := hcell 5 _ rfl
          have d6 := hcell 6 _ rfl
          have d7 := hcell 7 _ rfl
          have d8 := hcell 8 _ rfl
          have d9 := hcell 9 _ rfl
          have d10 := hcell 10 _ rfl
          have d11 := hcell 11 _ rfl
          rw [Nat.add_zero] at d0
          have KL : Hid (∀ W, Below wr.heap.size wr W → Calls Tryz.prog 75 #[.agg #[.int .i64 a.1, .int .i64 a.2.1, .slice p3_1 a.2.2.1.1.length q3_1, .int .i64 a.2.2.1.2.1, .slice p3_3 a.2.2.1.2.2.1.length q3_3, .slice p3_4 a.2.2.1.2.2.2.1.length q3_4, .slice p3_5 a.2.2.1.2.2.2.2.length q3_5, .slice p4_1 a.2.2.2.1.length q4_1, .int .i64 a.2.2.2.2.1, .slice p4_3 a.2.2.2.2.2.1.length q4_3, .slice p4_4 a.2.2.2.2.2.2.1.length q4_4, .slice p4_5 a.2.2.2.2.2.2.2.length q4_5]] W fun e w' => e = .returned (.int .i64 (lkF hdC a)) ∧ Below W.heap.size W w') := fun W hb => linkFault_c a _ W (link_mk (r3_1.keep hb) (r3_3.keep hb) (r3_4.keep hb) (r3_5.keep hb) (r4_1.keep hb) (r4_3.keep hb) (r4_4.keep hb) (r4_5.keep hb))
          clear hc hrep hcell r3_1 r3_3 r3_4 r3_5 r4_1 r4_3 r4_4 r4_5
          go_wp2_with fail
          have hal := alloc_below wr (.cells #[.int .i64 a.1, .int .i64 a.2.1, .slice p3_1 a.2.2.1.1.length q3_1, .int .i64 a.2.2.1.2.1, .slice p3_3 a.2.2.1.2.2.1.length q3_3, .slice p3_4 a.2.2.1.2.2.2.1.length q3_4, .slice p3_5 a.2.2.1.2.2.2.2.length q3_5, .slice p4_1 a.2.2.2.1.length q4_1, .int .i64 a.2.2.2.2.1, .slice p4_3 a.2.2.2.2.2.1.length q4_3, .slice p4_4 a.2.2.2.2.2.2.1.length q4_4, .slice p4_5 a.2.2.2.2.2.2.2.length q4_5] 57)
          refine (KL.out _ hal).mono ?_
          rintro e w2 ⟨rfl, hb⟩
          have hb2 := Below.step hal hb
          have BW2 := Below.step BW hb2
          clear KL d0 d1 d2 d3 d4 d5 d6 d7 d8 d9 d10 d11
          by_cases hl : lkF hdC a = 0
          · have HR2 : Hid (∀ j b, j < m + 1 → x.2.2.2.2.1[j]? = some b → lkF hdC b = 0) := fun j b2 hj h => by
                  by_cases hjk : j < m
                  · exact hall j b2 hjk h
                  · have e2 : j = m := by omega
                    subst e2
                    rw [ha] at h
                    cases h
                    exact hl
            rw [hl]
            clear hall hl
            go_wp2_with fail
            go_roundw
            case rel => exact ⟨m + 1, by omega, by go_num, HR2.out, R.stay hb2, BW2⟩
            case measure => simp [intOf]; omega
          · have hz : Hid (pfF hdC x = lkF hdC a) := by show _ = _; rw [HE3.out, if_neg (by rw [lksF_at ha hall hl]; exact hl), lksF_at ha hall hl]
            have d0 : (lkF hdC a != 0) = true := by rw [bne_iff_ne]; exact hl
            generalize lkF hdC a = k0 at *
            go_wp2_with fail
            go_ret
            exact ⟨by rw [hz.out]; rfl, BW2⟩
        · have hmI : ¬ ((m : Int) < (x.2.2.2.2.1.length : Int)) := by omega
          have HE4 : Hid (pfF hdC x = (if x.2.2.2.2.2.1.all (fun d => decide (d.length ≤ 160)) = true then (if x.2.2.2.2.2.2.all (evB x.2.2.2.2.1.length) = true then 0 else 3) else 2)) := by
            show _ = _
            rw [HE3.out, if_pos (lksF_zero fun a ha => by obtain ⟨j, hj⟩ := List.getElem?_of_mem ha; exact hall j a (by have := (List.getElem?_eq_some_iff.1 hj).1; omega) hj)]
          clear HE3 hall
          obtain ⟨W2, HW2⟩ : ∃ V, V = wr := ⟨_, rfl⟩
          subst HW2
          have c5 := (R.cell 5).trans (show _ = some _ from rfl)
          go_wp2_with fail
          clear c5
          go_loopw [39] (fun i wr => ∃ n : Nat, n ≤ x.2.2.2.2.2.1.length ∧ i = .int .i64 n ∧ (∀ j d, j < n → x.2.2.2.2.2.1[j]? = some d → d.length ≤ 160) ∧ wr = W2)
            (fun i _ => x.2.2.2.2.2.1.length - (intOf i).toNat)
          case atStart => exact ⟨0, Nat.zero_le _, rfl, fun j id h => absurd h (Nat.not_lt_zero j), rfl⟩
          case round =>
            obtain ⟨n, hn, rfl, hall, hw⟩ := hrel
            rw [hw]
            clear hw wr
            by_cases hlt3 : n < x.2.2.2.2.2.1.length
            · have hnI : (n : Int) < (x.2.2.2.2.2.1.length : Int) := by omega
              obtain ⟨b6, o6, e1, hc⟩ := (R6.out.keep BW).2.2.2 (by omega)
              subst e1
              obtain ⟨a, ha⟩ : ∃ a, x.2.2.2.2.2.1[n]? = some a := ⟨x.2.2.2.2.2.1[n], by simp [hlt3]⟩
              obtain ⟨us, hrep, hcell⟩ := hc n a ha
              obtain ⟨pd, qd, rfl, rd⟩ := blk_rep hrep
              have d0 := hcell 0 _ rfl
              rw [show bytC.n = 1 from rfl, Nat.mul_one, Nat.add_zero] at d0
              clear hc hrep hcell rd
              by_cases hl : a.length ≤ 160
              · have hlI : ¬ (160 < (a.length : Int)) := by omega
                have HR2 : Hid (∀ j b, j < n + 1 → x.2.2.2.2.2.1[j]? = some b → b.length ≤ 160) := fun j b2 hj h => by
                      by_cases hjk : j < n
                      · exact hall j b2 hjk h
                      · have e2 : j = n := by omega
                        subst e2
                        rw [ha] at h
                        cases h
                        exact hl
                clear hall hl
                go_wp2_with fail
                go_roundw
                case rel => exact ⟨n + 1, by omega, by go_num, HR2.out, trivial⟩
                case measure => simp [intOf]; omega
              · have hlI : 160 < (a.length : Int) := by omega
                have hz : Hid (pfF hdC x = 2) := by
                  show _ = _
                  rw [HE4.out, if_neg (fun h => by have h2 := List.all_eq_true.1 h a (List.mem_of_getElem? ha); simp at h2; omega)]
                go_wp2_with fail
                go_ret
                exact ⟨by rw [hz.out]; rfl, BW⟩
            · have hnI : ¬ ((n : Int) < (x.2.2.2.2.2.1.length : Int)) := by omega
              have HE5 : Hid (pfF hdC x = (if x.2.2.2.2.2.2.all (evB x.2.2.2.2.1.length) = true then 0 else 3)) := by
                show _ = _
                rw [HE4.out, if_pos (List.all_eq_true.2 fun d hd => by obtain ⟨j, hj⟩ := List.getElem?_of_mem hd; exact decide_eq_true (hall j d (by have := (List.getElem?_eq_some_iff.1 hj).1; omega) hj))]
              clear HE4 hall
              have c6 := (R.cell 6).trans (show _ = some _ from rfl)
              go_wp2_with fail
              clear c6
              go_loopw [50] (fun i wr => ∃ n : Nat, n ≤ x.2.2.2.2.2.2.length ∧ i = .int .i64 n ∧ (∀ j a, j < n → x.2.2.2.2.2.2[j]? = some a → evB x.2.2.2.2.1.length a = true) ∧ Arr wr w.heap.size 37 [.int .i64 x.1, .slice p2 x.2.1.length q2, .slice p3 x.2.2.1.length q3, .slice p4 x.2.2.2.1.length q4, .slice p5 x.2.2.2.2.1.length q5, .slice p6 x.2.2.2.2.2.1.length q6, .slice p7 x.2.2.2.2.2.2.length q7] ∧ Below w.heap.size w wr)
                (fun i _ => x.2.2.2.2.2.2.length - (intOf i).toNat)
              case atStart => exact ⟨0, Nat.zero_le _, rfl, fun j id h => absurd h (Nat.not_lt_zero j), R, BW⟩
              case round =>
                clear R BW
                obtain ⟨s, hs, rfl, hall, R, BE⟩ := hrel
                have hws : Hid (w.heap.size < wr.heap.size) := R.lt
                by_cases hlt4 : s < x.2.2.2.2.2.2.length
                · have hsI : (s : Int) < (x.2.2.2.2.2.2.length : Int) := by omega
                  obtain ⟨b7, o7, e1, hc⟩ := (R7.out.keep BE).2.2.2 (by omega)
                  subst e1
                  obtain ⟨a, ha⟩ : ∃ a, x.2.2.2.2.2.2[s]? = some a := ⟨x.2.2.2.2.2.2[s], by simp [hlt4]⟩
                  obtain ⟨us, hrep, hcell⟩ := hc s a ha
                  obtain ⟨pc, qc, rfl, rc⟩ := event_rep hrep
                  rw [show eventC.n = 6 from rfl] at hcell
                  have d0 := hcell 0 _ rfl
                  have d1 := hcell 1 _ rfl
                  have d2 := hcell 2 _ rfl
                  have d3 := hcell 3 _ rfl
                  have d4 := hcell 4 _ rfl
                  have d5 := hcell 5 _ rfl
                  rw [Nat.add_zero] at d0
                  clear hc hrep hcell rc
                  have hal := alloc_below wr (.cells #[.int .i64 a.1, .int .i64 a.2.1, .int .i64 a.2.2.1, .slice pc a.2.2.2.1.length qc, .int .i64 a.2.2.2.2.1, .int .i64 a.2.2.2.2.2] 99)
                  have c4 := ((R.stay hal).cell 4).trans (show _ = some _ from rfl)
                  have KE := isEvent_c a x.2.2.2.2.1.length pc qc (wr.alloc (.cells #[.int .i64 a.1, .int .i64 a.2.1, .int .i64 a.2.2.1, .slice pc a.2.2.2.1.length qc, .int .i64 a.2.2.2.2.1, .int .i64 a.2.2.2.2.2] 99))
                  go_wp2_with fail
                  refine KE.mono ?_
                  rintro e w2 ⟨rfl, hb⟩
                  have hb2 := Below.step hal hb
                  have BW2 := Below.step BE hb2
                  clear KE c4 d0 d1 d2 d3 d4 d5
                  cases hl : evB x.2.2.2.2.1.length a
                  · have hz : Hid (pfF hdC x = 3) := by
                      show _ = _
                      rw [HE5.out, if_neg (fun h => by have h2 := List.all_eq_true.1 h a (List.mem_of_getElem? ha); rw [hl] at h2; cases h2)]
                    go_wp2_with fail
                    go_ret
                    exact ⟨by rw [hz.out]; rfl, BW2⟩
                  · have HR2 : Hid (∀ j b, j < s + 1 → x.2.2.2.2.2.2[j]? = some b → evB x.2.2.2.2.1.length b = true) := fun j b2 hj h => by
                          by_cases hjk : j < s
                          · exact hall j b2 hjk h
                          · have e2 : j = s := by omega
                            subst e2
                            rw [ha] at h
                            cases h
                            exact hl
                    clear hall hl
                    go_wp2_with fail
                    go_roundw
                    case rel => exact ⟨s + 1, by omega, by go_num, HR2.out, R.stay hb2, BW2⟩
                    case measure => simp [intOf]; omega
                · have hsI : ¬ ((s : Int) < (x.2.2.2.2.2.2.length : Int)) := by omega
                  have hz : Hid (pfF hdC x = 0) := by
                    show _ = _
                    rw [HE5.out, if_pos (List.all_eq_true.2 fun d hd => by obtain ⟨j, hj⟩ := List.getElem?_of_mem hd; exact hall j d (by have := (List.getElem?_eq_some_iff.1 hj).1; omega) hj)]
                  go_wp2_with fail
                  go_ret
                  exact ⟨by rw [hz.out]; rfl, BE⟩
set_option maxRecDepth 4000 in
set_option maxHeartbeats 4000000 in
theorem worldFault_c (x : WorldD) (us : List Value) (w : World) (h : worldC.rep w x us) :
    Calls Tryz.prog 24 #[.agg us.toArray] w fun e w' => e = .returned (.int .i64 (wfF hdC x)) ∧ Below w.heap.size w w' := by
  obtain ⟨p2, q2, p3, q3, p4, q4, p5, q5, p6, q6, p7, q7, rfl, r2, r3, r4, r5, r6, r7⟩ := world_rep h
  clear h
  have BW := alloc_below w (.cells #[.int .i64 x.1, .slice p2 x.2.1.length q2, .slice p3 x.2.2.1.length q3, .slice p4 x.2.2.2.1.length q4, .slice p5 x.2.2.2.2.1.length q5, .slice p6 x.2.2.2.2.2.1.length q6, .slice p7 x.2.2.2.2.2.2.length q7] 37)
  have R := Arr.new w [.int .i64 x.1, .slice p2 x.2.1.length q2, .slice p3 x.2.2.1.length q3, .slice p4 x.2.2.2.1.length q4, .slice p5 x.2.2.2.2.1.length q5, .slice p6 x.2.2.2.2.2.1.length q6, .slice p7 x.2.2.2.2.2.2.length q7] 37
  have KC : Hid (∀ W, Below w.heap.size w W → Calls Tryz.prog 52 #[.slice p2 x.2.1.length q2] W fun e w' => e = .returned (.int .i64 (ctC x.2.1)) ∧ Below W.heap.size W w') := fun W hb => implCt_c x.2.1 p2 q2 W (r2.keep hb)
  have KS : Hid (∀ W, Below w.heap.size w W → Calls Tryz.prog 53 #[.slice p4 x.2.2.2.1.length q4] W fun e w' => e = .returned (.int .i64 (sgC x.2.2.2.1)) ∧ Below W.heap.size W w') := fun W hb => implSg_c x.2.2.2.1 p4 q4 W (r4.keep hb)
  have KP : Hid (∀ W, Below w.heap.size w W → Calls Tryz.prog 54 #[.agg #[.int .i64 x.1, .slice p2 x.2.1.length q2, .slice p3 x.2.2.1.length q3, .slice p4 x.2.2.2.1.length q4, .slice p5 x.2.2.2.2.1.length q5, .slice p6 x.2.2.2.2.2.1.length q6, .slice p7 x.2.2.2.2.2.2.length q7]] W fun e w' => e = .returned (.int .i64 (pfF hdC x)) ∧ Below W.heap.size W w') := fun W hb => partsFault_c x _ W (world_mk (r2.keep hb) (r3.keep hb) (r4.keep hb) (r5.keep hb) (r6.keep hb) (r7.keep hb))
  clear r2 r3 r4 r5 r6 r7
  obtain ⟨V, HV⟩ : ∃ V, Hid (w.alloc (.cells #[.int .i64 x.1, .slice p2 x.2.1.length q2, .slice p3 x.2.2.1.length q3, .slice p4 x.2.2.2.1.length q4, .slice p5 x.2.2.2.2.1.length q5, .slice p6 x.2.2.2.2.2.1.length q6, .slice p7 x.2.2.2.2.2.2.length q7] 37) = V) := ⟨_, rfl⟩
  rw [HV.out] at BW R
  have c0 := (R.cell 0).trans (show _ = some _ from rfl)
  have c1 := (R.cell 1).trans (show _ = some _ from rfl)
  obtain ⟨A, HN⟩ : ∃ A, inB x.1 0 9000 = A := ⟨_, rfl⟩
  go_enter Tryz.func24, Tryz.ntmps24
  go_wp2_with fail
  rw [HV.out]
  refine (isWorldNow_c x.1 V).mono ?_
  rintro e w1 ⟨rfl, hw⟩
  rw [hw, HN]
  clear hw w1 HV
  cases A
  case false =>
    go_wp2_with fail
    go_ret
    exact ⟨by unfold wfF; rw [if_neg (by rw [HN]; decide)]; rfl, BW⟩
  go_wp2_with fail
  refine (KC.out _ BW).mono ?_
  rintro e w1 ⟨rfl, hb⟩
  replace R := R.stay hb
  have BW1 := Below.step BW hb
  clear hb c0 c1 KC
  by_cases h1 : ctC x.2.1 = 0
  case neg =>
    have d0 : (ctC x.2.1 != 0) = true := by rw [bne_iff_ne]; exact h1
    have he : Hid (wfF hdC x = ctC x.2.1) := by show _ = _; unfold wfF; rw [if_pos HN, if_neg h1]
    generalize ctC x.2.1 = k0 at *
    go_wp2_with fail
    go_ret
    exact ⟨by rw [he.out]; rfl, BW1⟩
  rw [h1]
  have c3 := (R.cell 3).trans (show _ = some _ from rfl)
  go_wp2_with fail
  refine (KS.out _ BW1).mono ?_
  rintro e w2 ⟨rfl, hb⟩
  replace R := R.stay hb
  have BW2 := Below.step BW1 hb
  clear hb c3 KS BW1
  by_cases h2 : sgC x.2.2.2.1 = 0
  case neg =>
    have d0 : (sgC x.2.2.2.1 != 0) = true := by rw [bne_iff_ne]; exact h2
    have he : Hid (wfF hdC x = sgC x.2.2.2.1) := by show _ = _; unfold wfF; rw [if_pos HN, if_pos h1, if_neg h2]
    generalize sgC x.2.2.2.1 = k0 at *
    go_wp2_with fail
    go_ret
    exact ⟨by rw [he.out]; rfl, BW2⟩
  rw [h2]
  have HE : Hid (wfF hdC x = (if 8 < x.2.2.1.length ∨ 4 < x.2.2.2.2.1.length ∨ 30 < x.2.2.2.2.2.1.length ∨ 60 < x.2.2.2.2.2.2.length then 2 else pfF hdC x)) := by show _ = _; unfold wfF; rw [if_pos HN, if_pos h1, if_pos h2]; rfl
  clear HN h1 h2
  have c0 := (R.cell 0).trans (show _ = some _ from rfl)
  have c1 := (R.cell 1).trans (show _ = some _ from rfl)
  have c2 := (R.cell 2).trans (show _ = some _ from rfl)
  have c3 := (R.cell 3).trans (show _ = some _ from rfl)
  have c4 := (R.cell 4).trans (show _ = some _ from rfl)
  have c5 := (R.cell 5).trans (show _ = some _ from rfl)
  have c6 := (R.cell 6).trans (show _ = some _ from rfl)
  by_cases g0 : 8 < x.2.2.1.length
  case pos =>
    have i0 : 8 < (x.2.2.1.length : Int) := by omega
    have hz : Hid (wfF hdC x = 2) := by show _ = _; rw [HE.out, if_pos (by omega)]
    go_wp2_with fail
    go_ret
    exact ⟨by rw [hz.out]; rfl, BW2⟩
  have i0 : ¬ (8 < (x.2.2.1.length : Int)) := by omega
  by_cases g1 : 4 < x.2.2.2.2.1.length
  case pos =>
    have i1 : 4 < (x.2.2.2.2.1.length : Int) := by omega
    have hz : Hid (wfF hdC x = 2) := by show _ = _; rw [HE.out, if_pos (by omega)]
    go_wp2_with fail
    go_ret
    exact ⟨by rw [hz.out]; rfl, BW2⟩
  have i1 : ¬ (4 < (x.2.2.2.2.1.length : Int)) := by omega
  by_cases g2 : 30 < x.2.2.2.2.2.1.length
  case pos =>
    have i2 : 30 < (x.2.2.2.2.2.1.length : Int) := by omega
    have hz : Hid (wfF hdC x = 2) := by show _ = _; rw [HE.out, if_pos (by omega)]
    go_wp2_with fail
    go_ret
    exact ⟨by rw [hz.out]; rfl, BW2⟩
  have i2 : ¬ (30 < (x.2.2.2.2.2.1.length : Int)) := by omega
  by_cases g3 : 60 < x.2.2.2.2.2.2.length
  case pos =>
    have i3 : 60 < (x.2.2.2.2.2.2.length : Int) := by omega
    have hz : Hid (wfF hdC x = 2) := by show _ = _; rw [HE.out, if_pos (by omega)]
    go_wp2_with fail
    go_ret
    exact ⟨by rw [hz.out]; rfl, BW2⟩
  have i3 : ¬ (60 < (x.2.2.2.2.2.2.length : Int)) := by omega
  have HE2 : Hid (wfF hdC x = pfF hdC x) := by show _ = _; rw [HE.out, if_neg (by omega)]
  clear HE g0 g1 g2 g3
  go_wp2_with fail
  refine (KP.out _ BW2).mono ?_
  rintro e w3 ⟨rfl, hb⟩
  have BW3 := Below.step BW2 hb
  go_wp2_with fail
  go_ret
  exact ⟨by rw [HE2.out]; rfl, BW3⟩
end Go.Proofs.YthiabbgkfmopiaaGreat

