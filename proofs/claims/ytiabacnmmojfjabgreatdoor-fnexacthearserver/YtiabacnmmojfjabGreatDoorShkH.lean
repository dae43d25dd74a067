import Derived.Test.YtiabacnmmojfjabGreatDoorShkG
namespace Go.Proofs.YtiabacnmmojfjabGreatDoor
open Go.ChangeShapes Go.WideShapes Go.ChangeAt Go.RowKit
theorem Shk.tabs {W Z w : World} {b : Nat} {t : ShkD} (h : Shk Z b w t) (hb : Below W.heap.size W Z) (hW : W.heap.size ≤ b) (hT : Tabs W) : Tabs w :=
  hT.keep (Below.only hb h.only (fun k hk => by have := List.mem_singleton.1 hk; omega))
set_option maxRecDepth 4000 in
set_option maxHeartbeats 4000000 in
theorem implHv_k (e : EndD) (l : List MsgD) (us : List Value) (v : Value) (w : World) (r : endC.rep w e us) (r2 : msgsC.rep w l [v]) (hT : Tabs w) :
    Calls Tryz.prog 11 #[.agg us.toArray, v] w fun x w' => ∃ us fp, x = .returned (.agg us.toArray) ∧ endResultC.own w' w.heap.size (hvE e l) us fp ∧ Below w.heap.size w w' := by
  obtain ⟨p1, q1, p2, q2, p3, q3, p4, q4, p5, q5, p6, q6, p7, q7, p8, q8, rfl, r1, r2x, r3, r4, r5, r6, r7, r8⟩ := end_rep r
  obtain ⟨p9, q9, e9, r9⟩ := r2
  simp only [List.cons.injEq, and_true] at e9
  subst e9
  have HV : Hid (endC.rep w e [.int .i64 e.1.1, .slice p1 e.1.2.1.length q1, .int .i64 e.1.2.2.1, .slice p2 e.1.2.2.2.length q2, .int .i64 e.2.1, .int .i64 e.2.2.1, .slice p3 e.2.2.2.1.length q3, .slice p4 e.2.2.2.2.1.length q4, .slice p5 e.2.2.2.2.2.1.length q5, .slice p6 e.2.2.2.2.2.2.1.length q6, .slice p7 e.2.2.2.2.2.2.2.1.length q7, .slice p8 e.2.2.2.2.2.2.2.2.length q8]) := end_mk r1 r2x r3 r4 r5 r6 r7 r8
  have HR9 : Hid (RdL msgC w p9 q9 l) := r9
  have hmf : ∀ (fn : Fn) (first cap : Array Value) (w : World), (Instr.makeFunc fn first cap).run Tryz.prog w = .ok (.func fn first cap) w := fun _ _ _ _ => rfl
  have BW : Below w.heap.size w ((((w.alloc (.cells #[.int .i64 e.1.1, .slice p1 e.1.2.1.length q1, .int .i64 e.1.2.2.1, .slice p2 e.1.2.2.2.length q2, .int .i64 e.2.1, .int .i64 e.2.2.1, .slice p3 e.2.2.2.1.length q3, .slice p4 e.2.2.2.2.1.length q4, .slice p5 e.2.2.2.2.2.1.length q5, .slice p6 e.2.2.2.2.2.2.1.length q6, .slice p7 e.2.2.2.2.2.2.2.1.length q7, .slice p8 e.2.2.2.2.2.2.2.2.length q8] 36)).alloc (.cells #[.int .i64 0, .int .i64 0, .slice none 0 0, .int .i64 0, .slice none 0 0, .int .i64 0, .int .i64 0, .slice none 0 0, .slice none 0 0, .slice none 0 0, .slice none 0 0, .slice none 0 0, .slice none 0 0, .slice none 0 0] 38)).alloc (.cells #[.int .i64 e.1.1, .slice p1 e.1.2.1.length q1, .int .i64 e.1.2.2.1, .slice p2 e.1.2.2.2.length q2, .int .i64 e.2.1, .int .i64 e.2.2.1, .slice p3 e.2.2.2.1.length q3, .slice p4 e.2.2.2.2.1.length q4, .slice p5 e.2.2.2.2.2.1.length q5, .slice p6 e.2.2.2.2.2.2.1.length q6, .slice p7 e.2.2.2.2.2.2.2.1.length q7, .slice p8 e.2.2.2.2.2.2.2.2.length q8, .slice p9 l.length q9, .slice none 0 0, .slice none 0 0, .int .i64 0, .int .i64 0, .slice none 0 0] 90)).alloc (.cells #[stepV (w.heap.size + 1 + 1) 50, stepV (w.heap.size + 1 + 1) 51, stepV (w.heap.size + 1 + 1) 52, stepV (w.heap.size + 1 + 1) 53, stepV (w.heap.size + 1 + 1) 54, stepV (w.heap.size + 1 + 1) 55, stepV (w.heap.size + 1 + 1) 56, stepV (w.heap.size + 1 + 1) 57, stepV (w.heap.size + 1 + 1) 58, stepV (w.heap.size + 1 + 1) 59] 1)) := Below.mk (Below.mk (Below.mk (alloc_below _ _) _) _) _
  have R := ((Arr.new (w.alloc (.cells #[.int .i64 e.1.1, .slice p1 e.1.2.1.length q1, .int .i64 e.1.2.2.1, .slice p2 e.1.2.2.2.length q2, .int .i64 e.2.1, .int .i64 e.2.2.1, .slice p3 e.2.2.2.1.length q3, .slice p4 e.2.2.2.2.1.length q4, .slice p5 e.2.2.2.2.2.1.length q5, .slice p6 e.2.2.2.2.2.2.1.length q6, .slice p7 e.2.2.2.2.2.2.2.1.length q7, .slice p8 e.2.2.2.2.2.2.2.2.length q8] 36)) [.int .i64 0, .int .i64 0, .slice none 0 0, .int .i64 0, .slice none 0 0, .int .i64 0, .int .i64 0, .slice none 0 0, .slice none 0 0, .slice none 0 0, .slice none 0 0, .slice none 0 0, .slice none 0 0, .slice none 0 0] 38).old _ (.cells #[.int .i64 e.1.1, .slice p1 e.1.2.1.length q1, .int .i64 e.1.2.2.1, .slice p2 e.1.2.2.2.length q2, .int .i64 e.2.1, .int .i64 e.2.2.1, .slice p3 e.2.2.2.1.length q3, .slice p4 e.2.2.2.2.1.length q4, .slice p5 e.2.2.2.2.2.1.length q5, .slice p6 e.2.2.2.2.2.2.1.length q6, .slice p7 e.2.2.2.2.2.2.2.1.length q7, .slice p8 e.2.2.2.2.2.2.2.2.length q8, .slice p9 l.length q9, .slice none 0 0, .slice none 0 0, .int .i64 0, .int .i64 0, .slice none 0 0] 90)).old _ (.cells #[stepV (w.heap.size + 1 + 1) 50, stepV (w.heap.size + 1 + 1) 51, stepV (w.heap.size + 1 + 1) 52, stepV (w.heap.size + 1 + 1) 53, stepV (w.heap.size + 1 + 1) 54, stepV (w.heap.size + 1 + 1) 55, stepV (w.heap.size + 1 + 1) 56, stepV (w.heap.size + 1 + 1) 57, stepV (w.heap.size + 1 + 1) 58, stepV (w.heap.size + 1 + 1) 59] 1)
  rw [size_alloc] at R
  have A := (Arr.new ((w.alloc (.cells #[.int .i64 e.1.1, .slice p1 e.1.2.1.length q1, .int .i64 e.1.2.2.1, .slice p2 e.1.2.2.2.length q2, .int .i64 e.2.1, .int .i64 e.2.2.1, .slice p3 e.2.2.2.1.length q3, .slice p4 e.2.2.2.2.1.length q4, .slice p5 e.2.2.2.2.2.1.length q5, .slice p6 e.2.2.2.2.2.2.1.length q6, .slice p7 e.2.2.2.2.2.2.2.1.length q7, .slice p8 e.2.2.2.2.2.2.2.2.length q8] 36)).alloc (.cells #[.int .i64 0, .int .i64 0, .slice none 0 0, .int .i64 0, .slice none 0 0, .int .i64 0, .int .i64 0, .slice none 0 0, .slice none 0 0, .slice none 0 0, .slice none 0 0, .slice none 0 0, .slice none 0 0, .slice none 0 0] 38)) [.int .i64 e.1.1, .slice p1 e.1.2.1.length q1, .int .i64 e.1.2.2.1, .slice p2 e.1.2.2.2.length q2, .int .i64 e.2.1, .int .i64 e.2.2.1, .slice p3 e.2.2.2.1.length q3, .slice p4 e.2.2.2.2.1.length q4, .slice p5 e.2.2.2.2.2.1.length q5, .slice p6 e.2.2.2.2.2.2.1.length q6, .slice p7 e.2.2.2.2.2.2.2.1.length q7, .slice p8 e.2.2.2.2.2.2.2.2.length q8, .slice p9 l.length q9, .slice none 0 0, .slice none 0 0, .int .i64 0, .int .i64 0, .slice none 0 0] 90).old _ (.cells #[stepV (w.heap.size + 1 + 1) 50, stepV (w.heap.size + 1 + 1) 51, stepV (w.heap.size + 1 + 1) 52, stepV (w.heap.size + 1 + 1) 53, stepV (w.heap.size + 1 + 1) 54, stepV (w.heap.size + 1 + 1) 55, stepV (w.heap.size + 1 + 1) 56, stepV (w.heap.size + 1 + 1) 57, stepV (w.heap.size + 1 + 1) 58, stepV (w.heap.size + 1 + 1) 59] 1)
  rw [size_alloc, size_alloc] at A
  have G := Arr.new (((w.alloc (.cells #[.int .i64 e.1.1, .slice p1 e.1.2.1.length q1, .int .i64 e.1.2.2.1, .slice p2 e.1.2.2.2.length q2, .int .i64 e.2.1, .int .i64 e.2.2.1, .slice p3 e.2.2.2.1.length q3, .slice p4 e.2.2.2.2.1.length q4, .slice p5 e.2.2.2.2.2.1.length q5, .slice p6 e.2.2.2.2.2.2.1.length q6, .slice p7 e.2.2.2.2.2.2.2.1.length q7, .slice p8 e.2.2.2.2.2.2.2.2.length q8] 36)).alloc (.cells #[.int .i64 0, .int .i64 0, .slice none 0 0, .int .i64 0, .slice none 0 0, .int .i64 0, .int .i64 0, .slice none 0 0, .slice none 0 0, .slice none 0 0, .slice none 0 0, .slice none 0 0, .slice none 0 0, .slice none 0 0] 38)).alloc (.cells #[.int .i64 e.1.1, .slice p1 e.1.2.1.length q1, .int .i64 e.1.2.2.1, .slice p2 e.1.2.2.2.length q2, .int .i64 e.2.1, .int .i64 e.2.2.1, .slice p3 e.2.2.2.1.length q3, .slice p4 e.2.2.2.2.1.length q4, .slice p5 e.2.2.2.2.2.1.length q5, .slice p6 e.2.2.2.2.2.2.1.length q6, .slice p7 e.2.2.2.2.2.2.2.1.length q7, .slice p8 e.2.2.2.2.2.2.2.2.length q8, .slice p9 l.length q9, .slice none 0 0, .slice none 0 0, .int .i64 0, .int .i64 0, .slice none 0 0] 90)) [stepV (w.heap.size + 1 + 1) 50, stepV (w.heap.size + 1 + 1) 51, stepV (w.heap.size + 1 + 1) 52, stepV (w.heap.size + 1 + 1) 53, stepV (w.heap.size + 1 + 1) 54, stepV (w.heap.size + 1 + 1) 55, stepV (w.heap.size + 1 + 1) 56, stepV (w.heap.size + 1 + 1) 57, stepV (w.heap.size + 1 + 1) 58, stepV (w.heap.size + 1 + 1) 59] 1
  rw [size_alloc, size_alloc, size_alloc] at G
  have HT : Hid (Tabs w) := hT
  clear hT r1 r2x r3 r4 r5 r6 r7 r8 r9 r
  go_enter Tryz.func11, Tryz.ntmps11
  go_wp2_with fail
  change Calls Tryz.prog _ _ ((((w.alloc (.cells #[.int .i64 e.1.1, .slice p1 e.1.2.1.length q1, .int .i64 e.1.2.2.1, .slice p2 e.1.2.2.2.length q2, .int .i64 e.2.1, .int .i64 e.2.2.1, .slice p3 e.2.2.2.1.length q3, .slice p4 e.2.2.2.2.1.length q4, .slice p5 e.2.2.2.2.2.1.length q5, .slice p6 e.2.2.2.2.2.2.1.length q6, .slice p7 e.2.2.2.2.2.2.2.1.length q7, .slice p8 e.2.2.2.2.2.2.2.2.length q8] 36)).alloc (.cells #[.int .i64 0, .int .i64 0, .slice none 0 0, .int .i64 0, .slice none 0 0, .int .i64 0, .int .i64 0, .slice none 0 0, .slice none 0 0, .slice none 0 0, .slice none 0 0, .slice none 0 0, .slice none 0 0, .slice none 0 0] 38)).alloc (.cells #[.int .i64 e.1.1, .slice p1 e.1.2.1.length q1, .int .i64 e.1.2.2.1, .slice p2 e.1.2.2.2.length q2, .int .i64 e.2.1, .int .i64 e.2.2.1, .slice p3 e.2.2.2.1.length q3, .slice p4 e.2.2.2.2.1.length q4, .slice p5 e.2.2.2.2.2.1.length q5, .slice p6 e.2.2.2.2.2.2.1.length q6, .slice p7 e.2.2.2.2.2.2.2.1.length q7, .slice p8 e.2.2.2.2.2.2.2.2.length q8, .slice p9 l.length q9, .slice none 0 0, .slice none 0 0, .int .i64 0, .int .i64 0, .slice none 0 0] 90)).alloc (.cells #[stepV (w.heap.size + 1 + 1) 50, stepV (w.heap.size + 1 + 1) 51, stepV (w.heap.size + 1 + 1) 52, stepV (w.heap.size + 1 + 1) 53, stepV (w.heap.size + 1 + 1) 54, stepV (w.heap.size + 1 + 1) 55, stepV (w.heap.size + 1 + 1) 56, stepV (w.heap.size + 1 + 1) 57, stepV (w.heap.size + 1 + 1) 58, stepV (w.heap.size + 1 + 1) 59] 1)) _
  generalize eW : (((w.alloc (.cells #[.int .i64 e.1.1, .slice p1 e.1.2.1.length q1, .int .i64 e.1.2.2.1, .slice p2 e.1.2.2.2.length q2, .int .i64 e.2.1, .int .i64 e.2.2.1, .slice p3 e.2.2.2.1.length q3, .slice p4 e.2.2.2.2.1.length q4, .slice p5 e.2.2.2.2.2.1.length q5, .slice p6 e.2.2.2.2.2.2.1.length q6, .slice p7 e.2.2.2.2.2.2.2.1.length q7, .slice p8 e.2.2.2.2.2.2.2.2.length q8] 36)).alloc (.cells #[.int .i64 0, .int .i64 0, .slice none 0 0, .int .i64 0, .slice none 0 0, .int .i64 0, .int .i64 0, .slice none 0 0, .slice none 0 0, .slice none 0 0, .slice none 0 0, .slice none 0 0, .slice none 0 0, .slice none 0 0] 38)).alloc (.cells #[.int .i64 e.1.1, .slice p1 e.1.2.1.length q1, .int .i64 e.1.2.2.1, .slice p2 e.1.2.2.2.length q2, .int .i64 e.2.1, .int .i64 e.2.2.1, .slice p3 e.2.2.2.1.length q3, .slice p4 e.2.2.2.2.1.length q4, .slice p5 e.2.2.2.2.2.1.length q5, .slice p6 e.2.2.2.2.2.2.1.length q6, .slice p7 e.2.2.2.2.2.2.2.1.length q7, .slice p8 e.2.2.2.2.2.2.2.2.length q8, .slice p9 l.length q9, .slice none 0 0, .slice none 0 0, .int .i64 0, .int .i64 0, .slice none 0 0] 90)).alloc (.cells #[stepV (w.heap.size + 1 + 1) 50, stepV (w.heap.size + 1 + 1) 51, stepV (w.heap.size + 1 + 1) 52, stepV (w.heap.size + 1 + 1) 53, stepV (w.heap.size + 1 + 1) 54, stepV (w.heap.size + 1 + 1) 55, stepV (w.heap.size + 1 + 1) 56, stepV (w.heap.size + 1 + 1) 57, stepV (w.heap.size + 1 + 1) 58, stepV (w.heap.size + 1 + 1) 59] 1) = W at *
  have HBW : Hid (Below w.heap.size w W) := BW
  have HRL : Hid (w.heap.size + 1 < W.heap.size) := R.lt
  obtain ⟨Z, HZ⟩ : ∃ Z, Hid (Z = W.alloc (.cells #[.int .i64 0, .int .i64 0, .slice none 0 0, .int .i64 0, .slice none 0 0, .int .i64 0, .int .i64 0, .slice none 0 0, .slice none 0 0, .slice none 0 0, .slice none 0 0, .slice none 0 0, .slice none 0 0, .slice none 0 0] 38)) := ⟨_, rfl⟩
  have HZB : Hid (Below W.heap.size W Z) := by rw [HZ.out]; exact alloc_below _ _
  have HWZ : Hid (Below w.heap.size w Z) := Below.step HBW.out HZB.out
  have A0 : Arr Z (w.heap.size + 1 + 1) 90 [.int .i64 e.1.1, .slice p1 e.1.2.1.length q1, .int .i64 e.1.2.2.1, .slice p2 e.1.2.2.2.length q2, .int .i64 e.2.1, .int .i64 e.2.2.1, .slice p3 e.2.2.2.1.length q3, .slice p4 e.2.2.2.2.1.length q4, .slice p5 e.2.2.2.2.2.1.length q5, .slice p6 e.2.2.2.2.2.2.1.length q6, .slice p7 e.2.2.2.2.2.2.2.1.length q7, .slice p8 e.2.2.2.2.2.2.2.2.length q8, .slice p9 l.length q9, .slice none 0 0, .slice none 0 0, .int .i64 0, .int .i64 0, .slice none 0 0] := A.stay HZB.out
  have TB : ∀ v t, Shk Z (w.heap.size + 1 + 1) v t → Tabs v := fun v t h => h.tabs HWZ.out (by omega) HT.out
  have K := through_c (w.heap.size + 1 + 1) (w.heap.size + 1 + 1 + 1) [50, 51, 52, 53, 54, 55, 56, 57, 58, 59] W (hvE e l)
    (fun i v => (fun i => (1 ≤ i → efC e = 0) ∧ (2 ≤ i → (e.2.1 = 1 ∧ e.2.2.2.1.length = 1) ∧ l.length = 2) ∧ (3 ≤ i → uhC 2 (headM l) = 0) ∧ (4 ≤ i → (uhD 2 (headM l)).2.2.2 = 0 ∨ (uhD 2 (headM l)).2.2.2 = e.1.2.2.1) ∧ (8 ≤ i → cfC (finK (hvT4 e l) sHsB) (hvT4 e l).e.2.2.2.1 (headM l.tail) = 0)) i ∧ ∃ t, [hvT0 e l, hvT0 e l, hvT0 e l, hvT1 e l, hvT1 e l, hvT2 e l, hvT3 e l, hvT4 e l, hvT5 e l, hvT6 e l, hvT7 e l][i]? = some t ∧ Shk Z (w.heap.size + 1 + 1) v t)
    G (by omega) A.lt (by decide) (by intro F hF; simp only [List.mem_cons, List.not_mem_nil, or_false] at hF; rcases hF with rfl | rfl | rfl | rfl | rfl | rfl | rfl | rfl | rfl | rfl <;> exact fun _ _ => by kernel_rfl)
    (by
      rw [← HZ.out]
      have HS : Sees w (blank [w.heap.size + 1 + 1] Z) := Sees.below_of rfl HWZ.out _ (fun k hk => by have := List.mem_singleton.1 hk; omega)
      refine ⟨?_, _, rfl, shk_new Z Z (w.heap.size + 1 + 1) _ _ [.int .i64 e.1.1, .slice p1 e.1.2.1.length q1, .int .i64 e.1.2.2.1, .slice p2 e.1.2.2.2.length q2, .int .i64 e.2.1, .int .i64 e.2.2.1, .slice p3 e.2.2.2.1.length q3, .slice p4 e.2.2.2.2.1.length q4, .slice p5 e.2.2.2.2.2.1.length q5, .slice p6 e.2.2.2.2.2.2.1.length q6, .slice p7 e.2.2.2.2.2.2.2.1.length q7, .slice p8 e.2.2.2.2.2.2.2.2.length q8] (.slice p9 l.length q9) A0 (Only.refl _ _) A0.lt (endC_mono HS HV.out) ⟨p9, q9, rfl, HR9.out.sees msgC_mono HS⟩⟩
      simp)
    (by
      intro i v hp
      rw [← HZ.out]
      obtain ⟨-, t, -, h⟩ := hp
      exact h.only)
    (by
      intro i F hF v hp
      rw [← HZ.out]
      obtain ⟨hfact, t, ht, hsh⟩ := hp
      match i, hF with
      | 0, hF =>
        cases hF
        cases ht
        simp at hfact
        refine (askEnd_c Z _ v _ hsh).mono ?_
        rintro x v' (⟨h1, h2, h3⟩ | ⟨c, h1, h2, h3, h4⟩)
        · exact .inl ⟨h1, by have h5 : efC e = 0 := h2; simpa using h5, _, rfl, h3⟩
        · refine .inr ⟨c, h1, h2, ?_⟩
          have h5 : efC e = c := h3
          rw [hvE_bad (by rw [h5]; exact h4), h5]
      | 1, hF =>
        cases hF
        cases ht
        simp at hfact
        refine (askForServer_c Z _ v _ hsh).mono ?_
        rintro x v' (⟨h1, h2, h3, h4⟩ | ⟨c, h1, h2, h3⟩)
        · exact .inl ⟨h1, by have h5 : e.2.1 = 1 ∧ e.2.2.2.1.length = 1 := h2; have h6 : l.length = 2 := h3; simp [hfact, h5, h6], _, rfl, h4⟩
        · refine .inr ⟨c, h1, h2, ?_⟩
          rcases h3 with ⟨h4, rfl⟩ | ⟨h4, h5, rfl⟩
          · exact hvE_state hfact h4
          · exact hvE_form hfact h4.1 h4.2 h5
      | 2, hF =>
        cases hF
        cases ht
        simp at hfact
        obtain ⟨f1, f2⟩ := hfact
        obtain ⟨a, ha⟩ := List.length_eq_one_iff.1 f2.1.2
        obtain ⟨b0, c0, hbc⟩ := two_ofP f2.2
        have hhd : headM l = b0 := by rw [hbc]; rfl
        refine (hearServerHello_c Z _ v _ (headM l) l.tail hsh (by show l = _; rw [hbc]; rfl) (by show e.2.2.2.1.length ≤ 1000; rw [ha]; simp)).mono ?_
        rintro x v' (⟨h1, h2, h3⟩ | ⟨c, h1, h2, h3, h4⟩)
        · exact .inl ⟨h1, by simp [f1, f2, h2], _, rfl, h3⟩
        · refine .inr ⟨c, h1, h2, ?_⟩
          rw [hhd] at h3
          exact hv_uh f1 f2.1.1 ha hbc h3 h4
      | 3, hF =>
        cases hF
        cases ht
        simp at hfact
        obtain ⟨f1, f2, f3⟩ := hfact
        obtain ⟨a, ha⟩ := List.length_eq_one_iff.1 f2.1.2
        obtain ⟨b0, c0, hbc⟩ := two_ofP f2.2
        have hhd : headM l = b0 := by rw [hbc]; rfl
        refine (askForKey_c Z _ v _ hsh).mono ?_
        rintro x v' (⟨h1, h2, h3⟩ | ⟨c, h1, h2, h3, rfl⟩)
        · have h5 : (uhD 2 (headM l)).2.2.2 = 0 ∨ (uhD 2 (headM l)).2.2.2 = e.1.2.2.1 := h2
          exact .inl ⟨h1, by simp [f1, f2, f3, h5], _, rfl, h3⟩
        · refine .inr ⟨8, h1, h2, ?_⟩
          have h5 : ¬ ((uhD 2 (headM l)).2.2.2 = 0 ∨ (uhD 2 (headM l)).2.2.2 = e.1.2.2.1) := h3
          rw [hhd] at h5 f3
          exact hv_key f1 f2.1.1 ha hbc f3 h5
      | 4, hF =>
        cases hF
        cases ht
        simp at hfact
        obtain ⟨f1, f2, f3, f4⟩ := hfact
        refine (takeMode_c Z _ v _ hsh).mono ?_
        rintro x v' ⟨h1, h2⟩
        exact .inl ⟨h1, by simp [f1, f2, f3, f4], _, rfl, h2⟩
      | 5, hF =>
        cases hF
        cases ht
        simp at hfact
        obtain ⟨f1, f2, f3, f4⟩ := hfact
        refine (reckon_c Z _ v _ hsh (ef_parts f1).1 (hello_share f3).1 (hello_share f3).2 (TB _ _ hsh)).mono ?_
        rintro x v' ⟨h1, h2⟩
        exact .inl ⟨h1, by simp [f1, f2, f3, f4], _, rfl, h2⟩
      | 6, hF =>
        cases hF
        cases ht
        simp at hfact
        obtain ⟨f1, f2, f3, f4⟩ := hfact
        refine (takeBase_c Z _ v _ hsh (secN_len _ _ _) (TB _ _ hsh)).mono ?_
        rintro x v' ⟨h1, h2⟩
        exact .inl ⟨h1, by simp [f1, f2, f3, f4], _, rfl, h2⟩
      | 7, hF =>
        cases hF
        cases ht
        simp at hfact
        obtain ⟨f1, f2, f3, f4⟩ := hfact
        obtain ⟨a, ha⟩ := List.length_eq_one_iff.1 f2.1.2
        obtain ⟨b0, c0, hbc⟩ := two_ofP f2.2
        have hhd : headM l = b0 := by rw [hbc]; rfl
        have htl : headM l.tail = c0 := by rw [hbc]; rfl
        have hms : (hvT4 e l).e.2.2.2.1 = [a, b0] := by show e.2.2.2.1 ++ [headM l] = _; rw [ha, hhd]; rfl
        have hp2 : psC [a, b0] = 0 := hv_ps2 f1 ha (by rw [← hhd]; exact f3)
        refine (hearServerFinished_c Z _ v _ (headM l.tail) hsh (by show l[1]? = _; rw [hbc]; rfl) (secN_len _ _ _) (by rw [hms]; simp) (by rw [hms]; simp) (by rw [hms]; exact hp2) (TB _ _ hsh)).mono ?_
        rintro x v' (⟨h1, h2, h3⟩ | ⟨c, h1, h2, h3, h4⟩)
        · exact .inl ⟨h1, by simp [f1, f2, f3, f4, h2], _, rfl, h3⟩
        · refine .inr ⟨c, h1, h2, ?_⟩
          rw [htl] at h3
          exact hv_fin f1 f2.1.1 ha hbc (by rw [← hhd]; exact f3) (by rw [← hhd]; exact f4) h3 h4
      | 8, hF =>
        cases hF
        cases ht
        simp at hfact
        obtain ⟨f1, f2, f3, f4, f5⟩ := hfact
        obtain ⟨a, ha⟩ := List.length_eq_one_iff.1 f2.1.2
        obtain ⟨b0, c0, hbc⟩ := two_ofP f2.2
        have hhd : headM l = b0 := by rw [hbc]; rfl
        have htl : headM l.tail = c0 := by rw [hbc]; rfl
        have hms : (hvT5 e l).e.2.2.2.1 = [a, b0, c0] := by show (e.2.2.2.1 ++ [headM l]) ++ [headM l.tail] = _; rw [ha, hhd, htl]; rfl
        have hp2 : psC [a, b0] = 0 := hv_ps2 f1 ha (by rw [← hhd]; exact f3)
        have hp3 : psC [a, b0, c0] = 0 := hv_ps3 f1 ha (by rw [← hhd]; exact f3) (by rw [← htl]; exact (cf_fault f5).1)
        refine (sayClientFinished_c Z _ v _ hsh (secN_len _ _ _) (by rw [hms]; simp) (by rw [hms]; simp) (by show ([] : List MsgD).length ≤ 1000; decide) (by rw [hms]; exact hp2) (by rw [hms]; exact hp3) (TB _ _ hsh)).mono ?_
        rintro x v' ⟨h1, h2⟩
        exact .inl ⟨h1, by simp [f1, f2, f3, f4, f5], _, rfl, h2⟩
      | 9, hF =>
        cases hF
        cases ht
        simp at hfact
        obtain ⟨f1, f2, f3, f4, f5⟩ := hfact
        obtain ⟨a, ha⟩ := List.length_eq_one_iff.1 f2.1.2
        obtain ⟨b0, c0, hbc⟩ := two_ofP f2.2
        have hhd : headM l = b0 := by rw [hbc]; rfl
        have htl : headM l.tail = c0 := by rw [hbc]; rfl
        have hms : (hvT6 e l).e.2.2.2.1 = [a, b0, c0, finM (hvT5 e l).secret cHsB (hvT5 e l).e.2.2.2.1] := by show ((e.2.2.2.1 ++ [headM l]) ++ [headM l.tail]) ++ [_] = _; rw [ha, hhd, htl]; rfl
        have hp3 : psC [a, b0, c0] = 0 := hv_ps3 f1 ha (by rw [← hhd]; exact f3) (by rw [← htl]; exact (cf_fault f5).1)
        refine (finish_c Z _ v _ hsh (masterN_len _) (by rw [hms]; simp) (by rw [hms]; exact hp3) (TB _ _ hsh)).mono ?_
        rintro x v' ⟨h1, h2⟩
        exact .inl ⟨h1, by simp [f1, f2, f3, f4, f5], _, rfl, h2⟩
      | i + 10, hF => simp at hF)
    (by
      intro v hp
      rw [← HZ.out]
      obtain ⟨hfact, t, ht, hsh⟩ := hp
      cases ht
      simp at hfact
      obtain ⟨f1, f2, f3, f4, f5⟩ := hfact
      obtain ⟨a, ha⟩ := List.length_eq_one_iff.1 f2.1.2
      obtain ⟨b0, c0, hbc⟩ := two_ofP f2.2
      have hhd : headM l = b0 := by rw [hbc]; rfl
      have htl : headM l.tail = c0 := by rw [hbc]; rfl
      rw [hhd] at f3 f4
      rw [htl] at f5
      have hE := hv_end f1 f2.1.1 ha hbc f3 f4 f5
      have he := hvE_end (e := e) (l := l) (by rw [hE])
      rw [hE] at he
      exact ⟨_, hsh, Nat.le_trans (end_small he) (by decide), hE⟩
    )
  have HK : Hid (∀ Q : Ending → World → Prop, (∀ x w', (∃ us fp, x = .returned (.agg us.toArray) ∧ endResultC.own w' W.heap.size (hvE e l) us fp ∧ Only [w.heap.size + 1 + 1] W w') → Q x w') → Calls Tryz.prog 49 #[.pointer (some ⟨w.heap.size + 1 + 1, 0, none⟩), .slice (some ⟨w.heap.size + 1 + 1 + 1, 0, none⟩) 10 10] W Q) := fun Q h => K.mono h
  clear K A A0 G HV HZ HZB HWZ TB
  refine HK.out _ ?_
  clear HK
  rintro x w1 ⟨us, fp, rfl, ko, on⟩
  have hus : us.length = 14 := endResultC.len (endResultC.toRep ko)
  have hone := endResultC.one (endResultC.toRep ko)
  replace R : Arr w1 (w.heap.size + 1) 38 [.int .i64 0, .int .i64 0, .slice none 0 0, .int .i64 0, .slice none 0 0, .int .i64 0, .int .i64 0, .slice none 0 0, .slice none 0 0, .slice none 0 0, .slice none 0 0, .slice none 0 0, .slice none 0 0, .slice none 0 0] := (on.block _ R.lt (fun hm => by have := List.mem_singleton.1 hm; omega)).trans R
  have BW1 : Below w.heap.size w w1 := Below.only HBW.out on (fun k hk => by have := List.mem_singleton.1 hk; omega)
  have hres : Hid ((Tryz.prog.info? 38).map (·.size) = some us.toArray.size) := by show _ = _; rw [List.size_toArray, hus]; kernel_rfl
  have KO : Hid (endResultC.own (w1.setRow (w.heap.size + 1) us.toArray) w.heap.size (hvE e l) us fp) := endResultC.low (endResultC.row ko (fun k hk => by have := (endResultC.ins ko k hk).1; have := HRL.out; omega) _) (by have := HRL.out; omega)
  have H14 : Hid (us.length = 14) := hus
  clear ko hus on eW
  go_wp2_with (refine wpList_store_row rfl 38 (.tmp 4) (.tmp 32) rfl (w.heap.size + 1) us.toArray rfl rfl 38 #[.int .i64 0, .int .i64 0, .slice none 0 0, .int .i64 0, .slice none 0 0, .int .i64 0, .int .i64 0, .slice none 0 0, .slice none 0 0, .slice none 0 0, .slice none 0 0, .slice none 0 0, .slice none 0 0, .slice none 0 0] R hres.out (by have h := H14.out; simp [h]) (by simpa using hone) ?_)
  exact bodyPost_ret (v := .agg us.toArray) (results_cell_row Tryz.results11 _ _ (w.heap.size + 1) 38 _ (0, 0) _ rfl (R.row us) Tryz.underlying38 rfl hres.out) rfl ⟨us, fp, rfl, KO.out, Below.row BW1 (by omega) _⟩
set_option maxRecDepth 4000 in
set_option maxHeartbeats 4000000 in
theorem implHn_k (e : EndD) (m : MsgD) (us vs : List Value) (w : World) (r : endC.rep w e us) (r2 : msgC.rep w m vs) (hT : Tabs w) :
    Calls Tryz.prog 22 #[.agg us.toArray, .agg vs.toArray] w fun x w' => ∃ us fp, x = .returned (.agg us.toArray) ∧ endResultC.own w' w.heap.size (hnE e m) us fp ∧ Below w.heap.size w w' := by
  obtain ⟨p1, q1, p2, q2, p3, q3, p4, q4, p5, q5, p6, q6, p7, q7, p8, q8, rfl, r1, r2x, r3, r4, r5, r6, r7, r8⟩ := end_rep r
  obtain ⟨pm, qm, rfl, rm⟩ := msg_rep r2
  have HV : Hid (endC.rep w e [.int .i64 e.1.1, .slice p1 e.1.2.1.length q1, .int .i64 e.1.2.2.1, .slice p2 e.1.2.2.2.length q2, .int .i64 e.2.1, .int .i64 e.2.2.1, .slice p3 e.2.2.2.1.length q3, .slice p4 e.2.2.2.2.1.length q4, .slice p5 e.2.2.2.2.2.1.length q5, .slice p6 e.2.2.2.2.2.2.1.length q6, .slice p7 e.2.2.2.2.2.2.2.1.length q7, .slice p8 e.2.2.2.2.2.2.2.2.length q8]) := end_mk r1 r2x r3 r4 r5 r6 r7 r8
  have HRM : Hid (Rd w pm qm m.2) := rm
  have hmf : ∀ (fn : Fn) (first cap : Array Value) (w : World), (Instr.makeFunc fn first cap).run Tryz.prog w = .ok (.func fn first cap) w := fun _ _ _ _ => rfl
  have BW : Below w.heap.size w ((((((w.alloc (.cells #[.int .i64 e.1.1, .slice p1 e.1.2.1.length q1, .int .i64 e.1.2.2.1, .slice p2 e.1.2.2.2.length q2, .int .i64 e.2.1, .int .i64 e.2.2.1, .slice p3 e.2.2.2.1.length q3, .slice p4 e.2.2.2.2.1.length q4, .slice p5 e.2.2.2.2.2.1.length q5, .slice p6 e.2.2.2.2.2.2.1.length q6, .slice p7 e.2.2.2.2.2.2.2.1.length q7, .slice p8 e.2.2.2.2.2.2.2.2.length q8] 36)).alloc (.cells #[.int .i64 m.1, .slice pm m.2.length qm] 53)).alloc (.cells #[.int .i64 0, .int .i64 0, .slice none 0 0, .int .i64 0, .slice none 0 0, .int .i64 0, .int .i64 0, .slice none 0 0, .slice none 0 0, .slice none 0 0, .slice none 0 0, .slice none 0 0, .slice none 0 0, .slice none 0 0] 38)).alloc (.cells #[.int .i64 m.1, .slice pm m.2.length qm] 53)).alloc (.cells #[.int .i64 e.1.1, .slice p1 e.1.2.1.length q1, .int .i64 e.1.2.2.1, .slice p2 e.1.2.2.2.length q2, .int .i64 e.2.1, .int .i64 e.2.2.1, .slice p3 e.2.2.2.1.length q3, .slice p4 e.2.2.2.2.1.length q4, .slice p5 e.2.2.2.2.2.1.length q5, .slice p6 e.2.2.2.2.2.2.1.length q6, .slice p7 e.2.2.2.2.2.2.2.1.length q7, .slice p8 e.2.2.2.2.2.2.2.2.length q8, .slice (some ⟨w.heap.size + 1 + 1 + 1, 0, none⟩) 1 1, .slice none 0 0, .slice none 0 0, .int .i64 0, .int .i64 0, .slice none 0 0] 90)).alloc (.cells #[stepV (w.heap.size + 1 + 1 + 1 + 1) 50, stepV (w.heap.size + 1 + 1 + 1 + 1) 67, stepV (w.heap.size + 1 + 1 + 1 + 1) 68, stepV (w.heap.size + 1 + 1 + 1 + 1) 55, stepV (w.heap.size + 1 + 1 + 1 + 1) 69, stepV (w.heap.size + 1 + 1 + 1 + 1) 59] 1)) := Below.mk (Below.mk (Below.mk (Below.mk (Below.mk (alloc_below _ _) _) _) _) _) _
  have R := (((Arr.new ((w.alloc (.cells #[.int .i64 e.1.1, .slice p1 e.1.2.1.length q1, .int .i64 e.1.2.2.1, .slice p2 e.1.2.2.2.length q2, .int .i64 e.2.1, .int .i64 e.2.2.1, .slice p3 e.2.2.2.1.length q3, .slice p4 e.2.2.2.2.1.length q4, .slice p5 e.2.2.2.2.2.1.length q5, .slice p6 e.2.2.2.2.2.2.1.length q6, .slice p7 e.2.2.2.2.2.2.2.1.length q7, .slice p8 e.2.2.2.2.2.2.2.2.length q8] 36)).alloc (.cells #[.int .i64 m.1, .slice pm m.2.length qm] 53)) [.int .i64 0, .int .i64 0, .slice none 0 0, .int .i64 0, .slice none 0 0, .int .i64 0, .int .i64 0, .slice none 0 0, .slice none 0 0, .slice none 0 0, .slice none 0 0, .slice none 0 0, .slice none 0 0, .slice none 0 0] 38).old _ (.cells #[.int .i64 m.1, .slice pm m.2.length qm] 53)).old _ (.cells #[.int .i64 e.1.1, .slice p1 e.1.2.1.length q1, .int .i64 e.1.2.2.1, .slice p2 e.1.2.2.2.length q2, .int .i64 e.2.1, .int .i64 e.2.2.1, .slice p3 e.2.2.2.1.length q3, .slice p4 e.2.2.2.2.1.length q4, .slice p5 e.2.2.2.2.2.1.length q5, .slice p6 e.2.2.2.2.2.2.1.length q6, .slice p7 e.2.2.2.2.2.2.2.1.length q7, .slice p8 e.2.2.2.2.2.2.2.2.length q8, .slice (some ⟨w.heap.size + 1 + 1 + 1, 0, none⟩) 1 1, .slice none 0 0, .slice none 0 0, .int .i64 0, .int .i64 0, .slice none 0 0] 90)).old _ (.cells #[stepV (w.heap.size + 1 + 1 + 1 + 1) 50, stepV (w.heap.size + 1 + 1 + 1 + 1) 67, stepV (w.heap.size + 1 + 1 + 1 + 1) 68, stepV (w.heap.size + 1 + 1 + 1 + 1) 55, stepV (w.heap.size + 1 + 1 + 1 + 1) 69, stepV (w.heap.size + 1 + 1 + 1 + 1) 59] 1)
  rw [size_alloc, size_alloc] at R
  have L := ((Arr.new (((w.alloc (.cells #[.int .i64 e.1.1, .slice p1 e.1.2.1.length q1, .int .i64 e.1.2.2.1, .slice p2 e.1.2.2.2.length q2, .int .i64 e.2.1, .int .i64 e.2.2.1, .slice p3 e.2.2.2.1.length q3, .slice p4 e.2.2.2.2.1.length q4, .slice p5 e.2.2.2.2.2.1.length q5, .slice p6 e.2.2.2.2.2.2.1.length q6, .slice p7 e.2.2.2.2.2.2.2.1.length q7, .slice p8 e.2.2.2.2.2.2.2.2.length q8] 36)).alloc (.cells #[.int .i64 m.1, .slice pm m.2.length qm] 53)).alloc (.cells #[.int .i64 0, .int .i64 0, .slice none 0 0, .int .i64 0, .slice none 0 0, .int .i64 0, .int .i64 0, .slice none 0 0, .slice none 0 0, .slice none 0 0, .slice none 0 0, .slice none 0 0, .slice none 0 0, .slice none 0 0] 38)) [.int .i64 m.1, .slice pm m.2.length qm] 53).old _ (.cells #[.int .i64 e.1.1, .slice p1 e.1.2.1.length q1, .int .i64 e.1.2.2.1, .slice p2 e.1.2.2.2.length q2, .int .i64 e.2.1, .int .i64 e.2.2.1, .slice p3 e.2.2.2.1.length q3, .slice p4 e.2.2.2.2.1.length q4, .slice p5 e.2.2.2.2.2.1.length q5, .slice p6 e.2.2.2.2.2.2.1.length q6, .slice p7 e.2.2.2.2.2.2.2.1.length q7, .slice p8 e.2.2.2.2.2.2.2.2.length q8, .slice (some ⟨w.heap.size + 1 + 1 + 1, 0, none⟩) 1 1, .slice none 0 0, .slice none 0 0, .int .i64 0, .int .i64 0, .slice none 0 0] 90)).old _ (.cells #[stepV (w.heap.size + 1 + 1 + 1 + 1) 50, stepV (w.heap.size + 1 + 1 + 1 + 1) 67, stepV (w.heap.size + 1 + 1 + 1 + 1) 68, stepV (w.heap.size + 1 + 1 + 1 + 1) 55, stepV (w.heap.size + 1 + 1 + 1 + 1) 69, stepV (w.heap.size + 1 + 1 + 1 + 1) 59] 1)
  rw [size_alloc, size_alloc, size_alloc] at L
  have A := (Arr.new ((((w.alloc (.cells #[.int .i64 e.1.1, .slice p1 e.1.2.1.length q1, .int .i64 e.1.2.2.1, .slice p2 e.1.2.2.2.length q2, .int .i64 e.2.1, .int .i64 e.2.2.1, .slice p3 e.2.2.2.1.length q3, .slice p4 e.2.2.2.2.1.length q4, .slice p5 e.2.2.2.2.2.1.length q5, .slice p6 e.2.2.2.2.2.2.1.length q6, .slice p7 e.2.2.2.2.2.2.2.1.length q7, .slice p8 e.2.2.2.2.2.2.2.2.length q8] 36)).alloc (.cells #[.int .i64 m.1, .slice pm m.2.length qm] 53)).alloc (.cells #[.int .i64 0, .int .i64 0, .slice none 0 0, .int .i64 0, .slice none 0 0, .int .i64 0, .int .i64 0, .slice none 0 0, .slice none 0 0, .slice none 0 0, .slice none 0 0, .slice none 0 0, .slice none 0 0, .slice none 0 0] 38)).alloc (.cells #[.int .i64 m.1, .slice pm m.2.length qm] 53)) [.int .i64 e.1.1, .slice p1 e.1.2.1.length q1, .int .i64 e.1.2.2.1, .slice p2 e.1.2.2.2.length q2, .int .i64 e.2.1, .int .i64 e.2.2.1, .slice p3 e.2.2.2.1.length q3, .slice p4 e.2.2.2.2.1.length q4, .slice p5 e.2.2.2.2.2.1.length q5, .slice p6 e.2.2.2.2.2.2.1.length q6, .slice p7 e.2.2.2.2.2.2.2.1.length q7, .slice p8 e.2.2.2.2.2.2.2.2.length q8, .slice (some ⟨w.heap.size + 1 + 1 + 1, 0, none⟩) 1 1, .slice none 0 0, .slice none 0 0, .int .i64 0, .int .i64 0, .slice none 0 0] 90).old _ (.cells #[stepV (w.heap.size + 1 + 1 + 1 + 1) 50, stepV (w.heap.size + 1 + 1 + 1 + 1) 67, stepV (w.heap.size + 1 + 1 + 1 + 1) 68, stepV (w.heap.size + 1 + 1 + 1 + 1) 55, stepV (w.heap.size + 1 + 1 + 1 + 1) 69, stepV (w.heap.size + 1 + 1 + 1 + 1) 59] 1)
  rw [size_alloc, size_alloc, size_alloc, size_alloc] at A
  have G := Arr.new (((((w.alloc (.cells #[.int .i64 e.1.1, .slice p1 e.1.2.1.length q1, .int .i64 e.1.2.2.1, .slice p2 e.1.2.2.2.length q2, .int .i64 e.2.1, .int .i64 e.2.2.1, .slice p3 e.2.2.2.1.length q3, .slice p4 e.2.2.2.2.1.length q4, .slice p5 e.2.2.2.2.2.1.length q5, .slice p6 e.2.2.2.2.2.2.1.length q6, .slice p7 e.2.2.2.2.2.2.2.1.length q7, .slice p8 e.2.2.2.2.2.2.2.2.length q8] 36)).alloc (.cells #[.int .i64 m.1, .slice pm m.2.length qm] 53)).alloc (.cells #[.int .i64 0, .int .i64 0, .slice none 0 0, .int .i64 0, .slice none 0 0, .int .i64 0, .int .i64 0, .slice none 0 0, .slice none 0 0, .slice none 0 0, .slice none 0 0, .slice none 0 0, .slice none 0 0, .slice none 0 0] 38)).alloc (.cells #[.int .i64 m.1, .slice pm m.2.length qm] 53)).alloc (.cells #[.int .i64 e.1.1, .slice p1 e.1.2.1.length q1, .int .i64 e.1.2.2.1, .slice p2 e.1.2.2.2.length q2, .int .i64 e.2.1, .int .i64 e.2.2.1, .slice p3 e.2.2.2.1.length q3, .slice p4 e.2.2.2.2.1.length q4, .slice p5 e.2.2.2.2.2.1.length q5, .slice p6 e.2.2.2.2.2.2.1.length q6, .slice p7 e.2.2.2.2.2.2.2.1.length q7, .slice p8 e.2.2.2.2.2.2.2.2.length q8, .slice (some ⟨w.heap.size + 1 + 1 + 1, 0, none⟩) 1 1, .slice none 0 0, .slice none 0 0, .int .i64 0, .int .i64 0, .slice none 0 0] 90)) [stepV (w.heap.size + 1 + 1 + 1 + 1) 50, stepV (w.heap.size + 1 + 1 + 1 + 1) 67, stepV (w.heap.size + 1 + 1 + 1 + 1) 68, stepV (w.heap.size + 1 + 1 + 1 + 1) 55, stepV (w.heap.size + 1 + 1 + 1 + 1) 69, stepV (w.heap.size + 1 + 1 + 1 + 1) 59] 1
  rw [size_alloc, size_alloc, size_alloc, size_alloc, size_alloc] at G
  have HT : Hid (Tabs w) := hT
  clear hT r1 r2x r3 r4 r5 r6 r7 r8 rm r r2
  go_enter Tryz.func22, Tryz.ntmps22
  go_wp2_with fail
  change Calls Tryz.prog _ _ ((((((w.alloc (.cells #[.int .i64 e.1.1, .slice p1 e.1.2.1.length q1, .int .i64 e.1.2.2.1, .slice p2 e.1.2.2.2.length q2, .int .i64 e.2.1, .int .i64 e.2.2.1, .slice p3 e.2.2.2.1.length q3, .slice p4 e.2.2.2.2.1.length q4, .slice p5 e.2.2.2.2.2.1.length q5, .slice p6 e.2.2.2.2.2.2.1.length q6, .slice p7 e.2.2.2.2.2.2.2.1.length q7, .slice p8 e.2.2.2.2.2.2.2.2.length q8] 36)).alloc (.cells #[.int .i64 m.1, .slice pm m.2.length qm] 53)).alloc (.cells #[.int .i64 0, .int .i64 0, .slice none 0 0, .int .i64 0, .slice none 0 0, .int .i64 0, .int .i64 0, .slice none 0 0, .slice none 0 0, .slice none 0 0, .slice none 0 0, .slice none 0 0, .slice none 0 0, .slice none 0 0] 38)).alloc (.cells #[.int .i64 m.1, .slice pm m.2.length qm] 53)).alloc (.cells #[.int .i64 e.1.1, .slice p1 e.1.2.1.length q1, .int .i64 e.1.2.2.1, .slice p2 e.1.2.2.2.length q2, .int .i64 e.2.1, .int .i64 e.2.2.1, .slice p3 e.2.2.2.1.length q3, .slice p4 e.2.2.2.2.1.length q4, .slice p5 e.2.2.2.2.2.1.length q5, .slice p6 e.2.2.2.2.2.2.1.length q6, .slice p7 e.2.2.2.2.2.2.2.1.length q7, .slice p8 e.2.2.2.2.2.2.2.2.length q8, .slice (some ⟨w.heap.size + 1 + 1 + 1, 0, none⟩) 1 1, .slice none 0 0, .slice none 0 0, .int .i64 0, .int .i64 0, .slice none 0 0] 90)).alloc (.cells #[stepV (w.heap.size + 1 + 1 + 1 + 1) 50, stepV (w.heap.size + 1 + 1 + 1 + 1) 67, stepV (w.heap.size + 1 + 1 + 1 + 1) 68, stepV (w.heap.size + 1 + 1 + 1 + 1) 55, stepV (w.heap.size + 1 + 1 + 1 + 1) 69, stepV (w.heap.size + 1 + 1 + 1 + 1) 59] 1)) _
  generalize eW : (((((w.alloc (.cells #[.int .i64 e.1.1, .slice p1 e.1.2.1.length q1, .int .i64 e.1.2.2.1, .slice p2 e.1.2.2.2.length q2, .int .i64 e.2.1, .int .i64 e.2.2.1, .slice p3 e.2.2.2.1.length q3, .slice p4 e.2.2.2.2.1.length q4, .slice p5 e.2.2.2.2.2.1.length q5, .slice p6 e.2.2.2.2.2.2.1.length q6, .slice p7 e.2.2.2.2.2.2.2.1.length q7, .slice p8 e.2.2.2.2.2.2.2.2.length q8] 36)).alloc (.cells #[.int .i64 m.1, .slice pm m.2.length qm] 53)).alloc (.cells #[.int .i64 0, .int .i64 0, .slice none 0 0, .int .i64 0, .slice none 0 0, .int .i64 0, .int .i64 0, .slice none 0 0, .slice none 0 0, .slice none 0 0, .slice none 0 0, .slice none 0 0, .slice none 0 0, .slice none 0 0] 38)).alloc (.cells #[.int .i64 m.1, .slice pm m.2.length qm] 53)).alloc (.cells #[.int .i64 e.1.1, .slice p1 e.1.2.1.length q1, .int .i64 e.1.2.2.1, .slice p2 e.1.2.2.2.length q2, .int .i64 e.2.1, .int .i64 e.2.2.1, .slice p3 e.2.2.2.1.length q3, .slice p4 e.2.2.2.2.1.length q4, .slice p5 e.2.2.2.2.2.1.length q5, .slice p6 e.2.2.2.2.2.2.1.length q6, .slice p7 e.2.2.2.2.2.2.2.1.length q7, .slice p8 e.2.2.2.2.2.2.2.2.length q8, .slice (some ⟨w.heap.size + 1 + 1 + 1, 0, none⟩) 1 1, .slice none 0 0, .slice none 0 0, .int .i64 0, .int .i64 0, .slice none 0 0] 90)).alloc (.cells #[stepV (w.heap.size + 1 + 1 + 1 + 1) 50, stepV (w.heap.size + 1 + 1 + 1 + 1) 67, stepV (w.heap.size + 1 + 1 + 1 + 1) 68, stepV (w.heap.size + 1 + 1 + 1 + 1) 55, stepV (w.heap.size + 1 + 1 + 1 + 1) 69, stepV (w.heap.size + 1 + 1 + 1 + 1) 59] 1) = W at *
  have HBW : Hid (Below w.heap.size w W) := BW
  have HRL : Hid (w.heap.size + 1 + 1 < W.heap.size) := R.lt
  obtain ⟨Z, HZ⟩ : ∃ Z, Hid (Z = W.alloc (.cells #[.int .i64 0, .int .i64 0, .slice none 0 0, .int .i64 0, .slice none 0 0, .int .i64 0, .int .i64 0, .slice none 0 0, .slice none 0 0, .slice none 0 0, .slice none 0 0, .slice none 0 0, .slice none 0 0, .slice none 0 0] 38)) := ⟨_, rfl⟩
  have HZB : Hid (Below W.heap.size W Z) := by rw [HZ.out]; exact alloc_below _ _
  have HWZ : Hid (Below w.heap.size w Z) := Below.step HBW.out HZB.out
  have A0 : Arr Z (w.heap.size + 1 + 1 + 1 + 1) 90 [.int .i64 e.1.1, .slice p1 e.1.2.1.length q1, .int .i64 e.1.2.2.1, .slice p2 e.1.2.2.2.length q2, .int .i64 e.2.1, .int .i64 e.2.2.1, .slice p3 e.2.2.2.1.length q3, .slice p4 e.2.2.2.2.1.length q4, .slice p5 e.2.2.2.2.2.1.length q5, .slice p6 e.2.2.2.2.2.2.1.length q6, .slice p7 e.2.2.2.2.2.2.2.1.length q7, .slice p8 e.2.2.2.2.2.2.2.2.length q8, .slice (some ⟨w.heap.size + 1 + 1 + 1, 0, none⟩) 1 1, .slice none 0 0, .slice none 0 0, .int .i64 0, .int .i64 0, .slice none 0 0] := A.stay HZB.out
  have TB : ∀ v t, Shk Z (w.heap.size + 1 + 1 + 1 + 1) v t → Tabs v := fun v t h => h.tabs HWZ.out (by omega) HT.out
  have K := through_c (w.heap.size + 1 + 1 + 1 + 1) (w.heap.size + 1 + 1 + 1 + 1 + 1) [50, 67, 68, 55, 69, 59] W (hnE e m)
    (fun i v => (fun i => (1 ≤ i → efC e = 0) ∧ (2 ≤ i → e.2.1 = 2 ∧ e.2.2.2.1.length = 3 ∧ e.2.2.2.2.1.length ≠ 0) ∧ (3 ≤ i → uhC 1 (headM e.2.2.2.1) = 0) ∧ (5 ≤ i → cfC (finK (hnT2 e m) cHsB) (hnT2 e m).e.2.2.2.1 m = 0)) i ∧ ∃ t, [hnT0 e m, hnT0 e m, hnT0 e m, hnT1 e m, hnT2 e m, hnT3 e m, hnT4 e m][i]? = some t ∧ Shk Z (w.heap.size + 1 + 1 + 1 + 1) v t)
    G (by omega) A.lt (by decide) (by intro F hF; simp only [List.mem_cons, List.not_mem_nil, or_false] at hF; rcases hF with rfl | rfl | rfl | rfl | rfl | rfl <;> exact fun _ _ => by kernel_rfl)
    (by
      rw [← HZ.out]
      have HS : Sees w (blank [w.heap.size + 1 + 1 + 1 + 1] Z) := Sees.below_of rfl HWZ.out _ (fun k hk => by have := List.mem_singleton.1 hk; omega)
      have LB : Arr (blank [w.heap.size + 1 + 1 + 1 + 1] Z) (w.heap.size + 1 + 1 + 1) 53 [.int .i64 m.1, .slice pm m.2.length qm] := (blank_out (by simp)).trans (L.stay HZB.out)
      refine ⟨?_, _, rfl, shk_new Z Z (w.heap.size + 1 + 1 + 1 + 1) _ _ [.int .i64 e.1.1, .slice p1 e.1.2.1.length q1, .int .i64 e.1.2.2.1, .slice p2 e.1.2.2.2.length q2, .int .i64 e.2.1, .int .i64 e.2.2.1, .slice p3 e.2.2.2.1.length q3, .slice p4 e.2.2.2.2.1.length q4, .slice p5 e.2.2.2.2.2.1.length q5, .slice p6 e.2.2.2.2.2.2.1.length q6, .slice p7 e.2.2.2.2.2.2.2.1.length q7, .slice p8 e.2.2.2.2.2.2.2.2.length q8] (.slice (some ⟨w.heap.size + 1 + 1 + 1, 0, none⟩) 1 1) A0 (Only.refl _ _) A0.lt (endC_mono HS HV.out) ⟨_, _, rfl, (rdL_oneM (LB : Arr (blank [w.heap.size + 1 + 1 + 1 + 1] Z) (w.heap.size + 1 + 1 + 1) 53 [.int .i64 m.1, .slice pm m.2.length qm]) (HRM.out.sees HS))⟩⟩
      simp)
    (by
      intro i v hp
      rw [← HZ.out]
      obtain ⟨-, t, -, h⟩ := hp
      exact h.only)
    (by
      intro i F hF v hp
      rw [← HZ.out]
      obtain ⟨hfact, t, ht, hsh⟩ := hp
      match i, hF with
      | 0, hF =>
        cases hF
        cases ht
        simp at hfact
        refine (askEnd_c Z _ v _ hsh).mono ?_
        rintro x v' (⟨h1, h2, h3⟩ | ⟨c, h1, h2, h3, h4⟩)
        · exact .inl ⟨h1, by have h5 : efC e = 0 := h2; simpa using h5, _, rfl, h3⟩
        · refine .inr ⟨c, h1, h2, ?_⟩
          have h5 : efC e = c := h3
          rw [hnE_bad (by rw [h5]; exact h4), h5]
      | 1, hF =>
        cases hF
        cases ht
        simp at hfact
        refine (askForFinish_c Z _ v _ hsh).mono ?_
        rintro x v' (⟨h1, h2, h3⟩ | ⟨c, h1, h2, h3, rfl⟩)
        · have h5 : e.2.1 = 2 ∧ e.2.2.2.1.length = 3 ∧ e.2.2.2.2.1.length ≠ 0 := h2
          exact .inl ⟨h1, by have f1 := hfact; have f2 := h5; exact ⟨fun _ => f1, fun _ => f2, fun h => by first | exact f3 | omega, fun h => by first | exact f5 | omega⟩, _, rfl, h3⟩
        · exact .inr ⟨8, h1, h2, hnE_state hfact h3⟩
      | 2, hF =>
        cases hF
        cases ht
        simp at hfact
        have f1 := hfact.1
        have f2 : e.2.1 = 2 ∧ e.2.2.2.1.length = 3 ∧ e.2.2.2.2.1.length ≠ 0 := by simpa using hfact.2
        obtain ⟨a, b0, c0, ha⟩ := three_of f2.2.1
        have hhd : headM e.2.2.2.1 = a := by rw [ha]; rfl
        refine (recallClientHello_c Z _ v _ (headM e.2.2.2.1) e.2.2.2.1.tail hsh (by show e.2.2.2.1 = _; rw [ha]; rfl)).mono ?_
        rintro x v' (⟨h1, h2, h3⟩ | ⟨c, h1, h2, h3, h4⟩)
        · exact .inl ⟨h1, by have f3 := h2; exact ⟨fun _ => f1, fun _ => f2, fun h => by first | exact f3 | omega, fun h => by first | exact f5 | omega⟩, _, rfl, h3⟩
        · refine .inr ⟨c, h1, h2, ?_⟩
          rw [hhd] at h3
          exact hn_uh f1 f2.1 ha f2.2.2 h3 h4
      | 3, hF =>
        cases hF
        cases ht
        simp at hfact
        have f1 := hfact.1
        have f2 : e.2.1 = 2 ∧ e.2.2.2.1.length = 3 ∧ e.2.2.2.2.1.length ≠ 0 := by simpa using hfact.2.1
        have f3 := hfact.2.2
        refine (reckon_c Z _ v _ hsh (ef_parts f1).1 (hello_share f3).1 (hello_share f3).2 (TB _ _ hsh)).mono ?_
        rintro x v' ⟨h1, h2⟩
        exact .inl ⟨h1, by exact ⟨fun _ => f1, fun _ => f2, fun h => by first | exact f3 | omega, fun h => by first | exact f5 | omega⟩, _, rfl, h2⟩
      | 4, hF =>
        cases hF
        cases ht
        simp at hfact
        have f1 := hfact.1
        have f2 : e.2.1 = 2 ∧ e.2.2.2.1.length = 3 ∧ e.2.2.2.2.1.length ≠ 0 := by simpa using hfact.2.1
        have f3 := hfact.2.2
        obtain ⟨a, b0, c0, ha⟩ := three_of f2.2.1
        have hhd : headM e.2.2.2.1 = a := by rw [ha]; rfl
        have hms : (hnT2 e m).e.2.2.2.1 = [a, b0, c0] := ha
        have hp2 : psC [a, b0] = 0 := hn_ps2 f1 ha
        refine (hearClientFinished_c Z _ v _ m hsh rfl (secN_len _ _ _) (by rw [hms]; simp) (by rw [hms]; simp) (by rw [hms]; exact hp2) (TB _ _ hsh)).mono ?_
        rintro x v' (⟨h1, h2, h3⟩ | ⟨c, h1, h2, h3, h4⟩)
        · exact .inl ⟨h1, by have f5 := h2; exact ⟨fun _ => f1, fun _ => f2, fun h => by first | exact f3 | omega, fun h => by first | exact f5 | omega⟩, _, rfl, h3⟩
        · refine .inr ⟨c, h1, h2, ?_⟩
          exact hn_fin f1 f2.1 ha f2.2.2 (by rw [← hhd]; exact f3) h3 h4
      | 5, hF =>
        cases hF
        cases ht
        simp at hfact
        have f1 := hfact.1
        have f2 : e.2.1 = 2 ∧ e.2.2.2.1.length = 3 ∧ e.2.2.2.2.1.length ≠ 0 := by simpa using hfact.2.1
        have f3 := hfact.2.2.1
        have f5 := hfact.2.2.2
        obtain ⟨a, b0, c0, ha⟩ := three_of f2.2.1
        have hhd : headM e.2.2.2.1 = a := by rw [ha]; rfl
        have hms : (hnT3 e m).e.2.2.2.1 = [a, b0, c0, m] := by show e.2.2.2.1 ++ [m] = _; rw [ha]; rfl
        have hp3 : psC [a, b0, c0] = 0 := hn_ps3 f1 ha
        have hb32 : e.2.2.2.2.1.length = 32 := by rcases (ef_parts f1).2.2.2.2.2.1 with h | h; exact absurd h f2.2.2; exact h
        refine (finish_c Z _ v _ hsh hb32 (by rw [hms]; simp) (by rw [hms]; exact hp3) (TB _ _ hsh)).mono ?_
        rintro x v' ⟨h1, h2⟩
        exact .inl ⟨h1, by exact ⟨fun _ => f1, fun _ => f2, fun h => by first | exact f3 | omega, fun h => by first | exact f5 | omega⟩, _, rfl, h2⟩
      | i + 6, hF => simp at hF)
    (by
      intro v hp
      rw [← HZ.out]
      obtain ⟨hfact, t, ht, hsh⟩ := hp
      cases ht
      simp at hfact
      have f1 := hfact.1
      have f2 : e.2.1 = 2 ∧ e.2.2.2.1.length = 3 ∧ e.2.2.2.2.1.length ≠ 0 := by simpa using hfact.2.1
      have f3 := hfact.2.2.1
      have f5 := hfact.2.2.2
      obtain ⟨a, b0, c0, ha⟩ := three_of f2.2.1
      have hhd : headM e.2.2.2.1 = a := by rw [ha]; rfl
      rw [hhd] at f3
      have hE := hn_end f1 f2.1 ha f2.2.2 f3 f5
      have he := hnE_end (e := e) (m := m) (by rw [hE])
      rw [hE] at he
      exact ⟨_, hsh, Nat.le_trans (end_small he) (by decide), hE⟩
    )
  have HK : Hid (∀ Q : Ending → World → Prop, (∀ x w', (∃ us fp, x = .returned (.agg us.toArray) ∧ endResultC.own w' W.heap.size (hnE e m) us fp ∧ Only [w.heap.size + 1 + 1 + 1 + 1] W w') → Q x w') → Calls Tryz.prog 49 #[.pointer (some ⟨w.heap.size + 1 + 1 + 1 + 1, 0, none⟩), .slice (some ⟨w.heap.size + 1 + 1 + 1 + 1 + 1, 0, none⟩) 6 6] W Q) := fun Q h => K.mono h
  clear K A A0 G HV HZ HZB HWZ TB
  refine HK.out _ ?_
  clear HK
  rintro x w1 ⟨us, fp, rfl, ko, on⟩
  have hus : us.length = 14 := endResultC.len (endResultC.toRep ko)
  have hone := endResultC.one (endResultC.toRep ko)
  replace R : Arr w1 (w.heap.size + 1 + 1) 38 [.int .i64 0, .int .i64 0, .slice none 0 0, .int .i64 0, .slice none 0 0, .int .i64 0, .int .i64 0, .slice none 0 0, .slice none 0 0, .slice none 0 0, .slice none 0 0, .slice none 0 0, .slice none 0 0, .slice none 0 0] := (on.block _ R.lt (fun hm => by have := List.mem_singleton.1 hm; omega)).trans R
  have BW1 : Below w.heap.size w w1 := Below.only HBW.out on (fun k hk => by have := List.mem_singleton.1 hk; omega)
  have hres : Hid ((Tryz.prog.info? 38).map (·.size) = some us.toArray.size) := by show _ = _; rw [List.size_toArray, hus]; kernel_rfl
  have KO : Hid (endResultC.own (w1.setRow (w.heap.size + 1 + 1) us.toArray) w.heap.size (hnE e m) us fp) := endResultC.low (endResultC.row ko (fun k hk => by have := (endResultC.ins ko k hk).1; have := HRL.out; omega) _) (by have := HRL.out; omega)
  have H14 : Hid (us.length = 14) := hus
  clear ko hus on eW
  go_wp2_with (refine wpList_store_row rfl 38 (.tmp 4) (.tmp 25) rfl (w.heap.size + 1 + 1) us.toArray rfl rfl 38 #[.int .i64 0, .int .i64 0, .slice none 0 0, .int .i64 0, .slice none 0 0, .int .i64 0, .int .i64 0, .slice none 0 0, .slice none 0 0, .slice none 0 0, .slice none 0 0, .slice none 0 0, .slice none 0 0, .slice none 0 0] R hres.out (by have h := H14.out; simp [h]) (by simpa using hone) ?_)
  exact bodyPost_ret (v := .agg us.toArray) (results_cell_row Tryz.results22 _ _ (w.heap.size + 1 + 1) 38 _ (0, 0) _ rfl (R.row us) Tryz.underlying38 rfl hres.out) rfl ⟨us, fp, rfl, KO.out, Below.row BW1 (by omega) _⟩
end Go.Proofs.YtiabacnmmojfjabGreatDoor
