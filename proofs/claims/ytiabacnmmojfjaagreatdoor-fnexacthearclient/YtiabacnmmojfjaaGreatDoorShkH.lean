/- HearClient, HearServer, HearFinish of the program, at every argument, where the two tables hold what the program's text lays (Tabs). What was there stays. -/
import Derived.Test.YtiabacnmmojfjaaGreatDoorShkG
namespace Go.Proofs.YtiabacnmmojfjaaGreatDoor
open Go.ChangeShapes Go.WideShapes Go.ChangeAt Go.RowKit
theorem Shk.tabs {W Z w : World} {b : Nat} {t : ShkD} (h : Shk Z b w t) (hb : Below W.heap.size W Z) (hW : W.heap.size ≤ b) (hT : Tabs W) : Tabs w :=
  hT.keep (Below.only hb h.only (fun k hk => by have := List.mem_singleton.1 hk; omega))
set_option maxRecDepth 4000 in
set_option maxHeartbeats 4000000 in
theorem implHc_k (s : SideD) (m : MsgD) (us vs : List Value) (w : World) (r : sideC.rep w s us) (r2 : msgC.rep w m vs) (hT : Tabs w) :
    Calls Tryz.prog 21 #[.agg us.toArray, .agg vs.toArray] w fun x w' => ∃ us fp, x = .returned (.agg us.toArray) ∧ endResultC.own w' w.heap.size (hcE s m) us fp ∧ Below w.heap.size w w' := by
  obtain ⟨p, q, p2, q2, rfl, r1, r3⟩ := side_rep r
  obtain ⟨pm, qm, rfl, rm⟩ := msg_rep r2
  have HV : Hid (endC.rep w (s, 0, 0, [], [], zeroX) [.int .i64 s.1, .slice p s.2.1.length q, .int .i64 s.2.2.1, .slice p2 s.2.2.2.length q2, .int .i64 0, .int .i64 0, .slice none 0 0, .slice none 0 0, .slice none 0 0, .slice none 0 0, .slice none 0 0, .slice none 0 0]) := end_mk (a := (s, 0, 0, [], [], zeroX)) r1 r3 (rdL_nil _) (rd_nil _) (rd_nil _) (rd_nil _) (rd_nil _) (rd_nil _)
  have HRM : Hid (Rd w pm qm m.2) := rm
  have hmf : ∀ (fn : Fn) (first cap : Array Value) (w : World), (Instr.makeFunc fn first cap).run Tryz.prog w = .ok (.func fn first cap) w := fun _ _ _ _ => rfl
  have BW : Below w.heap.size w ((((((w.alloc (.cells #[.int .i64 s.1, .slice p s.2.1.length q, .int .i64 s.2.2.1, .slice p2 s.2.2.2.length q2] 25)).alloc (.cells #[.int .i64 m.1, .slice pm m.2.length qm] 46)).alloc (.cells #[.int .i64 0, .int .i64 0, .slice none 0 0, .int .i64 0, .slice none 0 0, .int .i64 0, .int .i64 0, .slice none 0 0, .slice none 0 0, .slice none 0 0, .slice none 0 0, .slice none 0 0, .slice none 0 0, .slice none 0 0] 43)).alloc (.cells #[.int .i64 m.1, .slice pm m.2.length qm] 46)).alloc (.cells #[.int .i64 s.1, .slice p s.2.1.length q, .int .i64 s.2.2.1, .slice p2 s.2.2.2.length q2, .int .i64 0, .int .i64 0, .slice none 0 0, .slice none 0 0, .slice none 0 0, .slice none 0 0, .slice none 0 0, .slice none 0 0, .slice (some ⟨w.heap.size + 1 + 1 + 1, 0, none⟩) 1 1, .slice none 0 0, .slice none 0 0, .int .i64 0, .int .i64 0, .slice none 0 0] 86)).alloc (.cells #[stepV (w.heap.size + 1 + 1 + 1 + 1) 79, stepV (w.heap.size + 1 + 1 + 1 + 1) 80, stepV (w.heap.size + 1 + 1 + 1 + 1) 55, stepV (w.heap.size + 1 + 1 + 1 + 1) 81, stepV (w.heap.size + 1 + 1 + 1 + 1) 56, stepV (w.heap.size + 1 + 1 + 1 + 1) 57, stepV (w.heap.size + 1 + 1 + 1 + 1) 82] 1)) := Below.mk (Below.mk (Below.mk (Below.mk (Below.mk (alloc_below _ _) _) _) _) _) _
  have R := (((Arr.new ((w.alloc (.cells #[.int .i64 s.1, .slice p s.2.1.length q, .int .i64 s.2.2.1, .slice p2 s.2.2.2.length q2] 25)).alloc (.cells #[.int .i64 m.1, .slice pm m.2.length qm] 46)) [.int .i64 0, .int .i64 0, .slice none 0 0, .int .i64 0, .slice none 0 0, .int .i64 0, .int .i64 0, .slice none 0 0, .slice none 0 0, .slice none 0 0, .slice none 0 0, .slice none 0 0, .slice none 0 0, .slice none 0 0] 43).old _ (.cells #[.int .i64 m.1, .slice pm m.2.length qm] 46)).old _ (.cells #[.int .i64 s.1, .slice p s.2.1.length q, .int .i64 s.2.2.1, .slice p2 s.2.2.2.length q2, .int .i64 0, .int .i64 0, .slice none 0 0, .slice none 0 0, .slice none 0 0, .slice none 0 0, .slice none 0 0, .slice none 0 0, .slice (some ⟨w.heap.size + 1 + 1 + 1, 0, none⟩) 1 1, .slice none 0 0, .slice none 0 0, .int .i64 0, .int .i64 0, .slice none 0 0] 86)).old _ (.cells #[stepV (w.heap.size + 1 + 1 + 1 + 1) 79, stepV (w.heap.size + 1 + 1 + 1 + 1) 80, stepV (w.heap.size + 1 + 1 + 1 + 1) 55, stepV (w.heap.size + 1 + 1 + 1 + 1) 81, stepV (w.heap.size + 1 + 1 + 1 + 1) 56, stepV (w.heap.size + 1 + 1 + 1 + 1) 57, stepV (w.heap.size + 1 + 1 + 1 + 1) 82] 1)
  rw [size_alloc, size_alloc] at R
  have L := ((Arr.new (((w.alloc (.cells #[.int .i64 s.1, .slice p s.2.1.length q, .int .i64 s.2.2.1, .slice p2 s.2.2.2.length q2] 25)).alloc (.cells #[.int .i64 m.1, .slice pm m.2.length qm] 46)).alloc (.cells #[.int .i64 0, .int .i64 0, .slice none 0 0, .int .i64 0, .slice none 0 0, .int .i64 0, .int .i64 0, .slice none 0 0, .slice none 0 0, .slice none 0 0, .slice none 0 0, .slice none 0 0, .slice none 0 0, .slice none 0 0] 43)) [.int .i64 m.1, .slice pm m.2.length qm] 46).old _ (.cells #[.int .i64 s.1, .slice p s.2.1.length q, .int .i64 s.2.2.1, .slice p2 s.2.2.2.length q2, .int .i64 0, .int .i64 0, .slice none 0 0, .slice none 0 0, .slice none 0 0, .slice none 0 0, .slice none 0 0, .slice none 0 0, .slice (some ⟨w.heap.size + 1 + 1 + 1, 0, none⟩) 1 1, .slice none 0 0, .slice none 0 0, .int .i64 0, .int .i64 0, .slice none 0 0] 86)).old _ (.cells #[stepV (w.heap.size + 1 + 1 + 1 + 1) 79, stepV (w.heap.size + 1 + 1 + 1 + 1) 80, stepV (w.heap.size + 1 + 1 + 1 + 1) 55, stepV (w.heap.size + 1 + 1 + 1 + 1) 81, stepV (w.heap.size + 1 + 1 + 1 + 1) 56, stepV (w.heap.size + 1 + 1 + 1 + 1) 57, stepV (w.heap.size + 1 + 1 + 1 + 1) 82] 1)
  rw [size_alloc, size_alloc, size_alloc] at L
  have A := (Arr.new ((((w.alloc (.cells #[.int .i64 s.1, .slice p s.2.1.length q, .int .i64 s.2.2.1, .slice p2 s.2.2.2.length q2] 25)).alloc (.cells #[.int .i64 m.1, .slice pm m.2.length qm] 46)).alloc (.cells #[.int .i64 0, .int .i64 0, .slice none 0 0, .int .i64 0, .slice none 0 0, .int .i64 0, .int .i64 0, .slice none 0 0, .slice none 0 0, .slice none 0 0, .slice none 0 0, .slice none 0 0, .slice none 0 0, .slice none 0 0] 43)).alloc (.cells #[.int .i64 m.1, .slice pm m.2.length qm] 46)) [.int .i64 s.1, .slice p s.2.1.length q, .int .i64 s.2.2.1, .slice p2 s.2.2.2.length q2, .int .i64 0, .int .i64 0, .slice none 0 0, .slice none 0 0, .slice none 0 0, .slice none 0 0, .slice none 0 0, .slice none 0 0, .slice (some ⟨w.heap.size + 1 + 1 + 1, 0, none⟩) 1 1, .slice none 0 0, .slice none 0 0, .int .i64 0, .int .i64 0, .slice none 0 0] 86).old _ (.cells #[stepV (w.heap.size + 1 + 1 + 1 + 1) 79, stepV (w.heap.size + 1 + 1 + 1 + 1) 80, stepV (w.heap.size + 1 + 1 + 1 + 1) 55, stepV (w.heap.size + 1 + 1 + 1 + 1) 81, stepV (w.heap.size + 1 + 1 + 1 + 1) 56, stepV (w.heap.size + 1 + 1 + 1 + 1) 57, stepV (w.heap.size + 1 + 1 + 1 + 1) 82] 1)
  rw [size_alloc, size_alloc, size_alloc, size_alloc] at A
  have G := Arr.new (((((w.alloc (.cells #[.int .i64 s.1, .slice p s.2.1.length q, .int .i64 s.2.2.1, .slice p2 s.2.2.2.length q2] 25)).alloc (.cells #[.int .i64 m.1, .slice pm m.2.length qm] 46)).alloc (.cells #[.int .i64 0, .int .i64 0, .slice none 0 0, .int .i64 0, .slice none 0 0, .int .i64 0, .int .i64 0, .slice none 0 0, .slice none 0 0, .slice none 0 0, .slice none 0 0, .slice none 0 0, .slice none 0 0, .slice none 0 0] 43)).alloc (.cells #[.int .i64 m.1, .slice pm m.2.length qm] 46)).alloc (.cells #[.int .i64 s.1, .slice p s.2.1.length q, .int .i64 s.2.2.1, .slice p2 s.2.2.2.length q2, .int .i64 0, .int .i64 0, .slice none 0 0, .slice none 0 0, .slice none 0 0, .slice none 0 0, .slice none 0 0, .slice none 0 0, .slice (some ⟨w.heap.size + 1 + 1 + 1, 0, none⟩) 1 1, .slice none 0 0, .slice none 0 0, .int .i64 0, .int .i64 0, .slice none 0 0] 86)) [stepV (w.heap.size + 1 + 1 + 1 + 1) 79, stepV (w.heap.size + 1 + 1 + 1 + 1) 80, stepV (w.heap.size + 1 + 1 + 1 + 1) 55, stepV (w.heap.size + 1 + 1 + 1 + 1) 81, stepV (w.heap.size + 1 + 1 + 1 + 1) 56, stepV (w.heap.size + 1 + 1 + 1 + 1) 57, stepV (w.heap.size + 1 + 1 + 1 + 1) 82] 1
  rw [size_alloc, size_alloc, size_alloc, size_alloc, size_alloc] at G
  have HT : Hid (Tabs w) := hT
  clear hT r1 r3 r r2 rm
  go_enter Tryz.func21, Tryz.ntmps21
  go_wp2_with fail
  change Calls Tryz.prog _ _ ((((((w.alloc (.cells #[.int .i64 s.1, .slice p s.2.1.length q, .int .i64 s.2.2.1, .slice p2 s.2.2.2.length q2] 25)).alloc (.cells #[.int .i64 m.1, .slice pm m.2.length qm] 46)).alloc (.cells #[.int .i64 0, .int .i64 0, .slice none 0 0, .int .i64 0, .slice none 0 0, .int .i64 0, .int .i64 0, .slice none 0 0, .slice none 0 0, .slice none 0 0, .slice none 0 0, .slice none 0 0, .slice none 0 0, .slice none 0 0] 43)).alloc (.cells #[.int .i64 m.1, .slice pm m.2.length qm] 46)).alloc (.cells #[.int .i64 s.1, .slice p s.2.1.length q, .int .i64 s.2.2.1, .slice p2 s.2.2.2.length q2, .int .i64 0, .int .i64 0, .slice none 0 0, .slice none 0 0, .slice none 0 0, .slice none 0 0, .slice none 0 0, .slice none 0 0, .slice (some ⟨w.heap.size + 1 + 1 + 1, 0, none⟩) 1 1, .slice none 0 0, .slice none 0 0, .int .i64 0, .int .i64 0, .slice none 0 0] 86)).alloc (.cells #[stepV (w.heap.size + 1 + 1 + 1 + 1) 79, stepV (w.heap.size + 1 + 1 + 1 + 1) 80, stepV (w.heap.size + 1 + 1 + 1 + 1) 55, stepV (w.heap.size + 1 + 1 + 1 + 1) 81, stepV (w.heap.size + 1 + 1 + 1 + 1) 56, stepV (w.heap.size + 1 + 1 + 1 + 1) 57, stepV (w.heap.size + 1 + 1 + 1 + 1) 82] 1)) _
  generalize eW : (((((w.alloc (.cells #[.int .i64 s.1, .slice p s.2.1.length q, .int .i64 s.2.2.1, .slice p2 s.2.2.2.length q2] 25)).alloc (.cells #[.int .i64 m.1, .slice pm m.2.length qm] 46)).alloc (.cells #[.int .i64 0, .int .i64 0, .slice none 0 0, .int .i64 0, .slice none 0 0, .int .i64 0, .int .i64 0, .slice none 0 0, .slice none 0 0, .slice none 0 0, .slice none 0 0, .slice none 0 0, .slice none 0 0, .slice none 0 0] 43)).alloc (.cells #[.int .i64 m.1, .slice pm m.2.length qm] 46)).alloc (.cells #[.int .i64 s.1, .slice p s.2.1.length q, .int .i64 s.2.2.1, .slice p2 s.2.2.2.length q2, .int .i64 0, .int .i64 0, .slice none 0 0, .slice none 0 0, .slice none 0 0, .slice none 0 0, .slice none 0 0, .slice none 0 0, .slice (some ⟨w.heap.size + 1 + 1 + 1, 0, none⟩) 1 1, .slice none 0 0, .slice none 0 0, .int .i64 0, .int .i64 0, .slice none 0 0] 86)).alloc (.cells #[stepV (w.heap.size + 1 + 1 + 1 + 1) 79, stepV (w.heap.size + 1 + 1 + 1 + 1) 80, stepV (w.heap.size + 1 + 1 + 1 + 1) 55, stepV (w.heap.size + 1 + 1 + 1 + 1) 81, stepV (w.heap.size + 1 + 1 + 1 + 1) 56, stepV (w.heap.size + 1 + 1 + 1 + 1) 57, stepV (w.heap.size + 1 + 1 + 1 + 1) 82] 1) = W at *
  have HBW : Hid (Below w.heap.size w W) := BW
  have HRL : Hid (w.heap.size + 1 + 1 < W.heap.size) := R.lt
  obtain ⟨Z, HZ⟩ : ∃ Z, Hid (Z = W.alloc (.cells #[.int .i64 0, .int .i64 0, .slice none 0 0, .int .i64 0, .slice none 0 0, .int .i64 0, .int .i64 0, .slice none 0 0, .slice none 0 0, .slice none 0 0, .slice none 0 0, .slice none 0 0, .slice none 0 0, .slice none 0 0] 43)) := ⟨_, rfl⟩
  have HZB : Hid (Below W.heap.size W Z) := by rw [HZ.out]; exact alloc_below _ _
  have HWZ : Hid (Below w.heap.size w Z) := Below.step HBW.out HZB.out
  have A0 : Arr Z (w.heap.size + 1 + 1 + 1 + 1) 86 [.int .i64 s.1, .slice p s.2.1.length q, .int .i64 s.2.2.1, .slice p2 s.2.2.2.length q2, .int .i64 0, .int .i64 0, .slice none 0 0, .slice none 0 0, .slice none 0 0, .slice none 0 0, .slice none 0 0, .slice none 0 0, .slice (some ⟨w.heap.size + 1 + 1 + 1, 0, none⟩) 1 1, .slice none 0 0, .slice none 0 0, .int .i64 0, .int .i64 0, .slice none 0 0] := A.stay HZB.out
  have TB : ∀ v t, Shk Z (w.heap.size + 1 + 1 + 1 + 1) v t → Tabs v := fun v t h => h.tabs HWZ.out (by omega) HT.out
  have K := through_c (w.heap.size + 1 + 1 + 1 + 1) (w.heap.size + 1 + 1 + 1 + 1 + 1) [79, 80, 55, 81, 56, 57, 82] W (hcE s m)
    (fun i v => (fun i => (1 ≤ i → sfC s = 0) ∧ (2 ≤ i → uhC 1 m = 0)) i ∧ ∃ t, [hcT0 s m, hcT0 s m, hcT1 s m, hcT2 s m, hcT3 s m, hcT4 s m, hcT5 s m, hcT6 s m][i]? = some t ∧ Shk Z (w.heap.size + 1 + 1 + 1 + 1) v t)
    G (by omega) A.lt (by decide) (by intro F hF; simp only [List.mem_cons, List.not_mem_nil, or_false] at hF; rcases hF with rfl | rfl | rfl | rfl | rfl | rfl | rfl <;> exact fun _ _ => by kernel_rfl)
    (by
      rw [← HZ.out]
      have HS : Sees w (blank [w.heap.size + 1 + 1 + 1 + 1] Z) := Sees.below_of rfl HWZ.out _ (fun k hk => by have := List.mem_singleton.1 hk; omega)
      have LB : Arr (blank [w.heap.size + 1 + 1 + 1 + 1] Z) (w.heap.size + 1 + 1 + 1) 46 [.int .i64 m.1, .slice pm m.2.length qm] := (blank_out (by simp)).trans (L.stay HZB.out)
      refine ⟨?_, _, rfl, shk_new Z Z (w.heap.size + 1 + 1 + 1 + 1) _ _ [.int .i64 s.1, .slice p s.2.1.length q, .int .i64 s.2.2.1, .slice p2 s.2.2.2.length q2, .int .i64 0, .int .i64 0, .slice none 0 0, .slice none 0 0, .slice none 0 0, .slice none 0 0, .slice none 0 0, .slice none 0 0] (.slice (some ⟨w.heap.size + 1 + 1 + 1, 0, none⟩) 1 1) A0 (Only.refl _ _) A0.lt (endC_mono HS HV.out) ⟨_, _, rfl, (rdL_oneM (LB : Arr (blank [w.heap.size + 1 + 1 + 1 + 1] Z) (w.heap.size + 1 + 1 + 1) 46 [.int .i64 m.1, .slice pm m.2.length qm]) (HRM.out.sees HS))⟩⟩
      simp)
    (by
      intro i v hp
      rw [← HZ.out]
      obtain ⟨-, t, -, h⟩ := hp
      exact h.only)
    (by
      intro i F hF v hp
      rw [← HZ.out]
      obtain ⟨hfact, t, ht, hsh⟩ := hp
      match i, hF with
      | 0, hF =>
        cases hF
        cases ht
        simp at hfact
        refine (askSide_c Z _ v _ hsh).mono ?_
        rintro x v' (⟨h1, h2, h3⟩ | ⟨c, h1, h2, h3, h4⟩)
        · exact .inl ⟨h1, by have h5 : sfC s = 0 := h2; simpa using h5, _, rfl, h3⟩
        · refine .inr ⟨c, h1, h2, ?_⟩
          have h5 : hcC s m = c := by rw [hcC, if_neg (by rw [show sfC s = c from h3]; exact h4)]; exact h3
          rw [hcE_bad (by rw [h5]; exact h4), h5]
      | 1, hF =>
        cases hF
        cases ht
        simp at hfact
        refine (hearClientHello_c Z _ v _ m [] hsh rfl (by show ([] : List MsgD).length ≤ 1000; decide)).mono ?_
        rintro x v' (⟨h1, h2, h3⟩ | ⟨c, h1, h2, h3, h4⟩)
        · exact .inl ⟨h1, by simpa using ⟨hfact, h2⟩, _, rfl, h3⟩
        · refine .inr ⟨c, h1, h2, ?_⟩
          have h5 : hcC s m = c := by rw [hcC, if_pos hfact]; exact h3
          rw [hcE_bad (by rw [h5]; exact h4), h5]
      | 2, hF =>
        cases hF
        cases ht
        simp at hfact
        refine (takeMode_c Z _ v _ hsh).mono ?_
        rintro x v' ⟨h1, h2⟩
        exact .inl ⟨h1, by simpa using hfact, _, rfl, h2⟩
      | 3, hF =>
        cases hF
        cases ht
        simp at hfact
        refine (sayServerHello_c Z _ v _ hsh hfact.1 (by show [m].length ≤ 1000; simp) (by show ([] : List MsgD).length ≤ 1000; decide)).mono ?_
        rintro x v' ⟨h1, h2⟩
        exact .inl ⟨h1, by simpa using hfact, _, rfl, h2⟩
      | 4, hF =>
        cases hF
        cases ht
        simp at hfact
        refine (reckon_c Z _ v _ hsh hfact.1 (hello_share hfact.2).1 (hello_share hfact.2).2 (TB _ _ hsh)).mono ?_
        rintro x v' ⟨h1, h2⟩
        exact .inl ⟨h1, by simpa using hfact, _, rfl, h2⟩
      | 5, hF =>
        cases hF
        cases ht
        simp at hfact
        refine (takeBase_c Z _ v _ hsh (secN_len _ _ _) (TB _ _ hsh)).mono ?_
        rintro x v' ⟨h1, h2⟩
        exact .inl ⟨h1, by simpa using hfact, _, rfl, h2⟩
      | 6, hF =>
        cases hF
        cases ht
        simp at hfact
        have hl2 : (hcT5 s m).e.2.2.2.1.length = 2 := by rw [hc_msgs]; rfl
        refine (sayServerFinished_c Z _ v _ hsh (secN_len _ _ _) (by rw [hl2]; decide) (by rw [hl2]; decide) (by show [_].length ≤ 1000; simp) (by rw [List.take_of_length_le (by rw [hl2]; decide)]; exact hc_ps hfact.1 hfact.2) (hc_ps hfact.1 hfact.2) (TB _ _ hsh)).mono ?_
        rintro x v' ⟨h1, h2⟩
        exact .inl ⟨h1, by simpa using hfact, _, rfl, h2⟩
      | i + 7, hF => simp at hF)
    (by
      intro v hp
      rw [← HZ.out]
      obtain ⟨hfact, t, ht, hsh⟩ := hp
      cases ht
      simp at hfact
      have hc : hcC s m = 0 := by rw [hcC, if_pos hfact.1]; exact hfact.2
      have he := hcE_end hc
      rw [hc_end hc] at he
      exact ⟨_, hsh, Nat.le_trans (end_small he) (by decide), hc_end hc⟩
    )
  have HK : Hid (∀ Q : Ending → World → Prop, (∀ x w', (∃ us fp, x = .returned (.agg us.toArray) ∧ endResultC.own w' W.heap.size (hcE s m) us fp ∧ Only [w.heap.size + 1 + 1 + 1 + 1] W w') → Q x w') → Calls Tryz.prog 50 #[.pointer (some ⟨w.heap.size + 1 + 1 + 1 + 1, 0, none⟩), .slice (some ⟨w.heap.size + 1 + 1 + 1 + 1 + 1, 0, none⟩) 7 7] W Q) := fun Q h => K.mono h
  clear K A A0 G HV HZ HZB HWZ TB
  refine HK.out _ ?_
  clear HK
  rintro x w1 ⟨us, fp, rfl, ko, on⟩
  have hus : us.length = 14 := endResultC.len (endResultC.toRep ko)
  have hone := endResultC.one (endResultC.toRep ko)
  replace R : Arr w1 (w.heap.size + 1 + 1) 43 [.int .i64 0, .int .i64 0, .slice none 0 0, .int .i64 0, .slice none 0 0, .int .i64 0, .int .i64 0, .slice none 0 0, .slice none 0 0, .slice none 0 0, .slice none 0 0, .slice none 0 0, .slice none 0 0, .slice none 0 0] := (on.block _ R.lt (fun hm => by have := List.mem_singleton.1 hm; omega)).trans R
  have BW1 : Below w.heap.size w w1 := Below.only HBW.out on (fun k hk => by have := List.mem_singleton.1 hk; omega)
  have hres : Hid ((Tryz.prog.info? 43).map (·.size) = some us.toArray.size) := by show _ = _; rw [List.size_toArray, hus]; kernel_rfl
  have KO : Hid (endResultC.own (w1.setRow (w.heap.size + 1 + 1) us.toArray) w.heap.size (hcE s m) us fp) := endResultC.low (endResultC.row ko (fun k hk => by have := (endResultC.ins ko k hk).1; have := HRL.out; omega) _) (by have := HRL.out; omega)
  have H14 : Hid (us.length = 14) := hus
  clear ko hus on eW
  go_wp2_with (refine wpList_store_row rfl 43 (.tmp 4) (.tmp 28) rfl (w.heap.size + 1 + 1) us.toArray rfl rfl 43 #[.int .i64 0, .int .i64 0, .slice none 0 0, .int .i64 0, .slice none 0 0, .int .i64 0, .int .i64 0, .slice none 0 0, .slice none 0 0, .slice none 0 0, .slice none 0 0, .slice none 0 0, .slice none 0 0, .slice none 0 0] R hres.out (by have h := H14.out; simp [h]) (by simpa using hone) ?_)
  exact bodyPost_ret (v := .agg us.toArray) (results_cell_row Tryz.results21 _ _ (w.heap.size + 1 + 1) 43 _ (0, 0) _ rfl (R.row us) Tryz.underlying43 rfl hres.out) rfl ⟨us, fp, rfl, KO.out, Below.row BW1 (by omega) _⟩
end Go.Proofs.YtiabacnmmojfjaaGreatDoor
