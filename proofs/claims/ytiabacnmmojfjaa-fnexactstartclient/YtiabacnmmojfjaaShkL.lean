/- StartClient of the program, at every argument. What was there stays. -/
import Derived.Test.YtiabacnmmojfjaaShkK
namespace Go.Proofs.Ytiabacnmmojfjaa
open Go.ChangeShapes Go.WideShapes Go.ChangeAt Go.RowKit

set_option maxRecDepth 4000 in
set_option maxHeartbeats 2000000 in
theorem implSt_k (s : SideD) (us : List Value) (w : World) (r : sideC.rep w s us) :
    Calls Try.prog 17 #[.agg us.toArray] w fun e w' => ∃ us fp, e = .returned (.agg us.toArray) ∧ endResultC.own w' w.heap.size (stE s) us fp ∧ Below w.heap.size w w' := by
  obtain ⟨p, q, p2, q2, rfl, r1, r2⟩ := side_rep r
  clear r
  have hmf : ∀ (fn : Fn) (first cap : Array Value) (w : World), (Instr.makeFunc fn first cap).run Try.prog w = .ok (.func fn first cap) w := fun _ _ _ _ => rfl
  have BW : Below w.heap.size w ((((w.alloc (.cells #[.int .i64 s.1, .slice p s.2.1.length q, .int .i64 s.2.2.1, .slice p2 s.2.2.2.length q2] 27)).alloc (.cells #[.int .i64 0, .int .i64 0, .slice none 0 0, .int .i64 0, .slice none 0 0, .int .i64 0, .int .i64 0, .slice none 0 0, .slice none 0 0, .slice none 0 0, .slice none 0 0, .slice none 0 0, .slice none 0 0, .slice none 0 0] 46)).alloc (.cells #[.int .i64 s.1, .slice p s.2.1.length q, .int .i64 s.2.2.1, .slice p2 s.2.2.2.length q2, .int .i64 0, .int .i64 0, .slice none 0 0, .slice none 0 0, .slice none 0 0, .slice none 0 0, .slice none 0 0, .slice none 0 0, .slice none 0 0, .slice none 0 0, .slice none 0 0, .int .i64 0, .int .i64 0, .slice none 0 0] 81)).alloc (.cells #[stepV (w.heap.size + 1 + 1) 45, stepV (w.heap.size + 1 + 1) 46] 1)) := Below.mk (Below.mk (Below.mk (alloc_below _ _) _) _) _
  have R := ((Arr.new (w.alloc (.cells #[.int .i64 s.1, .slice p s.2.1.length q, .int .i64 s.2.2.1, .slice p2 s.2.2.2.length q2] 27)) [.int .i64 0, .int .i64 0, .slice none 0 0, .int .i64 0, .slice none 0 0, .int .i64 0, .int .i64 0, .slice none 0 0, .slice none 0 0, .slice none 0 0, .slice none 0 0, .slice none 0 0, .slice none 0 0, .slice none 0 0] 46).old _ (.cells #[.int .i64 s.1, .slice p s.2.1.length q, .int .i64 s.2.2.1, .slice p2 s.2.2.2.length q2, .int .i64 0, .int .i64 0, .slice none 0 0, .slice none 0 0, .slice none 0 0, .slice none 0 0, .slice none 0 0, .slice none 0 0, .slice none 0 0, .slice none 0 0, .slice none 0 0, .int .i64 0, .int .i64 0, .slice none 0 0] 81)).old _ (.cells #[stepV (w.heap.size + 1 + 1) 45, stepV (w.heap.size + 1 + 1) 46] 1)
  have A := (Arr.new ((w.alloc (.cells #[.int .i64 s.1, .slice p s.2.1.length q, .int .i64 s.2.2.1, .slice p2 s.2.2.2.length q2] 27)).alloc (.cells #[.int .i64 0, .int .i64 0, .slice none 0 0, .int .i64 0, .slice none 0 0, .int .i64 0, .int .i64 0, .slice none 0 0, .slice none 0 0, .slice none 0 0, .slice none 0 0, .slice none 0 0, .slice none 0 0, .slice none 0 0] 46)) [.int .i64 s.1, .slice p s.2.1.length q, .int .i64 s.2.2.1, .slice p2 s.2.2.2.length q2, .int .i64 0, .int .i64 0, .slice none 0 0, .slice none 0 0, .slice none 0 0, .slice none 0 0, .slice none 0 0, .slice none 0 0, .slice none 0 0, .slice none 0 0, .slice none 0 0, .int .i64 0, .int .i64 0, .slice none 0 0] 81).old _ (.cells #[stepV (w.heap.size + 1 + 1) 45, stepV (w.heap.size + 1 + 1) 46] 1)
  have G := Arr.new (((w.alloc (.cells #[.int .i64 s.1, .slice p s.2.1.length q, .int .i64 s.2.2.1, .slice p2 s.2.2.2.length q2] 27)).alloc (.cells #[.int .i64 0, .int .i64 0, .slice none 0 0, .int .i64 0, .slice none 0 0, .int .i64 0, .int .i64 0, .slice none 0 0, .slice none 0 0, .slice none 0 0, .slice none 0 0, .slice none 0 0, .slice none 0 0, .slice none 0 0] 46)).alloc (.cells #[.int .i64 s.1, .slice p s.2.1.length q, .int .i64 s.2.2.1, .slice p2 s.2.2.2.length q2, .int .i64 0, .int .i64 0, .slice none 0 0, .slice none 0 0, .slice none 0 0, .slice none 0 0, .slice none 0 0, .slice none 0 0, .slice none 0 0, .slice none 0 0, .slice none 0 0, .int .i64 0, .int .i64 0, .slice none 0 0] 81)) [stepV (w.heap.size + 1 + 1) 45, stepV (w.heap.size + 1 + 1) 46] 1
  rw [size_alloc] at R
  rw [size_alloc, size_alloc] at A
  rw [size_alloc, size_alloc, size_alloc] at G
  have HV : Hid (endC.rep w (s, 0, 0, [], [], zeroX) [.int .i64 s.1, .slice p s.2.1.length q, .int .i64 s.2.2.1, .slice p2 s.2.2.2.length q2, .int .i64 0, .int .i64 0, .slice none 0 0, .slice none 0 0, .slice none 0 0, .slice none 0 0, .slice none 0 0, .slice none 0 0]) := end_mk (a := (s, 0, 0, [], [], zeroX)) r1 r2 (rdL_nil _) (rd_nil _) (rd_nil _) (rd_nil _) (rd_nil _) (rd_nil _)
  clear r1 r2
  go_enter Try.func17, Try.ntmps17
  go_wp2_with fail
  change Calls Try.prog _ _ ((((w.alloc (.cells #[.int .i64 s.1, .slice p s.2.1.length q, .int .i64 s.2.2.1, .slice p2 s.2.2.2.length q2] 27)).alloc (.cells #[.int .i64 0, .int .i64 0, .slice none 0 0, .int .i64 0, .slice none 0 0, .int .i64 0, .int .i64 0, .slice none 0 0, .slice none 0 0, .slice none 0 0, .slice none 0 0, .slice none 0 0, .slice none 0 0, .slice none 0 0] 46)).alloc (.cells #[.int .i64 s.1, .slice p s.2.1.length q, .int .i64 s.2.2.1, .slice p2 s.2.2.2.length q2, .int .i64 0, .int .i64 0, .slice none 0 0, .slice none 0 0, .slice none 0 0, .slice none 0 0, .slice none 0 0, .slice none 0 0, .slice none 0 0, .slice none 0 0, .slice none 0 0, .int .i64 0, .int .i64 0, .slice none 0 0] 81)).alloc (.cells #[stepV (w.heap.size + 1 + 1) 45, stepV (w.heap.size + 1 + 1) 46] 1)) _
  generalize eW : (((w.alloc (.cells #[.int .i64 s.1, .slice p s.2.1.length q, .int .i64 s.2.2.1, .slice p2 s.2.2.2.length q2] 27)).alloc (.cells #[.int .i64 0, .int .i64 0, .slice none 0 0, .int .i64 0, .slice none 0 0, .int .i64 0, .int .i64 0, .slice none 0 0, .slice none 0 0, .slice none 0 0, .slice none 0 0, .slice none 0 0, .slice none 0 0, .slice none 0 0] 46)).alloc (.cells #[.int .i64 s.1, .slice p s.2.1.length q, .int .i64 s.2.2.1, .slice p2 s.2.2.2.length q2, .int .i64 0, .int .i64 0, .slice none 0 0, .slice none 0 0, .slice none 0 0, .slice none 0 0, .slice none 0 0, .slice none 0 0, .slice none 0 0, .slice none 0 0, .slice none 0 0, .int .i64 0, .int .i64 0, .slice none 0 0] 81)).alloc (.cells #[stepV (w.heap.size + 1 + 1) 45, stepV (w.heap.size + 1 + 1) 46] 1) = W at *
  have HBW : Hid (Below w.heap.size w W) := BW
  have HRL : Hid (w.heap.size + 1 < W.heap.size) := R.lt
  obtain ⟨Z, HZ⟩ : ∃ Z, Hid (Z = W.alloc (.cells #[.int .i64 0, .int .i64 0, .slice none 0 0, .int .i64 0, .slice none 0 0, .int .i64 0, .int .i64 0, .slice none 0 0, .slice none 0 0, .slice none 0 0, .slice none 0 0, .slice none 0 0, .slice none 0 0, .slice none 0 0] 46)) := ⟨_, rfl⟩
  have HZB : Hid (Below W.heap.size W Z) := by rw [HZ.out]; exact alloc_below _ _
  have A0 : Arr Z (w.heap.size + 1 + 1) 81 [.int .i64 s.1, .slice p s.2.1.length q, .int .i64 s.2.2.1, .slice p2 s.2.2.2.length q2, .int .i64 0, .int .i64 0, .slice none 0 0, .slice none 0 0, .slice none 0 0, .slice none 0 0, .slice none 0 0, .slice none 0 0, .slice none 0 0, .slice none 0 0, .slice none 0 0, .int .i64 0, .int .i64 0, .slice none 0 0] := A.stay HZB.out
  have K := through_c (w.heap.size + 1 + 1) (w.heap.size + 1 + 1 + 1) [45, 46] W (stE s)
    (fun i v => if i = 0 then Shk Z (w.heap.size + 1 + 1) v ⟨(s, 0, 0, [], [], zeroX), [], [], ([], 0, 0), []⟩ else if i = 1 then sfC s = 0 ∧ Shk Z (w.heap.size + 1 + 1) v ⟨(s, 0, 0, [], [], zeroX), [], [], ([], 0, 0), []⟩ else sfC s = 0 ∧ Shk Z (w.heap.size + 1 + 1) v ⟨(s, 1, 0, [helM s 1 s.2.2.1], [], zeroX), [], [helM s 1 s.2.2.1], ([], 0, 0), []⟩)
    G (by omega) A.lt (by decide) (by intro F hF; simp only [List.mem_cons, List.not_mem_nil, or_false] at hF; rcases hF with rfl | rfl <;> exact fun _ _ => by kernel_rfl)
    (by
      rw [← HZ.out, if_pos rfl]
      have HS : Sees w (blank [w.heap.size + 1 + 1] Z) := Sees.below_of rfl (Below.step HBW.out HZB.out) _ (fun k hk => by have := List.mem_singleton.1 hk; omega)
      exact shk_new Z Z (w.heap.size + 1 + 1) [] _ [.int .i64 s.1, .slice p s.2.1.length q, .int .i64 s.2.2.1, .slice p2 s.2.2.2.length q2, .int .i64 0, .int .i64 0, .slice none 0 0, .slice none 0 0, .slice none 0 0, .slice none 0 0, .slice none 0 0, .slice none 0 0] (.slice none 0 0) A0 (Only.refl _ _) A0.lt (endC_mono HS HV.out) ⟨none, 0, rfl, rdL_nil _⟩)
    (by
      intro i v hp
      rw [← HZ.out]
      by_cases h0 : i = 0
      · rw [if_pos h0] at hp; exact hp.only
      · rw [if_neg h0] at hp
        by_cases h1 : i = 1
        · rw [if_pos h1] at hp; exact hp.2.only
        · rw [if_neg h1] at hp; exact hp.2.only)
    (by
      intro i F hF v hp
      rw [← HZ.out]
      match i, hF with
      | 0, hF =>
        cases hF
        rw [if_pos rfl] at hp
        refine (askSide_c Z _ v _ hp).mono ?_
        rintro x v' (⟨h1, h2, h3⟩ | ⟨c, h1, h2, h3, h4⟩)
        · exact .inl ⟨h1, by rw [if_neg (by decide), if_pos rfl]; exact ⟨h2, h3⟩⟩
        · exact .inr ⟨c, h1, h2, by rw [← h3]; exact stE_bad (by rw [h3]; exact h4)⟩
      | 1, hF =>
        cases hF
        rw [if_neg (by decide), if_pos rfl] at hp
        refine (sayClientHello_c Z _ v _ hp.2 hp.1 (by simp) (by simp)).mono ?_
        rintro x v' ⟨h1, h2⟩
        exact .inl ⟨h1, by rw [if_neg (by decide), if_neg (by decide)]; exact ⟨hp.1, h2⟩⟩
      | i + 2, hF => simp at hF)
    (by
      intro v hp
      rw [← HZ.out]
      change (if (2 : Nat) = 0 then _ else _) at hp
      rw [if_neg (by decide), if_neg (by decide)] at hp
      have px := sf_parts hp.1
      have hf := helM_fault (kind := 1) hp.1 px.2.2.1 px.2.2.2.1 (.inl rfl)
      have he : efC (s, 1, 0, [helM s 1 s.2.2.1], [], zeroX) = 0 := ef_ok hp.1 (by decide) (by decide) (by simp) (firstF_ok fun a ha => by rw [List.mem_singleton.1 ha]; exact hf) (.inl rfl) se_zero
      exact ⟨_, hp.2, Nat.le_trans (end_small he) (by decide), stE_ok hp.1⟩)
  have HK : Hid (∀ Q : Ending → World → Prop, (∀ x w', (∃ us fp, x = .returned (.agg us.toArray) ∧ endResultC.own w' W.heap.size (stE s) us fp ∧ Only [w.heap.size + 1 + 1] W w') → Q x w') → Calls Try.prog 44 #[.pointer (some ⟨w.heap.size + 1 + 1, 0, none⟩), .slice (some ⟨w.heap.size + 1 + 1 + 1, 0, none⟩) 2 2] W Q) := fun Q h => K.mono h
  clear K A A0 G HV HZ HZB
  refine HK.out _ ?_
  clear HK
  rintro x w1 ⟨us, fp, rfl, ko, on⟩
  have hus : us.length = 14 := endResultC.len (endResultC.toRep ko)
  have hone := endResultC.one (endResultC.toRep ko)
  replace R : Arr w1 (w.heap.size + 1) 46 [.int .i64 0, .int .i64 0, .slice none 0 0, .int .i64 0, .slice none 0 0, .int .i64 0, .int .i64 0, .slice none 0 0, .slice none 0 0, .slice none 0 0, .slice none 0 0, .slice none 0 0, .slice none 0 0, .slice none 0 0] := (on.block _ R.lt (fun hm => by have := List.mem_singleton.1 hm; omega)).trans R
  have BW1 : Below w.heap.size w w1 := Below.only HBW.out on (fun k hk => by have := List.mem_singleton.1 hk; omega)
  have hres : Hid ((Try.prog.info? 46).map (·.size) = some us.toArray.size) := by show _ = _; rw [List.size_toArray, hus]; kernel_rfl
  have KO : Hid (endResultC.own (w1.setRow (w.heap.size + 1) us.toArray) w.heap.size (stE s) us fp) := endResultC.low (endResultC.row ko (fun k hk => by have := (endResultC.ins ko k hk).1; have := HRL.out; omega) _) (by have := HRL.out; omega)
  have H14 : Hid (us.length = 14) := hus
  clear ko hus on eW
  go_wp2_with (refine wpList_store_row rfl 46 (.tmp 2) (.tmp 14) rfl (w.heap.size + 1) us.toArray rfl rfl 46 #[.int .i64 0, .int .i64 0, .slice none 0 0, .int .i64 0, .slice none 0 0, .int .i64 0, .int .i64 0, .slice none 0 0, .slice none 0 0, .slice none 0 0, .slice none 0 0, .slice none 0 0, .slice none 0 0, .slice none 0 0] R hres.out (by have h := H14.out; simp [h]) (by simpa using hone) ?_)
  exact bodyPost_ret (v := .agg us.toArray) (results_cell_row Try.results17 _ _ (w.heap.size + 1) 46 _ (0, 0) _ rfl (R.row us) Try.underlying46 rfl hres.out) rfl ⟨us, fp, rfl, KO.out, Below.row BW1 (by omega) _⟩
end Go.Proofs.Ytiabacnmmojfjaa

