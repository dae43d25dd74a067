/- EventText of the specification. What was there stays. -/
import Derived.Test.YtgjmhlolbjmibaaDoorEvS
namespace Go.Proofs.YtgjmhlolbjmibaaDoor
open Go.ChangeShapes Go.WideShapes Go.ChangeAt Go.RowKit

theorem not_etOk {e : EventD} (h : ¬ etOk e) : inB e.1 1 3 = false ∨ (inB e.1 1 3 = true ∧ (roleE e.2.2.1 = false ∨ (roleE e.2.2.1 = true ∧ (inB e.2.1 0 3 = false ∨ (inB e.2.1 0 3 = true ∧ (inB e.2.2.2.2.1 1 99 = false ∨ (inB e.2.2.2.2.1 1 99 = true ∧ (inB e.2.2.2.2.2 0 9 = false ∨ (inB e.2.2.2.2.2 0 9 = true ∧ ¬ e.2.2.2.1.length ≤ 20))))))))) := by
  by_cases h1 : inB e.1 1 3 = true
  case neg => exact .inl (by simpa using h1)
  refine .inr ⟨h1, ?_⟩
  by_cases h2 : roleE e.2.2.1 = true
  case neg => exact .inl (by simpa using h2)
  refine .inr ⟨h2, ?_⟩
  by_cases h3 : inB e.2.1 0 3 = true
  case neg => exact .inl (by simpa using h3)
  refine .inr ⟨h3, ?_⟩
  by_cases h4 : inB e.2.2.2.2.1 1 99 = true
  case neg => exact .inl (by simpa using h4)
  refine .inr ⟨h4, ?_⟩
  by_cases h5 : inB e.2.2.2.2.2 0 9 = true
  case neg => exact .inl (by simpa using h5)
  exact .inr ⟨h5, fun h6 => h ⟨h1, h2, h3, h4, h5, h6⟩⟩
theorem l13Role_e (r : Int) (w : World) : Calls Tryd.prog 18 #[.int .i64 r] w fun e w' => e = .returned (.bool (roleE r)) ∧ w' = w := by
  by_cases h1 : r = 1
  · subst h1
    go_enter Tryd.func18, Tryd.ntmps18
    go_wp2
    go_ret
    exact ⟨rfl, rfl⟩
  · by_cases h2 : r = 2
    · subst h2
      go_enter Tryd.func18, Tryd.ntmps18
      go_wp2
      go_ret
      exact ⟨rfl, rfl⟩
    · rw [show roleE r = false by simp [roleE, h1, h2]]
      go_enter Tryd.func18, Tryd.ntmps18
      go_wp2
      go_ret
      exact ⟨by simp [h1, h2], rfl⟩

set_option maxRecDepth 4000 in
set_option maxHeartbeats 4000000 in
theorem specEv_k (e : EventD) (us : List Value) (w : World) (h : eventC.rep w e us) :
    Calls Tryd.prog 6 #[.agg us.toArray] w fun ee w' => ee = .returned (.agg #[.int .i64 (etC e), .string (strB (etX e))]) ∧ Below w.heap.size w w' := by
  obtain ⟨p, q, rfl, hr⟩ := event_rep h
  clear h
  by_cases he : etOk e
  · rw [etC_yes he, etX_yes he]
    obtain ⟨h1, h2, h3, h4, h5, h6⟩ := id he
    have hL : ¬ (20 < (e.2.2.2.1.length : Int)) := by omega
    have K : Hid (∀ W, Arr W w.heap.size 29 [.int .i64 e.1, .int .i64 e.2.1, .int .i64 e.2.2.1, .slice p e.2.2.2.1.length q, .int .i64 e.2.2.2.2.1, .int .i64 e.2.2.2.2.2] → Rd W p q e.2.2.2.1 → Calls Tryd.prog 19 #[.pointer (some ⟨w.heap.size, 0, none⟩)] W fun ee w' => ee = .returned (.string (strB (etT e))) ∧ Below W.heap.size W w') := fun W a b => l16Event_c e _ p q W he a b
    have A := (Arr.new w [.int .i64 e.1, .int .i64 e.2.1, .int .i64 e.2.2.1, .slice p e.2.2.2.1.length q, .int .i64 e.2.2.2.2.1, .int .i64 e.2.2.2.2.2] 29).old _ (Obj.cells #[.int .i64 0, .string ⟨#[]⟩] 27)
    have R := (hr.keep (alloc_below _ (.cells #[.int .i64 e.1, .int .i64 e.2.1, .int .i64 e.2.2.1, .slice p e.2.2.2.1.length q, .int .i64 e.2.2.2.2.1, .int .i64 e.2.2.2.2.2] 29))).keep (alloc_below _ (.cells #[.int .i64 0, .string ⟨#[]⟩] 27))
    clear h6 he hr
    generalize etT e = T at *
    go_enter Tryd.func6, Tryd.ntmps6
    go_wp2_with (first
      | (go_at_call 17; refine (l1In_c _ _ _ _).mono ?_; rintro e w' ⟨rfl, rfl⟩)
      | (go_at_call 18; refine (l13Role_e _ _).mono ?_; rintro e w' ⟨rfl, rfl⟩))
    refine (K.out _ A R).mono ?_
    rintro ee w2 ⟨rfl, hb⟩
    have A2 := ((Arr.new (w.alloc (.cells #[.int .i64 e.1, .int .i64 e.2.1, .int .i64 e.2.2.1, .slice p e.2.2.2.1.length q, .int .i64 e.2.2.2.2.1, .int .i64 e.2.2.2.2.2] 29)) [.int .i64 0, .string ⟨#[]⟩] 27).stay hb)
    rw [size_alloc] at A2
    have BW := Below.step (Below.mk (alloc_below w (.cells #[.int .i64 e.1, .int .i64 e.2.1, .int .i64 e.2.2.1, .slice p e.2.2.2.1.length q, .int .i64 e.2.2.2.2.1, .int .i64 e.2.2.2.2.2] 29)) (Obj.cells #[.int .i64 0, .string ⟨#[]⟩] 27)) hb
    have d0 := A2.cell 0
    have d1 := A2.cell 1
    have e0 := A2.frozen
    have hlt := A2.lt
    simp at d0 d1
    have B2 := (BW.setCell (p := ⟨w.heap.size + 1, 0, none⟩) (Nat.le_succ _) (.int .i64 0)).setCell (p := ⟨w.heap.size + 1, 1, none⟩) (Nat.le_succ _) (.string (strB T))
    clear A A2 K hb BW R
    go_wp2_with fail
    exact bodyPost_ret (v := .agg #[.int .i64 0, .string (strB T)]) (by simp [results, Tryd.results6, go_sem, d0, d1]) rfl ⟨rfl, B2⟩
  · rw [etC_no he, etX_no he]
    rcases not_etOk he with h1 | ⟨h1, h2 | ⟨h2, h3 | ⟨h3, h4 | ⟨h4, h5 | ⟨h5, h6⟩⟩⟩⟩⟩
    case' inr.inr.inr.inr.inr => replace h6 : 20 < (e.2.2.2.1.length : Int) := by omega
    all_goals
      clear he hr
      go_enter Tryd.func6, Tryd.ntmps6
      go_wp2_with (first
        | (go_at_call 17; refine (l1In_c _ _ _ _).mono ?_; rintro e w' ⟨rfl, rfl⟩)
        | (go_at_call 18; refine (l13Role_e _ _).mono ?_; rintro e w' ⟨rfl, rfl⟩))
      exact bodyPost_ret (v := .agg #[.int .i64 3, .string ⟨#[]⟩]) (by simp [results, Tryd.results6, go_sem]) rfl ⟨rfl, Below.mk (alloc_below _ _) _⟩
end Go.Proofs.YtgjmhlolbjmibaaDoor
