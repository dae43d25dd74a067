/- The contracts of AddWords and of what it calls, in the specification and in the program: both answer the same, at every argument. -/
import Derived.Test.YtgdbbadmfddfbaaRows
import Derived.Test.YtgdbbadmfddfbaaWords
import Derived.ProofKit
import Derived.OpenShut
namespace Go.Proofs.Ytgdbbadmfddfbaa
open Go.ChangeShapes Go.WideShapes Go.ChangeAt Go.RowKit

def addCode (a b : Int) : Int := if inB a 0 4294967295 && inB b 0 4294967295 then 0 else 3
def addVal (a b : Int) : Int := if inB a 0 4294967295 && inB b 0 4294967295 then (a + b) % 4294967296 else 0

theorem addCode_ok {a b : Int} (ha : inB a 0 4294967295 = true) (hb : inB b 0 4294967295 = true) : addCode a b = 0 := by simp [addCode, ha, hb]
theorem addVal_ok {a b : Int} (ha : inB a 0 4294967295 = true) (hb : inB b 0 4294967295 = true) : addVal a b = (a + b) % 4294967296 := by simp [addVal, ha, hb]
theorem addCode_no {a b : Int} (h : inB a 0 4294967295 = false ∨ inB b 0 4294967295 = false) : addCode a b = 3 := by rcases h with h | h <;> simp [addCode, h]
theorem addVal_no {a b : Int} (h : inB a 0 4294967295 = false ∨ inB b 0 4294967295 = false) : addVal a b = 0 := by rcases h with h | h <;> simp [addVal, h]

set_option maxHeartbeats 400000 in
theorem specAdd_c (a b : Int) (w : World) :
    Calls Try.prog 13 #[.int .i64 a, .int .i64 b] w fun e w' => e = .returned (.agg #[.int .i64 (addCode a b), .int .i64 (addVal a b)]) ∧ Below w.heap.size w w' := by
  cases ha : inB a 0 4294967295
  · rw [addCode_no (.inl ha), addVal_no (.inl ha)]
    go_enter Try.func13, Try.ntmps13
    go_wp2_with (go_at_call 28; refine (l1Word_c _ _).mono ?_; rintro e w' ⟨rfl, rfl⟩)
    exact bodyPost_ret (v := .agg #[.int .i64 3, .int .i64 0]) (by simp [results, Try.results13, go_sem]) rfl ⟨rfl, (Below.refl _ _).alloc (Nat.le_refl _) _⟩
  · cases hb : inB b 0 4294967295
    · rw [addCode_no (.inr hb), addVal_no (.inr hb)]
      go_enter Try.func13, Try.ntmps13
      go_wp2_with (go_at_call 28; refine (l1Word_c _ _).mono ?_; rintro e w' ⟨rfl, rfl⟩)
      exact bodyPost_ret (v := .agg #[.int .i64 3, .int .i64 0]) (by simp [results, Try.results13, go_sem]) rfl ⟨rfl, (Below.refl _ _).alloc (Nat.le_refl _) _⟩
    · have h := of_decide_eq_true ha
      have h' := of_decide_eq_true hb
      rw [addCode_ok ha hb, addVal_ok ha hb]
      go_enter Try.func13, Try.ntmps13
      go_wp2_with (go_at_call 28; refine (l1Word_c _ _).mono ?_; rintro e w' ⟨rfl, rfl⟩)
      exact bodyPost_ret (v := .agg #[.int .i64 0, .int .i64 ((a + b) % 4294967296)]) (by simp [results, Try.results13, go_sem]) rfl ⟨rfl, (Below.refl _ _).alloc (Nat.le_refl _) _⟩

set_option maxHeartbeats 400000 in
theorem implAdd_c (a b : Int) (w : World) :
    Calls Try.prog 12 #[.int .i64 a, .int .i64 b] w fun e w' => e = .returned (.agg #[.int .i64 (addCode a b), .int .i64 (addVal a b)]) ∧ Below w.heap.size w w' := by
  cases ha : inB a 0 4294967295
  · rw [addCode_no (.inl ha), addVal_no (.inl ha)]
    go_enter Try.func12, Try.ntmps12
    go_wp2_with (go_at_call 26; refine (isWord_c _ _).mono ?_; rintro e w' ⟨rfl, rfl⟩)
    exact bodyPost_ret (v := .agg #[.int .i64 3, .int .i64 0]) (by simp [results, Try.results12, go_sem]) rfl ⟨rfl, (Below.refl _ _).alloc (Nat.le_refl _) _⟩
  · cases hb : inB b 0 4294967295
    · rw [addCode_no (.inr hb), addVal_no (.inr hb)]
      go_enter Try.func12, Try.ntmps12
      go_wp2_with (go_at_call 26; refine (isWord_c _ _).mono ?_; rintro e w' ⟨rfl, rfl⟩)
      exact bodyPost_ret (v := .agg #[.int .i64 3, .int .i64 0]) (by simp [results, Try.results12, go_sem]) rfl ⟨rfl, (Below.refl _ _).alloc (Nat.le_refl _) _⟩
    · have h := of_decide_eq_true ha
      have h' := of_decide_eq_true hb
      rw [addCode_ok ha hb, addVal_ok ha hb]
      go_enter Try.func12, Try.ntmps12
      go_wp2_with (go_at_call 26; refine (isWord_c _ _).mono ?_; rintro e w' ⟨rfl, rfl⟩)
      exact bodyPost_ret (v := .agg #[.int .i64 0, .int .i64 ((a + b) % 4294967296)]) (by simp [results, Try.results12, go_sem]) rfl ⟨rfl, (Below.refl _ _).alloc (Nat.le_refl _) _⟩

theorem addVal_comm (a b : Int) : addVal a b = addVal b a := by unfold addVal; rw [Bool.and_comm, Int.add_comm]
end Go.Proofs.Ytgdbbadmfddfbaa
