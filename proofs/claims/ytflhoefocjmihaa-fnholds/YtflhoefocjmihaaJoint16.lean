/- Whether bytes are a context, in the program. -/
import Derived.Test.YtflhoefocjmihaaAuth
import Derived.Handy
import Derived.Test.YtflhoefocjmihaaJoint15
namespace Go.Proofs.Ytflhoefocjmihaa
open Go.ChangeShapes Go.WideShapes Go.ChangeAt Go.RowKit

theorem isContext_c (p : Option Addr) (q : Nat) (c : List UInt8) (w : World) : Calls Try.prog 44 #[.slice p c.length q] w fun e w' => e = .returned (.bool (ctxB c)) ∧ w' = w := by
  unfold ctxB
  by_cases h1 : (1 : Int) ≤ (c.length : Int)
  · by_cases h2 : (c.length : Int) ≤ 20
    · rw [inB_true h1 h2]
      go_enter Try.func44, Try.ntmps44
      go_wp2
      go_ret
      exact ⟨rfl, rfl⟩
    · rw [inB_false (by omega)]
      go_enter Try.func44, Try.ntmps44
      go_wp2
      go_ret
      exact ⟨rfl, rfl⟩
  · rw [inB_false (by omega)]
    go_enter Try.func44, Try.ntmps44
    go_wp2
    go_ret
    exact ⟨rfl, rfl⟩
end Go.Proofs.Ytflhoefocjmihaa

/- What a role is, and what is asked of an exporter and a role, in the program. -/
namespace Go.Proofs.Ytflhoefocjmihaa
open Go.ChangeShapes Go.WideShapes Go.ChangeAt Go.RowKit

theorem isRole_c (r : Int) (w : World) : Calls Try.prog 43 #[.int .i64 r] w fun e w' => e = .returned (.bool (roleB r)) ∧ w' = w := by
  by_cases h1 : r = 1
  · have d1 : (r == 1) = true := by rw [beq_iff_eq]; exact h1
    rw [show roleB r = true by simp [roleB, h1]]
    clear h1
    go_enter Try.func43, Try.ntmps43
    go_wp2
    go_ret
    exact ⟨rfl, rfl⟩
  · have d1 : (r == 1) = false := by rw [beq_eq_false_iff_ne]; exact h1
    by_cases h2 : r = 2
    · have d2 : (r == 2) = true := by rw [beq_iff_eq]; exact h2
      rw [show roleB r = true by simp [roleB, h2]]
      clear h1 h2
      go_enter Try.func43, Try.ntmps43
      go_wp2
      go_ret
      exact ⟨rfl, rfl⟩
    · have d2 : (r == 2) = false := by rw [beq_eq_false_iff_ne]; exact h2
      rw [show roleB r = false by simp [roleB, h1, h2]]
      clear h1 h2
      go_enter Try.func43, Try.ntmps43
      go_wp2
      go_ret
      exact ⟨rfl, rfl⟩
theorem authKeyFault_c (p : Option Addr) (q : Nat) (x : List UInt8) (r : Int) (w : World) : Calls Try.prog 28 #[.slice p x.length q, .int .i64 r] w fun e w' => e = .returned (.int .i64 (akC x r)) ∧ w' = w := by
  cases h1 : is32 x
  · rw [show akC x r = 1 by simp [akC, h1]]
    go_enter Try.func28, Try.ntmps28
    go_wp2_with fail
    refine (isKeyR_c p q x w).mono ?_
    rintro e w2 ⟨rfl, hw⟩
    subst w2
    rw [h1]
    go_wp2
    go_ret
    exact ⟨rfl, rfl⟩
  · cases h2 : roleB r
    · rw [show akC x r = 3 by simp [akC, h1, h2]]
      go_enter Try.func28, Try.ntmps28
      go_wp2_with fail
      refine (isKeyR_c p q x w).mono ?_
      rintro e w2 ⟨rfl, hw⟩
      subst w2
      rw [h1]
      go_wp2_with fail
      refine (isRole_c r w).mono ?_
      rintro e w2 ⟨rfl, hw⟩
      subst w2
      rw [h2]
      go_wp2
      go_ret
      exact ⟨rfl, rfl⟩
    · rw [show akC x r = 0 by simp [akC, h1, h2]]
      go_enter Try.func28, Try.ntmps28
      go_wp2_with fail
      refine (isKeyR_c p q x w).mono ?_
      rintro e w2 ⟨rfl, hw⟩
      subst w2
      rw [h1]
      go_wp2_with fail
      refine (isRole_c r w).mono ?_
      rintro e w2 ⟨rfl, hw⟩
      subst w2
      rw [h2]
      go_wp2
      go_ret
      exact ⟨rfl, rfl⟩
end Go.Proofs.Ytflhoefocjmihaa

