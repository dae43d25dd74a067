/- The contracts of chapter 7's functions in the specification, at every argument: code and bytes. What was there stays. -/
import Derived.Test.YthfjnmkplifcmaaSch
import Derived.Test.YthfjnmkplifcmaaCod
import Derived.Test.YthfjnmkplifcmaaPick
import Derived.Test.YthfjnmkplifcmaaAuth
namespace Go.Proofs.Ythfjnmkplifcmaa
open Go.ChangeShapes Go.WideShapes Go.ChangeAt Go.RowKit

theorem rd_nil (w : World) : Rd w none 0 [] := ⟨Nat.le_refl _, by unfold maxLen; decide, fun _ => rfl, fun hp => by simp at hp⟩
set_option maxRecDepth 4000 in
theorem l7Secret_c (p : Option Addr) (q : Nat) (s : List UInt8) (w : World) : Calls Try.prog 81 #[.slice p s.length q] w fun e w' => e = .returned (.bool (is32 s)) ∧ w' = w := by
  by_cases h : s.length = 32
  · have d1 : ((s.length : Int) == 32) = true := by rw [beq_iff_eq]; omega
    rw [show is32 s = true by simp [is32, h]]
    clear h
    go_enter Try.func81, Try.ntmps81
    go_wp2
    go_ret
    exact ⟨rfl, rfl⟩
  · have d1 : ((s.length : Int) == 32) = false := by rw [beq_eq_false_iff_ne]; omega
    rw [show is32 s = false by simp [is32, h]]
    clear h
    go_enter Try.func81, Try.ntmps81
    go_wp2
    go_ret
    exact ⟨rfl, rfl⟩







end Go.Proofs.Ythfjnmkplifcmaa

/- Chapter 13 of the specification: what is asked (l13Role, l13Asked, l13Context) and the key (l13Key), AuthKey. No condition but lengths within the model's. -/
namespace Go.Proofs.Ythfjnmkplifcmaa
open Go.RowKit

theorem l13Role_c (r : Int) (w : World) : Calls Try.prog 82 #[.int .i64 r] w fun e w' => e = .returned (.bool (roleB r)) ∧ w' = w := by
  by_cases h1 : r = 1
  · subst h1
    go_enter Try.func82, Try.ntmps82
    go_wp2
    go_ret
    exact ⟨rfl, rfl⟩
  · by_cases h2 : r = 2
    · subst h2
      go_enter Try.func82, Try.ntmps82
      go_wp2
      go_ret
      exact ⟨rfl, rfl⟩
    · have d1 : (r == 1) = false := by simpa using h1
      have d2 : (r == 2) = false := by simpa using h2
      rw [show roleB r = false by simp [roleB, h1, h2]]
      go_enter Try.func82, Try.ntmps82
      go_wp2
      go_ret
      exact ⟨rfl, rfl⟩
theorem l13Asked_c (p : Option Addr) (q : Nat) (x : List UInt8) (r : Int) (w : World) : Calls Try.prog 57 #[.slice p x.length q, .int .i64 r] w fun e w' => e = .returned (.int .i64 (akC x r)) ∧ w' = w := by
  unfold akC
  cases h1 : is32 x
  · go_enter Try.func57, Try.ntmps57
    go_wp2_with fail
    refine (l7Secret_c p q x _).mono ?_
    rintro e w1 ⟨rfl, rfl⟩
    rw [h1]
    go_wp2
    go_ret
    exact ⟨rfl, rfl⟩
  · cases h2 : roleB r
    · go_enter Try.func57, Try.ntmps57
      go_wp2_with fail
      refine (l7Secret_c p q x _).mono ?_
      rintro e w1 ⟨rfl, rfl⟩
      rw [h1]
      go_wp2_with fail
      refine (l13Role_c r _).mono ?_
      rintro e w1 ⟨rfl, rfl⟩
      rw [h2]
      go_wp2
      go_ret
      exact ⟨rfl, rfl⟩
    · go_enter Try.func57, Try.ntmps57
      go_wp2_with fail
      refine (l7Secret_c p q x _).mono ?_
      rintro e w1 ⟨rfl, rfl⟩
      rw [h1]
      go_wp2_with fail
      refine (l13Role_c r _).mono ?_
      rintro e w1 ⟨rfl, rfl⟩
      rw [h2]
      go_wp2
      go_ret
      exact ⟨rfl, rfl⟩
theorem l13Context_c (p : Option Addr) (q : Nat) (c : List UInt8) (w : World) : Calls Try.prog 61 #[.slice p c.length q] w fun e w' => e = .returned (.bool (ctxB c)) ∧ w' = w := by
  unfold ctxB
  go_enter Try.func61, Try.ntmps61
  go_wp2_with fail
  refine (l1In_c _ _ _ _).mono ?_
  rintro e w1 ⟨rfl, rfl⟩
  go_wp2
  go_ret
  exact ⟨rfl, rfl⟩
end Go.Proofs.Ythfjnmkplifcmaa

