/- The contracts of chapter 7's functions in the specification, at every argument: code and bytes. What was there stays. -/
import Derived.Test.YtklglpmlfboglaaSch
import Derived.Test.YtklglpmlfboglaaCod
import Derived.Test.YtklglpmlfboglaaPick
namespace Go.Proofs.Ytklglpmlfboglaa
open Go.ChangeShapes Go.WideShapes Go.ChangeAt Go.RowKit

theorem rd_nil (w : World) : Rd w none 0 [] := ⟨Nat.le_refl _, by unfold maxLen; decide, fun _ => rfl, fun hp => by simp at hp⟩
set_option maxRecDepth 4000 in
theorem l7Secret_c (p : Option Addr) (q : Nat) (s : List UInt8) (w : World) : Calls Try.prog 77 #[.slice p s.length q] w fun e w' => e = .returned (.bool (is32 s)) ∧ w' = w := by
  by_cases h : s.length = 32
  · have d1 : ((s.length : Int) == 32) = true := by rw [beq_iff_eq]; omega
    rw [show is32 s = true by simp [is32, h]]
    clear h
    go_enter Try.func77, Try.ntmps77
    go_wp2
    go_ret
    exact ⟨rfl, rfl⟩
  · have d1 : ((s.length : Int) == 32) = false := by rw [beq_eq_false_iff_ne]; omega
    rw [show is32 s = false by simp [is32, h]]
    clear h
    go_enter Try.func77, Try.ntmps77
    go_wp2
    go_ret
    exact ⟨rfl, rfl⟩







end Go.Proofs.Ytklglpmlfboglaa

