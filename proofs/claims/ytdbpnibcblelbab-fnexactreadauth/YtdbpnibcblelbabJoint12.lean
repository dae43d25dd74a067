/- isKey of the program: does it have 32 bytes? -/
import Derived.Test.YtdbpnibcblelbabJoint9
import Derived.Test.YtdbpnibcblelbabBytes
import Derived.Handy
import Derived.Test.YtdbpnibcblelbabAuth
namespace Go.Proofs.Ytdbpnibcblelbab
open Go.ChangeShapes Go.WideShapes Go.ChangeAt Go.RowKit

theorem isKeyR_c (p : Option Addr) (q : Nat) (bs : List UInt8) (w : World) : Calls Try.prog 23 #[.slice p bs.length q] w fun e w' => e = .returned (.bool (is32 bs)) ∧ w' = w := by
  by_cases h : bs.length = 32
  · rw [show is32 bs = true by simp [is32, h]]
    have d1 : ((bs.length : Int) == 32) = true := by rw [beq_iff_eq]; omega
    clear h
    go_enter Try.func23, Try.ntmps23
    go_wp2
    go_ret
    exact ⟨rfl, rfl⟩
  · rw [show is32 bs = false by simp [is32, h]]
    have d1 : ((bs.length : Int) == 32) = false := by rw [beq_eq_false_iff_ne]; omega
    clear h
    go_enter Try.func23, Try.ntmps23
    go_wp2
    go_ret
    exact ⟨rfl, rfl⟩
end Go.Proofs.Ytdbpnibcblelbab

/- Whether bytes are a context, in the program. -/
namespace Go.Proofs.Ytdbpnibcblelbab
open Go.ChangeShapes Go.WideShapes Go.ChangeAt Go.RowKit

theorem isContext_c (p : Option Addr) (q : Nat) (c : List UInt8) (w : World) : Calls Try.prog 22 #[.slice p c.length q] w fun e w' => e = .returned (.bool (ctxB c)) ∧ w' = w := by
  unfold ctxB
  by_cases h1 : (1 : Int) ≤ (c.length : Int)
  · by_cases h2 : (c.length : Int) ≤ 20
    · rw [inB_true h1 h2]
      go_enter Try.func22, Try.ntmps22
      go_wp2
      go_ret
      exact ⟨rfl, rfl⟩
    · rw [inB_false (by omega)]
      go_enter Try.func22, Try.ntmps22
      go_wp2
      go_ret
      exact ⟨rfl, rfl⟩
  · rw [inB_false (by omega)]
    go_enter Try.func22, Try.ntmps22
    go_wp2
    go_ret
    exact ⟨rfl, rfl⟩
end Go.Proofs.Ytdbpnibcblelbab

