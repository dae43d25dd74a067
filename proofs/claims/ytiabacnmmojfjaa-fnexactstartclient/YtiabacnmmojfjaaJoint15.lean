/- isKey of the program: does it have 32 bytes? -/
import Derived.Test.YtiabacnmmojfjaaJoint8
import Derived.Test.YtiabacnmmojfjaaBytes
import Derived.Handy
import Derived.Test.YtiabacnmmojfjaaWireP
import Derived.Test.YtiabacnmmojfjaaJoint14
namespace Go.Proofs.Ytiabacnmmojfjaa
open Go.ChangeShapes Go.WideShapes Go.ChangeAt Go.RowKit

theorem isKeyR_c (p : Option Addr) (q : Nat) (bs : List UInt8) (w : World) : Calls Try.prog 36 #[.slice p bs.length q] w fun e w' => e = .returned (.bool (is32 bs)) ∧ w' = w := by
  by_cases h : bs.length = 32
  · rw [show is32 bs = true by simp [is32, h]]
    have d1 : ((bs.length : Int) == 32) = true := by rw [beq_iff_eq]; omega
    clear h
    go_enter Try.func36, Try.ntmps36
    go_wp2
    go_ret
    exact ⟨rfl, rfl⟩
  · rw [show is32 bs = false by simp [is32, h]]
    have d1 : ((bs.length : Int) == 32) = false := by rw [beq_eq_false_iff_ne]; omega
    clear h
    go_enter Try.func36, Try.ntmps36
    go_wp2
    go_ret
    exact ⟨rfl, rfl⟩
end Go.Proofs.Ytiabacnmmojfjaa

/- The contracts of what reads in chapter 6 of the program: a head (readHead), the first message and the first block of bytes. What was there stays. -/
namespace Go.Proofs.Ytiabacnmmojfjaa
open Go.ChangeShapes Go.WideShapes Go.ChangeAt Go.RowKit



end Go.Proofs.Ytiabacnmmojfjaa

/- The contracts of chapter 6's functions on messages in the program: MsgFault, PackMsg, PackMsgs, UnpackMsgs, SameMsgs: code, place, bytes and messages, at every argument. What was there stays. -/
namespace Go.Proofs.Ytiabacnmmojfjaa
open Go.ChangeShapes Go.WideShapes Go.ChangeAt Go.RowKit

theorem implMF_c (a : MsgD) (p : Option Addr) (q : Nat) (w : World) (_hr : Rd w p q a.2) :
    Calls Try.prog 35 #[.agg #[.int .i64 a.1, .slice p a.2.length q]] w fun e w' => e = .returned (.int .i64 (faultW a.1 a.2.length)) ∧ Below w.heap.size w w' := implMF_n a.1 a.2.length q p w




end Go.Proofs.Ytiabacnmmojfjaa

