/- The contract of the laws' count of bytes: szByteS. -/
import Derived.Test.YtgjmhlolbjmibaaDoorCopy
import Derived.Test.YtgjmhlolbjmibaaDoorCod
namespace Go.Proofs.YtgjmhlolbjmibaaDoor
open Go.ChangeShapes Go.WideShapes Go.ChangeAt Go.RowKit

set_option maxRecDepth 4000 in
set_option maxHeartbeats 400000 in
theorem szByteS_c (p : Option Addr) (q n : Nat) (left : Int) (w : World) (hn : n ≤ q) (hq : q ≤ 2 ^ 63 - 1) (h0 : 0 ≤ left) (h1 : left ≤ 1048576) :
    Calls Tryd.prog 16 #[.slice p n q, .int .i64 left] w fun e w' => e = .returned (.int .i64 (szR n left)) ∧ w' = w := by
  have hw : wrap64 (left - (n : Int)) = left - n := by unfold wrap64; omega
  by_cases h : (n : Int) ≤ left
  · rw [show szR n left = left - n by rw [szR, if_pos h]]
    have h2 : ¬ (left - (n : Int) < 0) := by omega
    go_enter Tryd.func16, Tryd.ntmps16
    go_wp2
    go_ret
    exact ⟨rfl, rfl⟩
  · rw [show szR n left = -1 by rw [szR, if_neg h]]
    have h2 : left - (n : Int) < 0 := by omega
    go_enter Tryd.func16, Tryd.ntmps16
    go_wp2
    go_ret
    exact ⟨rfl, rfl⟩
end Go.Proofs.YtgjmhlolbjmibaaDoor
