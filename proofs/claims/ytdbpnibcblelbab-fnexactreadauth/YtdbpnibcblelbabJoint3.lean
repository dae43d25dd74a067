/- The contracts of the tests of a word and of a range: spec.l1In, spec.l1Word, impl.isWord answer the Bool inB of their arguments and leave the world as it is. -/
import Derived.Test.YtdbpnibcblelbabRows
import Derived.Test.YtdbpnibcblelbabJoint1
import Derived.ProofKit
import Derived.OpenShut
namespace Go.Proofs.Ytdbpnibcblelbab
open Go.ChangeShapes Go.WideShapes Go.ChangeAt Go.RowKit

set_option maxHeartbeats 400000 in
theorem l1In_c (v lo hi : Int) (w : World) :
    Calls Try.prog 27 #[.int .i64 v, .int .i64 lo, .int .i64 hi] w fun e w' => e = .returned (.bool (inB v lo hi)) ∧ w' = w := by
  by_cases h1 : lo ≤ v
  · by_cases h2 : v ≤ hi
    · go_enter Try.func27, Try.ntmps27
      go_wp2
      go_ret
      exact ⟨by rw [inB_true h1 h2]; rfl, rfl⟩
    · go_enter Try.func27, Try.ntmps27
      go_wp2
      go_ret
      exact ⟨by rw [inB_false (by omega)]; rfl, rfl⟩
  · go_enter Try.func27, Try.ntmps27
    go_wp2
    go_ret
    exact ⟨by rw [inB_false (by omega)]; rfl, rfl⟩



end Go.Proofs.Ytdbpnibcblelbab

/- The contracts of TurnWord and of what it calls, in the specification and in the program: both answer turnCode and turnVal, at every argument. -/
namespace Go.Proofs.Ytdbpnibcblelbab
open Go.ChangeShapes Go.WideShapes Go.ChangeAt Go.RowKit

def turnCode (v n : Int) : Int := if inB v 0 4294967295 && inB n 0 31 then 0 else 3
def turnVal (v n : Int) : Int := if inB v 0 4294967295 && inB n 0 31 then (rotN v.toNat n.toNat : Nat) else 0
theorem turnCode_ok {a b : Int} (ha : inB a 0 4294967295 = true) (hb : inB b 0 31 = true) : turnCode a b = 0 := by simp [turnCode, ha, hb]
theorem turnVal_ok {a b : Int} (ha : inB a 0 4294967295 = true) (hb : inB b 0 31 = true) : turnVal a b = (rotN a.toNat b.toNat : Nat) := by simp [turnVal, ha, hb]
theorem turnCode_no {a b : Int} (h : inB a 0 4294967295 = false ∨ inB b 0 31 = false) : turnCode a b = 3 := by rcases h with h | h <;> simp [turnCode, h]
theorem turnVal_no {a b : Int} (h : inB a 0 4294967295 = false ∨ inB b 0 31 = false) : turnVal a b = 0 := by rcases h with h | h <;> simp [turnVal, h]
theorem i64_of {a b : Int} (h : a = b) : Value.int .i64 a = .int .i64 b := by rw [h]
theorem ret_i64 {a b : Int} (h : a = b) : Ending.returned (Value.int .i64 a) = .returned (.int .i64 b) := by rw [h]
theorem ret_u32 {a b : Int} (h : a = b) : Ending.returned (Value.int .u32 a) = .returned (.int .u32 b) := by rw [h]





end Go.Proofs.Ytdbpnibcblelbab

