/- The contracts of the tests of a word and of a range: spec.l1In, spec.l1Word, impl.isWord answer the Bool inB of their arguments and leave the world as it is. -/
import Derived.Test.YtpcgpefefklfoaaDoorRows
import Derived.Test.YtpcgpefefklfoaaDoorMath
import Derived.ProofKit
import Derived.OpenShut
namespace Go.Proofs.YtpcgpefefklfoaaDoor
open Go.ChangeShapes Go.WideShapes Go.ChangeAt Go.RowKit

set_option maxHeartbeats 400000 in
theorem l1In_c (v lo hi : Int) (w : World) :
    Calls Tryd.prog 92 #[.int .i64 v, .int .i64 lo, .int .i64 hi] w fun e w' => e = .returned (.bool (inB v lo hi)) ∧ w' = w := by
  by_cases h1 : lo ≤ v
  · by_cases h2 : v ≤ hi
    · go_enter Tryd.func92, Tryd.ntmps92
      go_wp2
      go_ret
      exact ⟨by rw [inB_true h1 h2]; rfl, rfl⟩
    · go_enter Tryd.func92, Tryd.ntmps92
      go_wp2
      go_ret
      exact ⟨by rw [inB_false (by omega)]; rfl, rfl⟩
  · go_enter Tryd.func92, Tryd.ntmps92
    go_wp2
    go_ret
    exact ⟨by rw [inB_false (by omega)]; rfl, rfl⟩

set_option maxHeartbeats 400000 in
theorem l1Word_c (v : Int) (w : World) :
    Calls Tryd.prog 78 #[.int .i64 v] w fun e w' => e = .returned (.bool (inB v 0 4294967295)) ∧ w' = w := by
  go_enter Tryd.func78, Tryd.ntmps78
  go_wp2_with (go_at_call 92; refine (l1In_c _ _ _ _).mono ?_; rintro e w' ⟨rfl, rfl⟩)
  go_ret
  exact ⟨rfl, rfl⟩


end Go.Proofs.YtpcgpefefklfoaaDoor
