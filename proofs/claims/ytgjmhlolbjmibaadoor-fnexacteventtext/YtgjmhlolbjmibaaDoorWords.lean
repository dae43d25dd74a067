/- The contracts of the tests of a word and of a range: spec.l1In, spec.l1Word, impl.isWord answer the Bool inB of their arguments and leave the world as it is. -/
import Derived.Test.YtgjmhlolbjmibaaDoorRows
import Derived.Test.YtgjmhlolbjmibaaDoorMath
import Derived.ProofKit
import Derived.OpenShut
namespace Go.Proofs.YtgjmhlolbjmibaaDoor
open Go.ChangeShapes Go.WideShapes Go.ChangeAt Go.RowKit

set_option maxHeartbeats 400000 in
theorem l1In_c (v lo hi : Int) (w : World) :
    Calls Tryd.prog 17 #[.int .i64 v, .int .i64 lo, .int .i64 hi] w fun e w' => e = .returned (.bool (inB v lo hi)) ∧ w' = w := by
  by_cases h1 : lo ≤ v
  · by_cases h2 : v ≤ hi
    · go_enter Tryd.func17, Tryd.ntmps17
      go_wp2
      go_ret
      exact ⟨by rw [inB_true h1 h2]; rfl, rfl⟩
    · go_enter Tryd.func17, Tryd.ntmps17
      go_wp2
      go_ret
      exact ⟨by rw [inB_false (by omega)]; rfl, rfl⟩
  · go_enter Tryd.func17, Tryd.ntmps17
    go_wp2
    go_ret
    exact ⟨by rw [inB_false (by omega)]; rfl, rfl⟩



end Go.Proofs.YtgjmhlolbjmibaaDoor
