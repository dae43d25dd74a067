/- The contract of laws.eqIntResult at two equal answers: true; what was there stays. -/
import Derived.Test.YtdolhafkihkocabRows
import Derived.Test.YtdolhafkihkocabMath
import Derived.ProofKit
import Derived.OpenShut
namespace Go.Proofs.Ytdolhafkihkocab
open Go.ChangeShapes Go.WideShapes Go.ChangeAt Go.RowKit

set_option maxRecDepth 4000 in
set_option maxHeartbeats 400000 in
theorem eqInt_c (c v : Int) (w : World) :
    Calls Try.prog 7 #[.agg #[.int .i64 c, .int .i64 v], .agg #[.int .i64 c, .int .i64 v]] w fun e w' => e = .returned (.bool true) ∧ Below w.heap.size w w' := by
  go_enter Try.func7, Try.ntmps7
  go_wp2
  go_ret
  exact ⟨rfl, ((Below.refl _ _).alloc (Nat.le_refl _) _).alloc (by simp) _⟩
end Go.Proofs.Ytdolhafkihkocab
