/- HoldsNow of the program, said in the specification's words: a fault is a fault, in whatever order it is asked. -/
import Derived.Test.YthfjnmkplifcmabSesS
import Derived.Test.YthfjnmkplifcmabSesM
namespace Go.Proofs.Ythfjnmkplifcmab
open Go.ChangeShapes Go.WideShapes Go.ChangeAt Go.RowKit

theorem implHo_s (x : SesD) (us : List Value) (id now : Int) (w : World) (h : sessionC.rep w x us) (hid : (Lit.int .i64 id).wf = true) :
    Calls Try.prog 18 #[.agg us.toArray, .int .i64 id, .int .i64 now] w fun e w' => e = .returned (.bool (hoB hdS x id now)) ∧ Below w.heap.size w w' := by
  have k := implHo_k x us id now w h hid
  rw [ho_same] at k
  exact k
end Go.Proofs.Ythfjnmkplifcmab

