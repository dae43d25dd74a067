/- What the laws ask of lists of certificates: how great they are (szCertS), and (where a law has it) their marks. -/
import Derived.Test.YtklglpmlfboglaaCertC
import Derived.Test.YtklglpmlfboglaaWin
namespace Go.Proofs.Ytklglpmlfboglaa
open Go.ChangeShapes Go.WideShapes Go.ChangeAt Go.RowKit

theorem szCertS_b (l : List CertD) (p : Option Addr) (q : Nat) (left : Int) (w : World) (hr : RdL certC w p q l) (h0 : 0 ≤ left) (h1 : left ≤ 1048576) :
    Calls Try.prog 28 #[.slice p l.length q, .int .i64 left] w fun e w' => e = .returned (.int .i64 (szR l.length left)) ∧ Below w.heap.size w w' := by
  refine Calls.mono (szCertS_c p q l.length left w hr.1 hr.2.1 h0 h1) ?_
  rintro e w' ⟨rfl, rfl⟩
  exact ⟨rfl, Below.refl _ _⟩
end Go.Proofs.Ytklglpmlfboglaa
