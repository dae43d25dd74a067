/- The contracts of HexOf in the specification, and of what it calls. -/
import Derived.Test.YtklglpmlfboglaaRows
import Derived.Test.YtklglpmlfboglaaHex
import Derived.ProofKit
import Derived.OpenShut
import Derived.Deep.QuietTactic
import Derived.BigQuiet
namespace Go.Proofs.Ytklglpmlfboglaa
open Go.ChangeShapes Go.WideShapes Go.ChangeAt Go.RowKit

def hexCode (bs : List UInt8) : Int := if bs.length ≤ 600 then 0 else 2
def hexText (bs : List UInt8) : List UInt8 := if bs.length ≤ 600 then hexL bs else []

end Go.Proofs.Ytklglpmlfboglaa
