/- The contracts of HexOf in the specification, and of what it calls. -/
import Derived.Test.YtdolhafkihkocaaRows
import Derived.Test.YtdolhafkihkocaaHex
import Derived.ProofKit
import Derived.OpenShut
import Derived.Deep.QuietTactic
import Derived.BigQuiet
namespace Go.Proofs.Ytdolhafkihkocaa
open Go.ChangeShapes Go.WideShapes Go.ChangeAt Go.RowKit

def hexCode (bs : List UInt8) : Int := if bs.length ≤ 600 then 0 else 2
def hexText (bs : List UInt8) : List UInt8 := if bs.length ≤ 600 then hexL bs else []

end Go.Proofs.Ytdolhafkihkocaa
