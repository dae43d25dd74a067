import Derived.Test.YtbaldmmbphbinaaGreatDoorAuthY
import Derived.Test.YtbaldmmbphbinaaGreatDoorJoint20
import Derived.Laws.MakeOwn
import Derived.Test.YtbaldmmbphbinaaGreatDoorJoint7
namespace Go.Proofs.YtbaldmmbphbinaaGreatDoor
open Go.ChangeShapes Go.WideShapes Go.ChangeAt Go.RowKit
def s1:zO:=(1,1,zs 32)
def s0:zO:=(0,0,[])
end Go.Proofs.YtbaldmmbphbinaaGreatDoor
