/- Rows of pieces that are filled one by one, in the program's chapter 6; the contracts of PackMsgs and PackBlocks there: code and bytes, at every argument. What was there stays. -/
import Derived.Test.YtdbpnibcblelbabDoorJoint9
namespace Go.Proofs.YtdbpnibcblelbabDoor
open Go.ChangeShapes Go.WideShapes Go.ChangeAt Go.RowKit


end Go.Proofs.YtdbpnibcblelbabDoor

