/- Rows of pieces that are filled one by one, in the program's chapter 6; the contracts of PackMsgs and PackBlocks there: code and bytes, at every argument. What was there stays. -/
import Derived.Test.YtdbpnibcblelbaaDoorJoint11
namespace Go.Proofs.YtdbpnibcblelbaaDoor
open Go.ChangeShapes Go.WideShapes Go.ChangeAt Go.RowKit


end Go.Proofs.YtdbpnibcblelbaaDoor

