/- The contracts of the wire in the specification: l6Fault, MsgFault, l6Pack, PackMsg, l6PackAll, PackMsgs: code and bytes, at every argument. What was there stays. -/
import Derived.Test.YtoneggbbfjenpabJoinI
import Derived.Test.YtoneggbbfjenpabSame
import Derived.Test.YtoneggbbfjenpabGetW
import Derived.Test.YtoneggbbfjenpabMsgC
import Derived.Test.YtoneggbbfjenpabWire
import Derived.Test.YtoneggbbfjenpabPick
namespace Go.Proofs.Ytoneggbbfjenpab
open Go.ChangeShapes Go.WideShapes Go.ChangeAt Go.RowKit

def pmL (a : MsgD) : List UInt8 := if faultW a.1 a.2.length = 0 then packW a.1 a.2 else []
theorem pmL_len (a : MsgD) : (pmL a).length ≤ 1048576 := by
  unfold pmL; split
  · rename_i h; have := (faultW_zero h).2; rw [packW_len]; omega
  · simp


end Go.Proofs.Ytoneggbbfjenpab
