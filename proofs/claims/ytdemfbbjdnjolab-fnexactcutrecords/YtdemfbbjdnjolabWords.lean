/- The contracts of the tests of a word and of a range: spec.l1In, spec.l1Word, impl.isWord answer the Bool inB of their arguments and leave the world as it is. -/
import Derived.Test.YtdemfbbjdnjolabRows
import Derived.Test.YtdemfbbjdnjolabMath
import Derived.ProofKit
import Derived.OpenShut
namespace Go.Proofs.Ytdemfbbjdnjolab
open Go.ChangeShapes Go.WideShapes Go.ChangeAt Go.RowKit




end Go.Proofs.Ytdemfbbjdnjolab
