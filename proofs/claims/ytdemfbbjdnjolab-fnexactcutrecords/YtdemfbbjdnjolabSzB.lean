/- The contract of the laws' count of bytes: szByteS. -/
import Derived.Test.YtdemfbbjdnjolabCopy
import Derived.Test.YtdemfbbjdnjolabCod
namespace Go.Proofs.Ytdemfbbjdnjolab
open Go.ChangeShapes Go.WideShapes Go.ChangeAt Go.RowKit

end Go.Proofs.Ytdemfbbjdnjolab
