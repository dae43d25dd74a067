/- The contract of the laws' count of bytes: szByteS. -/
import Derived.Test.YtklglpmlfboglaaCopy
import Derived.Test.YtklglpmlfboglaaCod
namespace Go.Proofs.Ytklglpmlfboglaa
open Go.ChangeShapes Go.WideShapes Go.ChangeAt Go.RowKit

end Go.Proofs.Ytklglpmlfboglaa
