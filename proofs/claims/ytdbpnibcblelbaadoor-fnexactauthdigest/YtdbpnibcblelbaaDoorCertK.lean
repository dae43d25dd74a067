/- What the laws ask of lists of certificates: how great they are (szCertS), and (where a law has it) their marks. -/
import Derived.Test.YtdbpnibcblelbaaDoorJoint6
import Derived.Test.YtdbpnibcblelbaaDoorWin
namespace Go.Proofs.YtdbpnibcblelbaaDoor
open Go.ChangeShapes Go.WideShapes Go.ChangeAt Go.RowKit

end Go.Proofs.YtdbpnibcblelbaaDoor

