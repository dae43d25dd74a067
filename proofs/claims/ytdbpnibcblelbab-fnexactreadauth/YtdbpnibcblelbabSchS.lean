/- The contracts of chapter 7's functions in the specification, at every argument: code and bytes. What was there stays. -/
import Derived.Test.YtdbpnibcblelbabJoint9
import Derived.Test.YtdbpnibcblelbabCod
import Derived.Test.YtdbpnibcblelbabPick
namespace Go.Proofs.Ytdbpnibcblelbab
open Go.ChangeShapes Go.WideShapes Go.ChangeAt Go.RowKit

theorem rd_nil (w : World) : Rd w none 0 [] := ⟨Nat.le_refl _, by unfold maxLen; decide, fun _ => rfl, fun hp => by simp at hp⟩







end Go.Proofs.Ytdbpnibcblelbab

