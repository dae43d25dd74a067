/- A fact that hangs on a stretch of memory hangs on a wider one; what the walks of the laws with two structs want besides. No program in it. -/
import Derived.Test.YtdbpnibcblelbaaDoorWin
import Derived.Test.YtdbpnibcblelbaaDoorStoreR
import Derived.Test.YtdbpnibcblelbaaDoorPick
namespace Go.Proofs.YtdbpnibcblelbaaDoor
open Go.RowKit

theorem Win.wide {F : World → Prop} {lo hi a b : Nat} {w : World} (h : Win F a b w) (h1 : lo ≤ a) (h2 : b ≤ hi) (h3 : hi ≤ w.heap.size) : Win F lo hi w :=
  ⟨h.now, h3, fun w' hs => h.fr w' fun k k1 k2 => hs k (Nat.le_trans h1 k1) (Nat.lt_of_lt_of_le k2 h2)⟩
end Go.Proofs.YtdbpnibcblelbaaDoor

