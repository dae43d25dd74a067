/- Behind a drawn region in which a local is made at any time and the answer of the last call is stored in it (tools/picks.py store_region): the local holds it, all else is left; share: one walk for all branches. No program in it. -/
import Derived.Test.YtgjmhlolbjmibaaDoorPick
import Derived.Test.YtgjmhlolbjmibaaDoorArr
namespace Go.Proofs.YtgjmhlolbjmibaaDoor
open Go Go.RowKit

def NotIn (p : Option Addr) (n q g : Nat) : Prop := ∀ k, (Value.slice p n q).ownBlock = some k → k ≠ g
theorem stored {V W : World} {g n q : Nat} {t : TypeId} {p : Option Addr} {L : List UInt8} (BB : Below V.heap.size V W) (AA : Arr W g t [.int .i64 0, .slice none 0 0]) (GG : V.heap.size ≤ g) (r : Rd W p q L) (NE : NotIn p n q g) :
    Arr ((W.setCell ⟨g, 0, none⟩ (.int .i64 0)).setCell ⟨g, 1, none⟩ (.slice p n q)) g t [.int .i64 0, .slice p n q] ∧ Rd ((W.setCell ⟨g, 0, none⟩ (.int .i64 0)).setCell ⟨g, 1, none⟩ (.slice p n q)) p q L ∧ Below V.heap.size V ((W.setCell ⟨g, 0, none⟩ (.int .i64 0)).setCell ⟨g, 1, none⟩ (.slice p n q)) := by
  refine ⟨(AA.set 0 _).set 1 _, ⟨r.1, r.2.1, r.2.2.1, fun hp => ?_⟩, (BB.setCell GG _).setCell GG _⟩
  obtain ⟨b, o, rfl, hc⟩ := r.2.2.2 hp
  have hb : b ≠ g := NE b (by simp [Value.ownBlock])
  refine ⟨b, o, rfl, fun i hi => ?_⟩
  rw [World.cell?_setCell_other _ _ _ _ (by simp; try omega), World.cell?_setCell_other _ _ _ _ (by simp; try omega)]
  exact hc i hi
theorem share {J A : Prop} (h : Hid J → A) (hj : J) : A := h hj
end Go.Proofs.YtgjmhlolbjmibaaDoor
