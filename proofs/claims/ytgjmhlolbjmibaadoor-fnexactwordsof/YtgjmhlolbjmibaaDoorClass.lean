/- A region that draws its order, walked once in the order of the text, where all worlds that may come up hold the same cells and leave what lay before, and every call gives one value and leaves what it found. No program in it. -/
import Derived.BigQuiet
import Derived.Test.YtgjmhlolbjmibaaDoorBytes
namespace Go.Proofs.YtgjmhlolbjmibaaDoor
open Go Go.RowKit

/-- A world in which all that lay in V is left. -/
structure HW (V : World) where
  w : World
  h : Below V.heap.size V w

theorem HW.at {V : World} {p : Addr} {v : Value} (h : V.cell? p = some v) : ∀ s : HW V, s.w.cell? p = some v := fun s => cell_keep h s.h
theorem HW.out {V w : World} (h : ∃ s : HW V, w = s.w) : Below V.heap.size V w := by
  obtain ⟨s, rfl⟩ := h
  exact s.h
theorem HW.some (V : World) : Nonempty (HW V) := ⟨⟨V, Below.refl _ _⟩⟩

theorem HW.down {V w' : World} {p : Addr} {v : Value} (h : ∀ s : HW V, s.w.cell? p = Option.some v) (hb : Below V.heap.size V w') : ∀ s : HW w', s.w.cell? p = Option.some v := HW.at (h ⟨w', hb⟩)
theorem wp_region_class {P : Program} {id : Nat} {Q : Exit → Act → World → Prop} {a : Act} {V : World} {l : List Oper}
    (hm : P.follows .mixedOrders = true) (hB : Region.lexB .any l.toArray = true)
    (h : wpQuiet P l.toArray (fun w' => ∃ s : HW V, w' = s.w) (fun a' => ∀ w', (∃ s : HW V, w' = s.w) → Q .normal a' w') l a) : (Code.region id l.toArray true).wp P Q a V :=
  wp_region_quiet (C := fun w' => ∃ s : HW V, w' = s.w) hm hB ⟨⟨V.drew, (Below.refl _ _).drew⟩, rfl⟩ (by simpa using h)

/-- A call that leaves what was there. -/
theorem Calls.stay {P : Program} {V : World} {f : FuncId} {args : Array Value} {v : Value} {s : HW V}
    (h : Calls P f args s.w fun e w' => e = .returned v ∧ Below s.w.heap.size s.w w') : Calls P f args s.w fun e w'' => e = .returned v ∧ ∃ s' : HW V, w'' = s'.w :=
  h.mono fun _ w'' ⟨he, hb⟩ => ⟨he, ⟨w'', Below.step s.h hb⟩, rfl⟩
theorem Calls.stay_same {P : Program} {V : World} {f : FuncId} {args : Array Value} {v : Value} {s : HW V}
    (h : Calls P f args s.w fun e w' => e = .returned v ∧ w' = s.w) : Calls P f args s.w fun e w'' => e = .returned v ∧ ∃ s' : HW V, w'' = s'.w :=
  h.mono fun _ _ ⟨he, hb⟩ => ⟨he, s, hb⟩

/-- A quiet region behind another one: the draws add up. -/
theorem wp_region_again {P : Program} {id : Nat} {Q : Exit → Act → World → Prop} {a : Act} {V : World} {k : Nat} {l : List Oper}
    (hm : P.follows .mixedOrders = true) (hB : Region.lexB .any l.toArray = true)
    (h : wpQuiet P l.toArray (fun w' => ∃ n, w' = V.drewN n) (fun a' => ∀ w', (∃ n, w' = V.drewN n) → Q .normal a' w') l a) : (Code.region id l.toArray true).wp P Q a (V.drewN k) :=
  wp_region_quiet (C := fun w' => ∃ n, w' = V.drewN n) hm hB ⟨k + 1, rfl⟩ (by simpa using h)

end Go.Proofs.YtgjmhlolbjmibaaDoor
