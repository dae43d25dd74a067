/- A region that draws its order, walked once in the order of the text, where all worlds that may come up hold the same cells and leave what lay before, and every call gives one value and leaves what it found. No program in it. -/
import Derived.BigQuiet
import Derived.Test.YtgdbbadmfddfbaaBytes
namespace Go.Proofs.Ytgdbbadmfddfbaa
open Go Go.RowKit

/-- These cells are held, and what lay in V is left. -/
def Held (V : World) (fs : List (Addr × Value)) (w : World) : Prop := (∀ p v, (p, v) ∈ fs → w.cell? p = some v) ∧ Below V.heap.size V w
theorem Held.keep {V w w' : World} {fs : List (Addr × Value)} (h : Held V fs w) (hb : Below w.heap.size w w') : Held V fs w' := ⟨fun p v hp => cell_keep (h.1 p v hp) hb, Below.step h.2 hb⟩
theorem Held.nil {V w : World} (hb : Below V.heap.size V w) : Held V [] w := ⟨fun _ _ h => by simp at h, hb⟩
theorem Held.cons {V w : World} {p : Addr} {v : Value} {fs : List (Addr × Value)} (h : w.cell? p = some v) (hh : Held V fs w) : Held V ((p, v) :: fs) w :=
  ⟨fun q u hq => by
    rcases List.mem_cons.1 hq with e | e
    · simp only [Prod.mk.injEq] at e
      obtain ⟨rfl, rfl⟩ := e
      exact h
    · exact hh.1 q u e, hh.2⟩

/-- A world of the class. -/
structure HW (V : World) (fs : List (Addr × Value)) where
  w : World
  h : Held V fs w

theorem HW.at {V : World} {fs : List (Addr × Value)} (i : Nat) (p : Addr) (v : Value) (h : fs[i]? = some (p, v)) : ∀ s : HW V fs, s.w.cell? p = some v := fun s => s.h.1 p v (List.mem_of_getElem? h)
theorem HW.some {V w : World} {fs : List (Addr × Value)} (h : Held V fs w) : Nonempty (HW V fs) := ⟨⟨w, h⟩⟩

theorem wp_region_class {P : Program} {id : Nat} {Q : Exit → Act → World → Prop} {a : Act} {V w : World} {fs : List (Addr × Value)} {l : List Oper}
    (hm : P.follows .mixedOrders = true) (hB : Region.lexB .any l.toArray = true) (hS : Held V fs w)
    (h : wpQuiet P l.toArray (fun w' => ∃ s : HW V fs, w' = s.w) (fun a' => ∀ w', (∃ s : HW V fs, w' = s.w) → Q .normal a' w') l a) : (Code.region id l.toArray true).wp P Q a w :=
  wp_region_quiet (C := fun w' => ∃ s : HW V fs, w' = s.w) hm hB ⟨⟨w.drew, ⟨fun p v hp => hS.1 p v hp, hS.2.drew⟩⟩, rfl⟩ (by simpa using h)

/-- A call that leaves what was there. -/
theorem Calls.stay {P : Program} {V : World} {fs : List (Addr × Value)} {f : FuncId} {args : Array Value} {v : Value} {s : HW V fs}
    (h : Calls P f args s.w fun e w' => e = .returned v ∧ Below s.w.heap.size s.w w') : Calls P f args s.w fun e w'' => e = .returned v ∧ ∃ s' : HW V fs, w'' = s'.w :=
  h.mono fun _ w'' ⟨he, hb⟩ => ⟨he, ⟨w'', s.h.keep hb⟩, rfl⟩
theorem Calls.stay_same {P : Program} {V : World} {fs : List (Addr × Value)} {f : FuncId} {args : Array Value} {v : Value} {s : HW V fs}
    (h : Calls P f args s.w fun e w' => e = .returned v ∧ w' = s.w) : Calls P f args s.w fun e w'' => e = .returned v ∧ ∃ s' : HW V fs, w'' = s'.w :=
  h.mono fun _ _ ⟨he, hb⟩ => ⟨he, s, hb⟩

end Go.Proofs.Ytgdbbadmfddfbaa
