/- What is known of a stretch of memory, for the walks of the 'exact' laws: a fact that hangs on the blocks from lo up to hi alone (Win), and what a call that writes in one stretch alone leaves (Seg). No program in it. -/
import Derived.Test.YtflhoefocjmihaaCod
import Derived.BigQuiet
import Derived.Test.YtflhoefocjmihaaBytes
namespace Go.Proofs.Ytflhoefocjmihaa
open Go.RowKit

structure Win (F : World → Prop) (lo hi : Nat) (w : World) : Prop where
  now : F w
  top : hi ≤ w.heap.size
  fr : ∀ w' : World, (∀ k, lo ≤ k → k < hi → w'.heap[k]? = w.heap[k]?) → F w'
/-- Just the blocks from lo up to hi may be other than they were. -/
structure Seg (lo hi : Nat) (w w' : World) : Prop where
  os : w'.os = w.os
  tape : w'.tape = w.tape
  output : w'.output = w.output
  size : w.heap.size ≤ w'.heap.size
  block : ∀ k, k < w.heap.size → (k < lo ∨ hi ≤ k) → w'.heap[k]? = w.heap[k]?

theorem Win.move {F : World → Prop} {lo hi : Nat} {w w' : World} (h : Win F lo hi w) (ht : w.heap.size ≤ w'.heap.size) (hs : ∀ k, lo ≤ k → k < hi → w'.heap[k]? = w.heap[k]?) : Win F lo hi w' :=
  ⟨h.fr w' hs, Nat.le_trans h.top ht, fun w'' h2 => h.fr w'' fun k h3 h4 => (h2 k h3 h4).trans (hs k h3 h4)⟩
theorem Win.stay {F : World → Prop} {lo hi : Nat} {w w' : World} (h : Win F lo hi w) (hb : Below w.heap.size w w') : Win F lo hi w' :=
  h.move hb.size fun k _ h2 => hb.block k (Nat.lt_of_lt_of_le h2 h.top)
theorem Win.seg {F : World → Prop} {lo hi a b : Nat} {w w' : World} (h : Win F lo hi w) (hs : Seg a b w w') (hd : hi ≤ a ∨ b ≤ lo) : Win F lo hi w' :=
  h.move hs.size fun k h1 h2 => hs.block k (Nat.lt_of_lt_of_le h2 h.top) (by omega)
theorem Below.seg {W a b : World} {lo hi : Nat} (h : Below W.heap.size W a) (hs : Seg lo hi a b) (hl : W.heap.size ≤ lo) : Below W.heap.size W b :=
  ⟨hs.os.trans h.os, hs.tape.trans h.tape, hs.output.trans h.output, Nat.le_trans h.size hs.size, fun k hk => (hs.block k (Nat.lt_of_lt_of_le hk h.size) (by omega)).trans (h.block k hk)⟩
theorem Only.seg {fp : List Nat} {lo hi : Nat} {w w' : World} (h : Only fp w w') (hin : ∀ k, k ∈ fp → lo ≤ k ∧ k < hi) : Seg lo hi w w' :=
  ⟨h.os, h.tape, h.output, h.size, fun k hk hn => h.block k hk fun e => by have := hin k e; omega⟩
theorem grown_seg {row : Option Nat} {lo hi : Nat} {w w' : World} (h : w.grownBy w' row) (hin : ∀ k, k ∈ row.toList → lo ≤ k ∧ k < hi) : Seg lo hi w w' := (Only.grown h).seg hin

/-- Bytes of one's own; where they lie. -/
theorem Own.win {w : World} {B lo hi : Nat} {v : Value} {bs : List UInt8} (h : Own w B v bs) (ht : hi ≤ w.heap.size) (hin : ∀ k, k ∈ v.ownBlock.toList → lo ≤ k ∧ k < hi) : Win (fun w => Own w B v bs) lo hi w :=
  ⟨h, ht, fun w' hs => by
    have h2 : bytC.own w' B bs [v] v.ownBlock.toList := bytC.fr (w := w) ⟨v, rfl, h, rfl⟩ fun k hk => hs k (hin k hk).1 (hin k hk).2
    obtain ⟨v', e, h3, -⟩ := h2
    simp only [List.cons.injEq, and_true] at e
    rw [e]
    exact h3⟩
theorem Own.ins {w : World} {B : Nat} {v : Value} {bs : List UInt8} (h : Own w B v bs) : ∀ k, k ∈ v.ownBlock.toList → B ≤ k ∧ k < w.heap.size := fun k hk => ⟨h.ge k (mem_opt.1 hk), h.lt k (mem_opt.1 hk)⟩
theorem OwnL.win {α : Type} {e : TypeId} {c : Cod α} {w : World} {B lo hi : Nat} {v : Value} {l : List α} {xs : List Value} {fp : List Nat} (h : OwnL e c w B v l xs fp) (ht : hi ≤ w.heap.size) (hin : ∀ k, k ∈ v.ownBlock.toList ++ fp → lo ≤ k ∧ k < hi) : Win (fun w => OwnL e c w B v l xs fp) lo hi w :=
  ⟨h, ht, fun _ hs => h.fr fun k hk => hs k (hin k hk).1 (hin k hk).2⟩
theorem RdL.own {α : Type} {e : TypeId} {c : Cod α} {w : World} {B n q : Nat} {p : Option Addr} {l : List α} {xs : List Value} {fp : List Nat} (h : OwnL e c w B (.slice p n q) l xs fp) : RdL c w p q l := by
  obtain ⟨p', q', e1, hr⟩ := h.rd
  simp only [Value.slice.injEq] at e1
  obtain ⟨rfl, -, rfl⟩ := e1
  exact hr
/-- Data of whatever kind. -/
theorem Cod.own.ins {α : Type} {c : Cod α} {w : World} {B : Nat} {a : α} {us : List Value} {fp : List Nat} (h : c.own w B a us fp) : ∀ k, k ∈ fp → B ≤ k ∧ k < w.heap.size := c.ins h
theorem Cod.own.win {α : Type} {c : Cod α} {w : World} {B lo hi : Nat} {a : α} {us : List Value} {fp : List Nat} (h : c.own w B a us fp) (ht : hi ≤ w.heap.size) (hin : ∀ k, k ∈ fp → lo ≤ k ∧ k < hi) : Win (fun w => c.own w B a us fp) lo hi w :=
  ⟨h, ht, fun _ hs => c.fr h fun k hk => hs k (hin k hk).1 (hin k hk).2⟩
/-- A local's cells. -/
theorem Has.win {w : World} {b : Nat} {v : Value} {vs : List Value} (h : Has w b (v :: vs)) : Win (fun w => Has w b (v :: vs)) b (b + 1) w :=
  ⟨h, h.lt, fun _ hs i u hu => by
    rw [World.cell?_of_block (a := ⟨b, i, none⟩) (hs b (Nat.le_refl _) (Nat.lt_succ_self _))]
    exact h i u hu⟩
end Go.Proofs.Ytflhoefocjmihaa

/- A region that draws its order, walked once in the order of the text, where all worlds that may come up hold the same cells and leave what lay before, and every call gives one value and leaves what it found. No program in it. -/
namespace Go.Proofs.Ytflhoefocjmihaa
open Go Go.RowKit

/-- A world in which all that lay in V is left. -/
structure HW (V : World) where
  w : World
  h : Below V.heap.size V w

theorem HW.at {V : World} {p : Addr} {v : Value} (h : V.cell? p = some v) : ∀ s : HW V, s.w.cell? p = some v := fun s => cell_keep h s.h
theorem HW.out {V w : World} (h : ∃ s : HW V, w = s.w) : Below V.heap.size V w := by
  obtain ⟨s, rfl⟩ := h
  exact s.h
theorem HW.some (V : World) : Nonempty (HW V) := ⟨⟨V, Below.refl _ _⟩⟩

theorem HW.down {V w' : World} {p : Addr} {v : Value} (h : ∀ s : HW V, s.w.cell? p = Option.some v) (hb : Below V.heap.size V w') : ∀ s : HW w', s.w.cell? p = Option.some v := HW.at (h ⟨w', hb⟩)
theorem wp_region_class {P : Program} {id : Nat} {Q : Exit → Act → World → Prop} {a : Act} {V : World} {l : List Oper}
    (hm : P.follows .mixedOrders = true) (hB : Region.lexB .any l.toArray = true)
    (h : wpQuiet P l.toArray (fun w' => ∃ s : HW V, w' = s.w) (fun a' => ∀ w', (∃ s : HW V, w' = s.w) → Q .normal a' w') l a) : (Code.region id l.toArray true).wp P Q a V :=
  wp_region_quiet (C := fun w' => ∃ s : HW V, w' = s.w) hm hB ⟨⟨V.drew, (Below.refl _ _).drew⟩, rfl⟩ (by simpa using h)

/-- A call that leaves what was there. -/
theorem Calls.stay {P : Program} {V : World} {f : FuncId} {args : Array Value} {v : Value} {s : HW V}
    (h : Calls P f args s.w fun e w' => e = .returned v ∧ Below s.w.heap.size s.w w') : Calls P f args s.w fun e w'' => e = .returned v ∧ ∃ s' : HW V, w'' = s'.w :=
  h.mono fun _ w'' ⟨he, hb⟩ => ⟨he, ⟨w'', Below.step s.h hb⟩, rfl⟩
theorem Calls.stay_same {P : Program} {V : World} {f : FuncId} {args : Array Value} {v : Value} {s : HW V}
    (h : Calls P f args s.w fun e w' => e = .returned v ∧ w' = s.w) : Calls P f args s.w fun e w'' => e = .returned v ∧ ∃ s' : HW V, w'' = s'.w :=
  h.mono fun _ _ ⟨he, hb⟩ => ⟨he, s, hb⟩

/-- A quiet region behind another one: the draws add up. -/
theorem wp_region_again {P : Program} {id : Nat} {Q : Exit → Act → World → Prop} {a : Act} {V : World} {k : Nat} {l : List Oper}
    (hm : P.follows .mixedOrders = true) (hB : Region.lexB .any l.toArray = true)
    (h : wpQuiet P l.toArray (fun w' => ∃ n, w' = V.drewN n) (fun a' => ∀ w', (∃ n, w' = V.drewN n) → Q .normal a' w') l a) : (Code.region id l.toArray true).wp P Q a (V.drewN k) :=
  wp_region_quiet (C := fun w' => ∃ n, w' = V.drewN n) hm hB ⟨k + 1, rfl⟩ (by simpa using h)

end Go.Proofs.Ytflhoefocjmihaa

