/- What is known of a stretch of memory, for the walks of the 'exact' laws: a fact that hangs on the blocks from lo up to hi alone (Win), and what a call that writes in one stretch alone leaves (Seg). No program in it. -/
import Derived.Test.YtgjmhlolbjmibaaDoorCod
namespace Go.Proofs.YtgjmhlolbjmibaaDoor
open Go.RowKit

structure Win (F : World → Prop) (lo hi : Nat) (w : World) : Prop where
  now : F w
  top : hi ≤ w.heap.size
  fr : ∀ w' : World, (∀ k, lo ≤ k → k < hi → w'.heap[k]? = w.heap[k]?) → F w'
/-- Just the blocks from lo up to hi may be other than they were. -/
structure Seg (lo hi : Nat) (w w' : World) : Prop where
  os : w'.os = w.os
  tape : w'.tape = w.tape
  output : w'.output = w.output
  size : w.heap.size ≤ w'.heap.size
  block : ∀ k, k < w.heap.size → (k < lo ∨ hi ≤ k) → w'.heap[k]? = w.heap[k]?

theorem Win.move {F : World → Prop} {lo hi : Nat} {w w' : World} (h : Win F lo hi w) (ht : w.heap.size ≤ w'.heap.size) (hs : ∀ k, lo ≤ k → k < hi → w'.heap[k]? = w.heap[k]?) : Win F lo hi w' :=
  ⟨h.fr w' hs, Nat.le_trans h.top ht, fun w'' h2 => h.fr w'' fun k h3 h4 => (h2 k h3 h4).trans (hs k h3 h4)⟩
theorem Win.stay {F : World → Prop} {lo hi : Nat} {w w' : World} (h : Win F lo hi w) (hb : Below w.heap.size w w') : Win F lo hi w' :=
  h.move hb.size fun k _ h2 => hb.block k (Nat.lt_of_lt_of_le h2 h.top)
theorem Win.seg {F : World → Prop} {lo hi a b : Nat} {w w' : World} (h : Win F lo hi w) (hs : Seg a b w w') (hd : hi ≤ a ∨ b ≤ lo) : Win F lo hi w' :=
  h.move hs.size fun k h1 h2 => hs.block k (Nat.lt_of_lt_of_le h2 h.top) (by omega)
theorem Below.seg {W a b : World} {lo hi : Nat} (h : Below W.heap.size W a) (hs : Seg lo hi a b) (hl : W.heap.size ≤ lo) : Below W.heap.size W b :=
  ⟨hs.os.trans h.os, hs.tape.trans h.tape, hs.output.trans h.output, Nat.le_trans h.size hs.size, fun k hk => (hs.block k (Nat.lt_of_lt_of_le hk h.size) (by omega)).trans (h.block k hk)⟩
theorem Only.seg {fp : List Nat} {lo hi : Nat} {w w' : World} (h : Only fp w w') (hin : ∀ k, k ∈ fp → lo ≤ k ∧ k < hi) : Seg lo hi w w' :=
  ⟨h.os, h.tape, h.output, h.size, fun k hk hn => h.block k hk fun e => by have := hin k e; omega⟩
theorem grown_seg {row : Option Nat} {lo hi : Nat} {w w' : World} (h : w.grownBy w' row) (hin : ∀ k, k ∈ row.toList → lo ≤ k ∧ k < hi) : Seg lo hi w w' := (Only.grown h).seg hin

/-- Bytes of one's own; where they lie. -/
theorem Own.win {w : World} {B lo hi : Nat} {v : Value} {bs : List UInt8} (h : Own w B v bs) (ht : hi ≤ w.heap.size) (hin : ∀ k, k ∈ v.ownBlock.toList → lo ≤ k ∧ k < hi) : Win (fun w => Own w B v bs) lo hi w :=
  ⟨h, ht, fun w' hs => by
    have h2 : bytC.own w' B bs [v] v.ownBlock.toList := bytC.fr (w := w) ⟨v, rfl, h, rfl⟩ fun k hk => hs k (hin k hk).1 (hin k hk).2
    obtain ⟨v', e, h3, -⟩ := h2
    simp only [List.cons.injEq, and_true] at e
    rw [e]
    exact h3⟩
theorem Own.ins {w : World} {B : Nat} {v : Value} {bs : List UInt8} (h : Own w B v bs) : ∀ k, k ∈ v.ownBlock.toList → B ≤ k ∧ k < w.heap.size := fun k hk => ⟨h.ge k (mem_opt.1 hk), h.lt k (mem_opt.1 hk)⟩
theorem OwnL.win {α : Type} {e : TypeId} {c : Cod α} {w : World} {B lo hi : Nat} {v : Value} {l : List α} {xs : List Value} {fp : List Nat} (h : OwnL e c w B v l xs fp) (ht : hi ≤ w.heap.size) (hin : ∀ k, k ∈ v.ownBlock.toList ++ fp → lo ≤ k ∧ k < hi) : Win (fun w => OwnL e c w B v l xs fp) lo hi w :=
  ⟨h, ht, fun _ hs => h.fr fun k hk => hs k (hin k hk).1 (hin k hk).2⟩
theorem RdL.own {α : Type} {e : TypeId} {c : Cod α} {w : World} {B n q : Nat} {p : Option Addr} {l : List α} {xs : List Value} {fp : List Nat} (h : OwnL e c w B (.slice p n q) l xs fp) : RdL c w p q l := by
  obtain ⟨p', q', e1, hr⟩ := h.rd
  simp only [Value.slice.injEq] at e1
  obtain ⟨rfl, -, rfl⟩ := e1
  exact hr
/-- Data of whatever kind. -/
theorem Cod.own.ins {α : Type} {c : Cod α} {w : World} {B : Nat} {a : α} {us : List Value} {fp : List Nat} (h : c.own w B a us fp) : ∀ k, k ∈ fp → B ≤ k ∧ k < w.heap.size := c.ins h
theorem Cod.own.win {α : Type} {c : Cod α} {w : World} {B lo hi : Nat} {a : α} {us : List Value} {fp : List Nat} (h : c.own w B a us fp) (ht : hi ≤ w.heap.size) (hin : ∀ k, k ∈ fp → lo ≤ k ∧ k < hi) : Win (fun w => c.own w B a us fp) lo hi w :=
  ⟨h, ht, fun _ hs => c.fr h fun k hk => hs k (hin k hk).1 (hin k hk).2⟩
/-- A local's cells. -/
theorem Has.win {w : World} {b : Nat} {v : Value} {vs : List Value} (h : Has w b (v :: vs)) : Win (fun w => Has w b (v :: vs)) b (b + 1) w :=
  ⟨h, h.lt, fun _ hs i u hu => by
    rw [World.cell?_of_block (a := ⟨b, i, none⟩) (hs b (Nat.le_refl _) (Nat.lt_succ_self _))]
    exact h i u hu⟩
end Go.Proofs.YtgjmhlolbjmibaaDoor
