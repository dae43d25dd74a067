/- The source of the draws in memory, with no program in it: a block that holds a code and a count; what keeps it. -/
import Derived.Test.YthfjnmkplifcmaaBytes
namespace Go.Proofs.Ythfjnmkplifcmaa
open Go.RowKit

structure Src (w : World) (b : Nat) (p : Option Addr) (q : Nat) (cs : List UInt8) (n : Int) : Prop where
  loc : Loc w b [.slice p cs.length q, .int .i64 n]
  rd : Rd w p q cs
  apart : 0 < cs.length → ∀ x, p = some x → x.block < b

theorem Src.lt {w : World} {b : Nat} {p : Option Addr} {q : Nat} {cs : List UInt8} {n : Int} (h : Src w b p q cs n) : b < w.heap.size := h.loc.1.lt

theorem Rd.set {w : World} {a : Option Addr} {cap : Nat} {bs : List UInt8} (h : Rd w a cap bs) {x : Addr} (hne : 0 < bs.length → ∀ y, a = some y → y.block ≠ x.block) (u : Value) : Rd (w.setCell x u) a cap bs := by
  obtain ⟨h1, h2, h3, h4⟩ := h
  refine ⟨h1, h2, h3, fun hp => ?_⟩
  obtain ⟨b, o, rfl, hc⟩ := h4 hp
  refine ⟨b, o, rfl, fun i hi => ?_⟩
  have e : (w.setCell x u).heap[b]? = w.heap[b]? := Below.heap_setCell _ _ _ _ (hne hp _ rfl)
  rw [World.cell?_of_block (w := w) (a := ⟨b, o + i, none⟩) e, hc i hi]

theorem Rd.other {w w' : World} {a : Option Addr} {cap : Nat} {bs : List UInt8} {row : Option Nat} (h : Rd w a cap bs) (hg : w.grownBy w' row) (hne : 0 < bs.length → ∀ y, a = some y → row ≠ some y.block) : Rd w' a cap bs := by
  obtain ⟨h1, h2, h3, h4⟩ := h
  refine ⟨h1, h2, h3, fun hp => ?_⟩
  obtain ⟨b, o, rfl, hc⟩ := h4 hp
  exact ⟨b, o, rfl, fun i hi => cell_other (hc i hi) hg (hne hp ⟨b, o, none⟩ rfl)⟩

theorem Src.next {w : World} {b : Nat} {p : Option Addr} {q : Nat} {cs : List UInt8} {n : Int} (h : Src w b p q cs n) (m : Int) : Src (w.setCell ⟨b, 1, none⟩ (.int .i64 m)) b p q cs m :=
  ⟨h.loc.set1 _, h.rd.set (fun hp y hy e => by have := h.apart hp y hy; simp at e; omega) _, h.apart⟩

theorem grownBy_set (w : World) (b o : Nat) (u : Value) : w.grownBy (w.setCell ⟨b, o, none⟩ u) (some b) :=
  ⟨rfl, rfl, rfl, by simp [World.setCell], fun k _ hk => Below.heap_setCell _ _ _ _ (fun e => hk (by rw [e]))⟩
theorem grownBy_drewN (w : World) (n : Nat) (row : Option Nat) : w.grownBy (w.drewN n) row := ⟨rfl, rfl, rfl, Nat.le_refl _, fun _ _ _ => rfl⟩

theorem Src.drewN {w : World} {b : Nat} {p : Option Addr} {q : Nat} {cs : List UInt8} {n : Int} (h : Src w b p q cs n) (k : Nat) : Src (w.drewN k) b p q cs n := ⟨h.loc, h.rd, h.apart⟩

theorem Src.keep {w w' : World} {b : Nat} {p : Option Addr} {q : Nat} {cs : List UInt8} {n : Int} (h : Src w b p q cs n) (hb : Below w.heap.size w w') : Src w' b p q cs n :=
  ⟨h.loc.keep hb h.lt, h.rd.keep hb, h.apart⟩

/-- A list of numbers that was just laid. -/
theorem new_ints (w : World) (c : Array Value) (t : TypeId) (xs : List Int) (h : c.toList = xs.map (Value.int .i64)) :
    ∀ i, i < xs.length → (w.alloc (.cells c t)).cell? ⟨w.heap.size, i, none⟩ = some (.int .i64 (xs.getD i 0)) := fun i hi => by
  rw [World.cell?_alloc_new]
  have e : c[i]? = c.toList[i]? := by simp
  rw [e, h]
  simp [hi]

end Go.Proofs.Ythfjnmkplifcmaa

