/- Memory in which some blocks are struck out ('blank'), with no program in it: what can be read there can be read whatever is written into those blocks. No conditions but those in each line. -/
import Derived.Test.YtflhoefocjmihaaCod
namespace Go.Proofs.Ytflhoefocjmihaa
open Go.RowKit

/-- All that can be read here can be read there. -/
def Sees (w w' : World) : Prop := ∀ p v, w.cell? p = some v → w'.cell? p = some v
theorem Sees.refl (w : World) : Sees w w := fun _ _ h => h
theorem Sees.trans {a b c : World} (h : Sees a b) (k : Sees b c) : Sees a c := fun p v e => k p v (h p v e)
theorem Sees.of_below {w w' : World} (h : Below w.heap.size w w') : Sees w w' := fun _ _ e => cell_keep e h

/-- Some blocks are struck out. -/
def blank (S : List Nat) (w : World) : World := { w with heap := w.heap.mapIdx fun k o => if k ∈ S then .cells #[] 0 (0, 0) else o }
theorem blank_size (S : List Nat) (w : World) : (blank S w).heap.size = w.heap.size := by simp [blank]
theorem blank_out {S : List Nat} {w : World} {k : Nat} (h : k ∉ S) : (blank S w).heap[k]? = w.heap[k]? := by
  simp only [blank, Array.getElem?_mapIdx, if_neg h]
  cases w.heap[k]? <;> rfl
theorem blank_in {S : List Nat} {w : World} {k o : Nat} {v : Value} {s : Option Nat} (h : k ∈ S) : ¬ (blank S w).cell? ⟨k, o, s⟩ = some v := by
  intro e
  simp only [World.cell?, blank, Array.getElem?_mapIdx, if_pos h] at e
  cases hw : w.heap[k]? with
  | none => rw [hw] at e; simp at e
  | some x => rw [hw] at e; cases s <;> simp at e
theorem blank_cell {S : List Nat} {w : World} {p : Addr} {v : Value} (h : (blank S w).cell? p = some v) : p.block ∉ S ∧ w.cell? p = some v := by
  have hn : p.block ∉ S := fun hm => blank_in (o := p.off) (s := p.spot) hm h
  exact ⟨hn, by rw [← h]; exact (World.cell?_of_block (w := w) (w' := blank S w) (a := p) (blank_out hn)).symm⟩
theorem cell_blank {S : List Nat} {w : World} {p : Addr} {v : Value} (h : w.cell? p = some v) (hn : p.block ∉ S) : (blank S w).cell? p = some v :=
  (World.cell?_of_block (w := w) (w' := blank S w) (a := p) (blank_out hn)).trans h
theorem blank_le (S : List Nat) (w : World) : Sees (blank S w) w := fun _ _ h => (blank_cell h).2
/-- What is read aside of the struck blocks stays, where no other block turns. -/
theorem blank_sees {S S' : List Nat} {w w' : World} (h : ∀ k, k < w.heap.size → k ∉ S → k ∉ S' ∧ w'.heap[k]? = w.heap[k]?) : Sees (blank S w) (blank S' w') := fun p v e => by
  obtain ⟨h1, h2⟩ := blank_cell e
  obtain ⟨h3, h4⟩ := h p.block (World.block_lt_of_cell? w _ h2) h1
  exact cell_blank ((World.cell?_of_block (w := w) (a := p) h4).trans h2) h3
theorem blank_only {S : List Nat} {w w' : World} (h : Only S w w') : Sees (blank S w) (blank S w') := blank_sees fun k hk hn => ⟨hn, h.block k hk hn⟩
theorem blank_below {S : List Nat} {w w' : World} (h : Below w.heap.size w w') : Sees (blank S w) (blank S w') := blank_sees fun k hk hn => ⟨hn, h.block k hk⟩
theorem Cod.blanked {α : Type} (c : Cod α) {S : List Nat} {w : World} {B : Nat} {a : α} {vs : List Value} {fp : List Nat} (h : c.own w B a vs fp) (hd : ∀ k, k ∈ fp → k ∉ S) : c.rep (blank S w) a vs :=
  c.toRep (c.fr h fun k hk => blank_out (hd k hk))

theorem Rd.sees {w w' : World} {a : Option Addr} {cap : Nat} {bs : List UInt8} (h : Rd w a cap bs) (hs : Sees w w') : Rd w' a cap bs := by
  obtain ⟨h1, h2, h3, h4⟩ := h
  refine ⟨h1, h2, h3, fun hp => ?_⟩
  obtain ⟨b, o, rfl, hc⟩ := h4 hp
  exact ⟨b, o, rfl, fun i hi => hs _ _ (hc i hi)⟩
/-- Data that hang on what can be read alone. -/
def Cod.Mono {α : Type} (c : Cod α) : Prop := ∀ {w w' : World} {a : α} {vs : List Value}, Sees w w' → c.rep w a vs → c.rep w' a vs
theorem intC_mono (k : IntKind) : (intC k).Mono := fun _ h => h
theorem bytC_mono : bytC.Mono := fun hs ⟨p, q, h, r⟩ => ⟨p, q, h, r.sees hs⟩
theorem prodC_mono {α β : Type} {c : Cod α} {d : Cod β} (hc : c.Mono) (hd : d.Mono) : (prodC c d).Mono := fun hs ⟨us, ts, h, h1, h2⟩ => ⟨us, ts, h, hc hs h1, hd hs h2⟩
theorem RdL.sees {α : Type} {c : Cod α} (hc : c.Mono) {w w' : World} {p : Option Addr} {q : Nat} {l : List α} (h : RdL c w p q l) (hs : Sees w w') : RdL c w' p q l := by
  obtain ⟨h1, h2, h3, h4⟩ := h
  refine ⟨h1, h2, h3, fun hp => ?_⟩
  obtain ⟨b, o, rfl, hi⟩ := h4 hp
  refine ⟨b, o, rfl, fun i a ha => ?_⟩
  obtain ⟨us, hr, hu⟩ := hi i a ha
  exact ⟨us, hc hs hr, fun j u hj => hs _ _ (hu j u hj)⟩
theorem listC_mono {α : Type} {e : TypeId} {c : Cod α} (hc : c.Mono) : (listC e c).Mono := fun hs ⟨p, q, h, r⟩ => ⟨p, q, h, r.sees hc hs⟩
/-- What is read in blocks below B stays where these blocks stay. -/
theorem Sees.below_of {B : Nat} {W w : World} (hB : B = W.heap.size) (h : Below B W w) (S : List Nat) (hS : ∀ k, k ∈ S → B ≤ k) : Sees W (blank S w) := fun p v e => by
  have hl := World.block_lt_of_cell? W _ e
  exact cell_blank ((World.cell?_of_block (w := W) (a := p) (h.block p.block (by omega))).trans e) (fun hm => by have := hS _ hm; omega)
end Go.Proofs.Ytflhoefocjmihaa

