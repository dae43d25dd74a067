/- An end on its way from stage to stage, as the program keeps it (impl.shake): its cells, what can be read from them, what it sends. No program in it. -/
import Derived.Test.YtiabacnmmojfjaaShkO
import Derived.Test.YtiabacnmmojfjaaJoint16
import Derived.Test.YtiabacnmmojfjaaCat
namespace Go.Proofs.Ytiabacnmmojfjaa
open Go.ChangeShapes Go.WideShapes Go.ChangeAt Go.RowKit

/-- An end on its way: the end, what it heard, what it sends, the other one's hello, the secret. -/
structure ShkD where
  e : EndD
  heard : List MsgD
  send : List MsgD
  other : HelloD
  secret : List UInt8
theorem sideC_mono : sideC.Mono := prodC_mono (intC_mono _) (prodC_mono bytC_mono (prodC_mono (intC_mono _) bytC_mono))
theorem secretsC_mono : secretsC.Mono := prodC_mono bytC_mono (prodC_mono bytC_mono (prodC_mono bytC_mono bytC_mono))
theorem endC_mono : endC.Mono := prodC_mono sideC_mono (prodC_mono (intC_mono _) (prodC_mono (intC_mono _) (prodC_mono msgsC_mono (prodC_mono bytC_mono secretsC_mono))))
theorem helloC_mono : helloC.Mono := prodC_mono bytC_mono (prodC_mono (intC_mono _) (intC_mono _))
/-- What is struck out: the end's own block, and the row of what it sends. -/
def hide (b : Nat) (vs : Value) : List Nat := b :: vs.ownBlock.toList
/-- Its block holds these cells; it was made ahead of w0, all else of which stands; what it sends is its own. -/
structure ShkB (w0 : World) (b : Nat) (w : World) (vs : Value) (send : List MsgD) (xs : List Value) (f : List Nat) (row : List Value) : Prop where
  arr : Arr w b 81 row
  only : Only [b] w0 w
  lt : b < w0.heap.size
  own : OwnL 67 msgC w w0.heap.size vs send xs f
def Shk (w0 : World) (b : Nat) (w : World) (t : ShkD) : Prop :=
  ∃ us vh vs ho vk xs f, ShkB w0 b w vs t.send xs f (us ++ ([vh, vs] ++ (ho ++ [vk]))) ∧ endC.rep (blank (hide b vs) w) t.e us ∧ msgsC.rep (blank (hide b vs) w) t.heard [vh] ∧ helloC.rep (blank (hide b vs) w) t.other ho ∧ bytC.rep (blank (hide b vs) w) t.secret [vk]
section
variable {w0 w w' : World} {b : Nat} {vs : Value} {send : List MsgD} {xs : List Value} {f : List Nat} {row : List Value} {t : ShkD}
theorem ShkB.b_out (h : ShkB w0 b w vs send xs f row) : ∀ k, k ∈ vs.ownBlock.toList ++ f → k ≠ b := fun k hk e => by have := (h.own.ins k hk).1; have := h.lt; omega
theorem ShkB.stay (h : ShkB w0 b w vs send xs f row) (hb : Below w.heap.size w w') : ShkB w0 b w' vs send xs f row :=
  ⟨h.arr.stay hb, h.only.trans (Only.below hb), h.lt, h.own.stay hb⟩
theorem only_set (b i : Nat) (v : Value) (w : World) : Only [b] w (w.setCell ⟨b, i, none⟩ v) :=
  ⟨rfl, rfl, rfl, by rw [World.size_setCell]; exact Nat.le_refl _, fun k _ hn => heap_setCell_other w ⟨b, i, none⟩ k v (fun e => hn (by rw [e]; exact List.mem_singleton.2 rfl))⟩
theorem ShkB.set (h : ShkB w0 b w vs send xs f row) (i : Nat) (v : Value) : ShkB w0 b (w.setCell ⟨b, i, none⟩ v) vs send xs f (row.set i v) :=
  ⟨h.arr.set i v, h.only.trans (only_set b i v w), h.lt, h.own.fr fun k hk => heap_setCell_other w ⟨b, i, none⟩ k v (h.b_out k hk)⟩
theorem sees_set (b i : Nat) (v : Value) (w : World) (vs : Value) : Sees (blank (hide b vs) w) (blank (hide b vs) (w.setCell ⟨b, i, none⟩ v)) :=
  blank_sees fun k _ hn => ⟨hn, heap_setCell_other w ⟨b, i, none⟩ k v (fun e => hn (by rw [e]; exact List.mem_cons_self ..))⟩
/-- What was there ahead of the end's own block is left. -/
theorem Only.under {fp : List Nat} {a w0 w : World} (h : Below a.heap.size a w0) (hf : ∀ k, k ∈ fp → a.heap.size ≤ k) (k : Only fp w0 w) : Below a.heap.size a w := Below.only h k hf
theorem Shk.stay (h : Shk w0 b w t) (hb : Below w.heap.size w w') : Shk w0 b w' t := by
  obtain ⟨us, vh, vs, ho, vk, xs, f, hB, h1, h2, h3, h4⟩ := h
  have hs := blank_below (S := hide b vs) hb
  exact ⟨us, vh, vs, ho, vk, xs, f, hB.stay hb, endC_mono hs h1, msgsC_mono hs h2, helloC_mono hs h3, bytC_mono hs h4⟩
theorem Shk.only (h : Shk w0 b w t) : Only [b] w0 w := by
  obtain ⟨us, vh, vs, ho, vk, xs, f, hB, -⟩ := h
  exact hB.only
/-- The same, what it sends by name. -/
def ShkV (w0 : World) (b : Nat) (w : World) (t : ShkD) (vs : Value) (f : List Nat) : Prop :=
  ∃ us vh ho vk xs, ShkB w0 b w vs t.send xs f (us ++ ([vh, vs] ++ (ho ++ [vk]))) ∧ endC.rep (blank (hide b vs) w) t.e us ∧ msgsC.rep (blank (hide b vs) w) t.heard [vh] ∧ helloC.rep (blank (hide b vs) w) t.other ho ∧ bytC.rep (blank (hide b vs) w) t.secret [vk]
theorem Shk.v (h : Shk w0 b w t) : ∃ vs f, ShkV w0 b w t vs f := by
  obtain ⟨us, vh, vs, ho, vk, xs, f, h1⟩ := h
  exact ⟨vs, f, us, vh, ho, vk, xs, h1⟩
theorem ShkV.shk (h : ShkV w0 b w t vs f) : Shk w0 b w t := by
  obtain ⟨us, vh, ho, vk, xs, h1⟩ := h
  exact ⟨us, vh, vs, ho, vk, xs, f, h1⟩
theorem ShkV.stay (h : ShkV w0 b w t vs f) (hb : Below w.heap.size w w') : ShkV w0 b w' t vs f := by
  obtain ⟨us, vh, ho, vk, xs, hB, h1, h2, h3, h4⟩ := h
  have hs := blank_below (S := hide b vs) hb
  exact ⟨us, vh, ho, vk, xs, hB.stay hb, endC_mono hs h1, msgsC_mono hs h2, helloC_mono hs h3, bytC_mono hs h4⟩
theorem ShkV.ins (h : ShkV w0 b w t vs f) : ∀ k, k ∈ vs.ownBlock.toList ++ f → w0.heap.size ≤ k ∧ k < w.heap.size := by
  obtain ⟨us, vh, ho, vk, xs, hB, -⟩ := h
  exact hB.own.ins
theorem ShkV.blt (h : ShkV w0 b w t vs f) : b < w0.heap.size ∧ w0.heap.size ≤ w.heap.size := by
  obtain ⟨us, vh, ho, vk, xs, hB, -⟩ := h
  exact ⟨hB.lt, hB.only.size⟩
theorem ShkV.hid (h : ShkV w0 b w t vs f) : ∀ k, k ∈ hide b vs → k < w.heap.size := fun k hk => by
  rcases List.mem_cons.1 hk with rfl | h1
  · have := h.blt; omega
  · exact (h.ins k (List.mem_append_left _ h1)).2
/-- A row that is new can be read aside of the struck blocks. -/
theorem ownsRow_blank {B : Nat} {e : TypeId} {z n : Nat} {v : Value} {ys : List Value} {S : List Nat} (h : w.ownsRow B e z v n ys) (hS : ∀ k, k ∈ S → k < B) : (blank S w).ownsRow B e z v n ys :=
  ownsRow_fr h fun k hk => blank_out fun hm => by have := hS k hm; have := (World.ownsRow.lt h k hk).1; omega
theorem raw_arr {g z : Nat} {T : TypeId} {ys : List Value} (A : Arr w g T ys) (hz : ys.length = z) : Raw w (some ⟨g, 0, none⟩) 1 1 z ys :=
  ⟨by omega, Nat.le_refl _, by unfold maxLen; omega, (fun e => by cases e), fun _ => ⟨g, 0, rfl, fun j u hj => by rw [Nat.zero_add, A.cell j]; exact hj⟩⟩
def eL (e : EndD) (l : List MsgD) : EndD := (e.1, e.2.1, e.2.2.1, l, e.2.2.2.2.1, e.2.2.2.2.2)
def eSt (e : EndD) (k : Int) : EndD := (e.1, k, e.2.2.1, e.2.2.2.1, e.2.2.2.2.1, e.2.2.2.2.2)
def eMo (e : EndD) (k : Int) : EndD := (e.1, e.2.1, k, e.2.2.2.1, e.2.2.2.2.1, e.2.2.2.2.2)
def eBa (e : EndD) (x : List UInt8) : EndD := (e.1, e.2.1, e.2.2.1, e.2.2.2.1, x, e.2.2.2.2.2)
def eSe (e : EndD) (x : SecretsD) : EndD := (e.1, e.2.1, e.2.2.1, e.2.2.2.1, e.2.2.2.2.1, x)
/-- A world that can be read aside of the end is one of the worlds behind. -/
theorem Shk.open (h : Shk w0 b w t) : ∃ us vh vs ho vk xs f, ShkB w0 b w vs t.send xs f (us ++ ([vh, vs] ++ (ho ++ [vk]))) ∧ endC.rep (blank (hide b vs) w) t.e us ∧ msgsC.rep (blank (hide b vs) w) t.heard [vh] ∧ helloC.rep (blank (hide b vs) w) t.other ho ∧ bytC.rep (blank (hide b vs) w) t.secret [vk] := h
end
end Go.Proofs.Ytiabacnmmojfjaa

