/- Whole numbers (int64) in memory, with no program in it: 'RdI': a slice of int64 that can be read; 'OwnI': one that lies in a row of its own, from block B on. What keeps them. No conditions but those in each line. -/
import Derived.Test.YtgjmhlolbjmibaaDoorBytes
namespace Go.Proofs.YtgjmhlolbjmibaaDoor
open Go.RowKit

def i64z (z : Int) : Value := .int .i64 z
def atI (l : List Int) (i : Nat) : Int := l.getD i 0
theorem atI_get {l : List Int} {i : Nat} (h : i < l.length) : atI l i = l[i] := by simp [atI, h]
theorem i64z_at {l : List Int} {i : Nat} (h : i < l.length) : (l.map i64z)[i]? = some (.int .i64 (atI l i)) := by simp [i64z, atI, h]

def RdI (w : World) (a : Option Addr) (cap : Nat) (l : List Int) : Prop :=
  l.length ≤ cap ∧ cap ≤ maxLen ∧ (a = none → cap = 0) ∧ (0 < l.length → ∃ b o, a = some ⟨b, o, none⟩ ∧ ∀ i, i < l.length → w.cell? ⟨b, o + i, none⟩ = some (.int .i64 (atI l i)))

def OwnI (w : World) (B : Nat) (v : Value) (l : List Int) : Prop := w.ownsRow B 2 1 v l.length (l.map i64z)

theorem OwnI.rd {w : World} {B : Nat} {v : Value} {l : List Int} (h : OwnI w B v l) : ∃ a cap, v = .slice a l.length cap ∧ RdI w a cap l := by
  have h0 := h
  rcases h.2 with ⟨rfl, hn⟩ | ⟨g, cap, cur, rfl, hb, hg, hle, hm, hs, ht⟩
  · exact ⟨none, 0, by rw [hn], by omega, by simp [maxLen], fun _ => rfl, fun hp => by omega⟩
  · refine ⟨_, cap, rfl, hle, hm, fun hh => by simp at hh, fun _ => ⟨g, 0, rfl, fun i hi => ?_⟩⟩
    have := World.ownsRow.cellAt h0 i (by omega)
    rw [Nat.zero_add, this, i64z_at hi]

theorem RdI.keep {w w' : World} {a : Option Addr} {cap : Nat} {l : List Int} (h : RdI w a cap l) (hb : Below w.heap.size w w') : RdI w' a cap l := by
  obtain ⟨h1, h2, h3, h4⟩ := h
  refine ⟨h1, h2, h3, fun hp => ?_⟩
  obtain ⟨b, o, rfl, hc⟩ := h4 hp
  refine ⟨b, o, rfl, fun i hi => ?_⟩
  have hi' := hc i hi
  rw [hb.cell (p := ⟨b, o + i, none⟩) (World.block_lt_of_cell? w _ hi'), hi']

theorem OwnI.keep {w w' : World} {B N : Nat} {v : Value} {l : List Int} (h : OwnI w B v l) (hb : Below N w w') (hn : ∀ k, v.ownBlock = some k → k < N) : OwnI w' B v l := by
  obtain ⟨h1, h2⟩ := h
  refine ⟨h1, ?_⟩
  rcases h2 with h2 | ⟨g, cap, cur, rfl, hg, hh, r⟩
  · exact .inl h2
  · exact .inr ⟨g, cap, cur, rfl, hg, (hb.block g (hn g rfl)).trans hh, r⟩

theorem OwnI.stay {w w' : World} {B : Nat} {v : Value} {l : List Int} (h : OwnI w B v l) (hb : Below w.heap.size w w') : OwnI w' B v l :=
  h.keep hb (fun k hk => (World.ownsRow.lt h k hk).2)

theorem OwnI.set {w : World} {B : Nat} {v : Value} {l : List Int} (h : OwnI w B v l) {a : Addr} (ha : a.block < B) (u : Value) : OwnI (w.setCell a u) B v l :=
  ownsRow_setCell_below h ha u

theorem OwnI.lower {w : World} {B B' : Nat} {v : Value} {l : List Int} (h : OwnI w B v l) (hb : B' ≤ B) : OwnI w B' v l := by
  obtain ⟨h1, h2⟩ := h
  refine ⟨h1, ?_⟩
  rcases h2 with h2 | ⟨g, cap, cur, rfl, hg, r⟩
  · exact .inl h2
  · exact .inr ⟨g, cap, cur, rfl, by omega, r⟩

theorem OwnI.lt {w : World} {B : Nat} {v : Value} {l : List Int} (h : OwnI w B v l) : ∀ k, v.ownBlock = some k → k < w.heap.size := fun k hk => (World.ownsRow.lt h k hk).2
theorem OwnI.ge {w : World} {B : Nat} {v : Value} {l : List Int} (h : OwnI w B v l) : ∀ k, v.ownBlock = some k → B ≤ k := fun k hk => (World.ownsRow.lt h k hk).1
theorem RdI.own {w : World} {B : Nat} {a : Option Addr} {n cap : Nat} {l : List Int} (h : OwnI w B (.slice a n cap) l) : RdI w a cap l := by
  obtain ⟨a', cap', e, hr⟩ := h.rd
  simp only [Value.slice.injEq] at e
  obtain ⟨rfl, -, rfl⟩ := e
  exact hr
theorem OwnI.other {w w' : World} {B : Nat} {v : Value} {l : List Int} {row : Option Nat} (h : OwnI w B v l) (hg : w.grownBy w' row) (hne : ∀ k, v.ownBlock = some k → row ≠ some k) : OwnI w' B v l := by
  obtain ⟨h1, h2⟩ := h
  refine ⟨h1, ?_⟩
  rcases h2 with h2 | ⟨g, cap, cur, rfl, hb, hh, r⟩
  · exact .inl h2
  · exact .inr ⟨g, cap, cur, rfl, hb, (hg.block g (Array.getElem?_eq_some_iff.1 hh).1 (fun e => hne g rfl e.symm)).trans hh, r⟩
theorem OwnI_nil (w : World) (B : Nat) : OwnI w B (.slice none 0 0) [] := World.ownsRow_nil _ _ _ _

def partI (l : List Int) (n k : Nat) : List Value := (l.take k).map i64z ++ List.replicate (n - k) (.int .i64 0)
theorem partI_zero (l : List Int) (n : Nat) : partI l n 0 = List.replicate n (.int .i64 0) := by simp [partI]
theorem partI_all (l : List Int) : partI l l.length l.length = l.map i64z := by simp [partI]
theorem partI_set (l : List Int) (k : Nat) (h : k < l.length) : (partI l l.length k).set k (.int .i64 (atI l k)) = partI l l.length (k + 1) := by
  have e : i64z l[k] = .int .i64 (atI l k) := by rw [atI_get h]; rfl
  have hl : ((l.take k).map i64z).length = k := by simp; omega
  unfold partI
  rw [List.set_append_right _ _ (by omega), hl, Nat.sub_self, List.take_succ_eq_append_getElem h, List.map_append, List.append_assoc]
  congr 1
  rw [show l.length - k = (l.length - (k + 1)) + 1 by omega, List.replicate_succ, List.set_cons_zero, ← e]
  rfl
theorem partI_at (l : List Int) (k : Nat) (h : k < l.length) : (partI l l.length k)[k]? = some (.int .i64 0) := by
  have hl : ((l.take k).map i64z).length = k := by simp; omega
  unfold partI
  rw [List.getElem?_append_right (by omega), hl, Nat.sub_self, List.getElem?_replicate, if_pos (by omega)]
theorem replicate_madeI (n : Nat) : (madeCells (Value.cells (.int .i64 0)) (n * 1)).toList = List.replicate n (.int .i64 0) := by
  rw [Nat.mul_one]; exact toList_madeCells_one _ n

/-- The marks that the laws lay: k, k + 1, .. -/
def marksI (k : Nat) (n : Nat) : List Int := (List.range n).map (fun i : Nat => (k : Int) + (i : Int))
theorem marksI_len (k n : Nat) : (marksI k n).length = n := by simp [marksI]
theorem atI_marks {k n i : Nat} (h : i < n) : atI (marksI k n) i = (k : Int) + i := by
  rw [atI_get (by rw [marksI_len]; exact h)]
  simp [marksI]
def markedI (l : List Int) (k j : Nat) : List Int := (marksI k l.length).take j ++ l.drop j
theorem markedI_len (l : List Int) (k j : Nat) (h : j ≤ l.length) : (markedI l k j).length = l.length := by simp [markedI, marksI_len]; omega
theorem markedI_zero (l : List Int) (k : Nat) : markedI l k 0 = l := by simp [markedI]
theorem markedI_all (l : List Int) (k : Nat) : markedI l k l.length = marksI k l.length := by
  simp only [markedI, List.drop_length, List.append_nil]
  exact List.take_of_length_le (by rw [marksI_len]; exact Nat.le_refl _)
theorem markedI_set (l : List Int) (k j : Nat) (h : j < l.length) : ((markedI l k j).map i64z).set j (.int .i64 ((k : Int) + j)) = (markedI l k (j + 1)).map i64z := by
  have hm : j < (marksI k l.length).length := by rw [marksI_len]; exact h
  have e : i64z (marksI k l.length)[j] = .int .i64 ((k : Int) + j) := by rw [← atI_marks h, atI_get hm]; rfl
  have hl : (((marksI k l.length).take j).map i64z).length = j := by simp [marksI_len]; omega
  unfold markedI
  rw [List.map_append, List.set_append_right _ _ (by omega), hl, Nat.sub_self, List.take_succ_eq_append_getElem hm, List.append_assoc, List.map_append]
  congr 1
  rw [List.drop_eq_getElem_cons h, List.map_cons, List.set_cons_zero, ← e]
  simp

/-- What the row's step tells of a slice of int64 that came in. -/
theorem rdI_of {w : World} {a : Option Addr} {len cap : Nat} {l : List Int} (h : (a = none ∧ len = 0 ∧ cap = 0 ∧ l = []) ∨
    ∃ x, a = some x ∧ len ≤ cap ∧ cap ≤ maxLen ∧ l.length = cap ∧ (∀ i, i < l.length → w.cell? (x.add i) = some (.int .i64 (l.getD i 0))) ∧ ∀ n ∈ l, (Lit.int .i64 n).wf = true) :
    ∃ bs : List Int, len = bs.length ∧ RdI w a cap bs := by
  rcases h with ⟨rfl, rfl, rfl, rfl⟩ | ⟨x, rfl, hl, hm, hz, hc, hw⟩
  · exact ⟨[], rfl, by simp, by simp [maxLen], fun _ => rfl, fun hp => by simp at hp⟩
  · refine ⟨l.take len, by simp; omega, by simp; omega, hm, fun hh => by simp at hh, fun hp => ?_⟩
    have hp' : 0 < l.length := by simp at hp; omega
    obtain ⟨b, o, rfl, hc'⟩ := ints_at hc hp'
    refine ⟨b, o, rfl, fun i hi => ?_⟩
    have hi' : i < len ∧ i < l.length := by simp at hi; omega
    rw [hc' i hi'.2, atI_get hi]
    simp [hi'.2]

end Go.Proofs.YtgjmhlolbjmibaaDoor
