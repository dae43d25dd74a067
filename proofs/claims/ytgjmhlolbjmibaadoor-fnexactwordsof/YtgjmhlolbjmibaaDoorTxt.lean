/- Lists of texts in memory: 'RdX': a slice of strings that can be read; 'OwnX': one that lies in a row of its own, from block B on. What keeps them. A text cut at a byte (cutL), and its words (wordsL). No conditions but those in each line. -/
import Derived.Test.YtgjmhlolbjmibaaDoorBytes
import Derived.Test.YtgjmhlolbjmibaaDoorStr
namespace Go.Proofs.YtgjmhlolbjmibaaDoor
open Go.RowKit

def txtV (z : List UInt8) : Value := .string (strB z)
def atX (l : List (List UInt8)) (i : Nat) : List UInt8 := l.getD i []
theorem atX_get {l : List (List UInt8)} {i : Nat} (h : i < l.length) : atX l i = l[i] := by simp [atX, h]
theorem txtV_at {l : List (List UInt8)} {i : Nat} (h : i < l.length) : (l.map txtV)[i]? = some (.string (strB (atX l i))) := by simp [txtV, atX, h]

def RdX (w : World) (a : Option Addr) (cap : Nat) (l : List (List UInt8)) : Prop :=
  l.length ≤ cap ∧ cap ≤ maxLen ∧ (a = none → cap = 0) ∧ (0 < l.length → ∃ b o, a = some ⟨b, o, none⟩ ∧ ∀ i, i < l.length → w.cell? ⟨b, o + i, none⟩ = some (.string (strB (atX l i))))

def OwnX (w : World) (B : Nat) (v : Value) (l : List (List UInt8)) : Prop := w.ownsRow B 9 1 v l.length (l.map txtV)

theorem OwnX.rd {w : World} {B : Nat} {v : Value} {l : List (List UInt8)} (h : OwnX w B v l) : ∃ a cap, v = .slice a l.length cap ∧ RdX w a cap l := by
  have h0 := h
  rcases h.2 with ⟨rfl, hn⟩ | ⟨g, cap, cur, rfl, hb, hg, hle, hm, hs, ht⟩
  · exact ⟨none, 0, by rw [hn], by omega, by simp [maxLen], fun _ => rfl, fun hp => by omega⟩
  · refine ⟨_, cap, rfl, hle, hm, fun hh => by simp at hh, fun _ => ⟨g, 0, rfl, fun i hi => ?_⟩⟩
    have := World.ownsRow.cellAt h0 i (by omega)
    rw [Nat.zero_add, this, txtV_at hi]

theorem RdX.keep {w w' : World} {a : Option Addr} {cap : Nat} {l : List (List UInt8)} (h : RdX w a cap l) (hb : Below w.heap.size w w') : RdX w' a cap l := by
  obtain ⟨h1, h2, h3, h4⟩ := h
  refine ⟨h1, h2, h3, fun hp => ?_⟩
  obtain ⟨b, o, rfl, hc⟩ := h4 hp
  refine ⟨b, o, rfl, fun i hi => ?_⟩
  have hi' := hc i hi
  rw [hb.cell (p := ⟨b, o + i, none⟩) (World.block_lt_of_cell? w _ hi'), hi']

theorem OwnX.keep {w w' : World} {B N : Nat} {v : Value} {l : List (List UInt8)} (h : OwnX w B v l) (hb : Below N w w') (hn : ∀ k, v.ownBlock = some k → k < N) : OwnX w' B v l := by
  obtain ⟨h1, h2⟩ := h
  refine ⟨h1, ?_⟩
  rcases h2 with h2 | ⟨g, cap, cur, rfl, hg, hh, r⟩
  · exact .inl h2
  · exact .inr ⟨g, cap, cur, rfl, hg, (hb.block g (hn g rfl)).trans hh, r⟩

theorem OwnX.stay {w w' : World} {B : Nat} {v : Value} {l : List (List UInt8)} (h : OwnX w B v l) (hb : Below w.heap.size w w') : OwnX w' B v l :=
  h.keep hb (fun k hk => (World.ownsRow.lt h k hk).2)

theorem OwnX.set {w : World} {B : Nat} {v : Value} {l : List (List UInt8)} (h : OwnX w B v l) {a : Addr} (ha : a.block < B) (u : Value) : OwnX (w.setCell a u) B v l :=
  ownsRow_setCell_below h ha u

theorem OwnX.lower {w : World} {B B' : Nat} {v : Value} {l : List (List UInt8)} (h : OwnX w B v l) (hb : B' ≤ B) : OwnX w B' v l := by
  obtain ⟨h1, h2⟩ := h
  refine ⟨h1, ?_⟩
  rcases h2 with h2 | ⟨g, cap, cur, rfl, hg, r⟩
  · exact .inl h2
  · exact .inr ⟨g, cap, cur, rfl, by omega, r⟩

theorem OwnX.lt {w : World} {B : Nat} {v : Value} {l : List (List UInt8)} (h : OwnX w B v l) : ∀ k, v.ownBlock = some k → k < w.heap.size := fun k hk => (World.ownsRow.lt h k hk).2
theorem OwnX.ge {w : World} {B : Nat} {v : Value} {l : List (List UInt8)} (h : OwnX w B v l) : ∀ k, v.ownBlock = some k → B ≤ k := fun k hk => (World.ownsRow.lt h k hk).1
theorem RdX.own {w : World} {B : Nat} {a : Option Addr} {n cap : Nat} {l : List (List UInt8)} (h : OwnX w B (.slice a n cap) l) : RdX w a cap l := by
  obtain ⟨a', cap', e, hr⟩ := h.rd
  simp only [Value.slice.injEq] at e
  obtain ⟨rfl, -, rfl⟩ := e
  exact hr
theorem OwnX.other {w w' : World} {B : Nat} {v : Value} {l : List (List UInt8)} {row : Option Nat} (h : OwnX w B v l) (hg : w.grownBy w' row) (hne : ∀ k, v.ownBlock = some k → row ≠ some k) : OwnX w' B v l := by
  obtain ⟨h1, h2⟩ := h
  refine ⟨h1, ?_⟩
  rcases h2 with h2 | ⟨g, cap, cur, rfl, hb, hh, r⟩
  · exact .inl h2
  · exact .inr ⟨g, cap, cur, rfl, hb, (hg.block g (Array.getElem?_eq_some_iff.1 hh).1 (fun e => hne g rfl e.symm)).trans hh, r⟩
theorem OwnX_nil (w : World) (B : Nat) : OwnX w B (.slice none 0 0) [] := World.ownsRow_nil _ _ _ _

/-- The text of a mark: m and its digits. -/
def dgt (k : Nat) : List UInt8 := if _h : k = 0 then [] else dgt (k / 10) ++ [UInt8.ofNat (48 + k % 10)]
termination_by k
decreasing_by omega
theorem dgt_zero : dgt 0 = [] := by rw [dgt]; rfl
theorem dgt_pos {k : Nat} (h : k ≠ 0) : dgt k = dgt (k / 10) ++ [UInt8.ofNat (48 + k % 10)] := by rw [dgt, dif_neg h]
theorem dgt_len : ∀ n k : Nat, k < 10 ^ n → (dgt k).length ≤ n := by
  intro n
  induction n with
  | zero => intro k h; have : k = 0 := by omega
            subst this; rw [dgt_zero]; exact Nat.le_refl _
  | succ n ih =>
    intro k h
    by_cases hk : k = 0
    · subst hk; rw [dgt_zero]; exact Nat.zero_le _
    · rw [dgt_pos hk, List.length_append]
      have := ih (k / 10) (by rw [Nat.pow_succ] at h; omega)
      simp; omega
def markT (k : Nat) : List UInt8 := 109 :: dgt k
def marksX (k : Nat) (n : Nat) : List (List UInt8) := (List.range n).map (fun i : Nat => markT (k + i))
theorem marksX_len (k n : Nat) : (marksX k n).length = n := by simp [marksX]
theorem atX_marks {k n i : Nat} (h : i < n) : atX (marksX k n) i = markT (k + i) := by
  rw [atX_get (by rw [marksX_len]; exact h)]
  simp [marksX]
def markedX (l : List (List UInt8)) (k j : Nat) : List (List UInt8) := (marksX k l.length).take j ++ l.drop j
theorem markedX_len (l : List (List UInt8)) (k j : Nat) (h : j ≤ l.length) : (markedX l k j).length = l.length := by simp [markedX, marksX_len]; omega
theorem markedX_zero (l : List (List UInt8)) (k : Nat) : markedX l k 0 = l := by simp [markedX]
theorem markedX_all (l : List (List UInt8)) (k : Nat) : markedX l k l.length = marksX k l.length := by
  simp only [markedX, List.drop_length, List.append_nil]
  exact List.take_of_length_le (by rw [marksX_len]; exact Nat.le_refl _)
theorem markedX_set (l : List (List UInt8)) (k j : Nat) (h : j < l.length) : ((markedX l k j).map txtV).set j (.string (strB (markT (k + j)))) = (markedX l k (j + 1)).map txtV := by
  have hm : j < (marksX k l.length).length := by rw [marksX_len]; exact h
  have e : txtV (marksX k l.length)[j] = .string (strB (markT (k + j))) := by rw [← atX_marks h, atX_get hm]; rfl
  have hl : (((marksX k l.length).take j).map txtV).length = j := by simp [marksX_len]; omega
  unfold markedX
  rw [List.map_append, List.set_append_right _ _ (by omega), hl, Nat.sub_self, List.take_succ_eq_append_getElem hm, List.append_assoc, List.map_append]
  congr 1
  rw [List.drop_eq_getElem_cons h, List.map_cons, List.set_cons_zero, ← e]
  simp


/-- A text cut at a byte. -/
def cutL (c : UInt8) : List UInt8 → List (List UInt8)
  | [] => [[]]
  | b :: l => if b = c then [] :: cutL c l else match cutL c l with
    | [] => [[b]]
    | x :: xs => (b :: x) :: xs
theorem cutL_none (c : UInt8) : ∀ l : List UInt8, (∀ x ∈ l, x ≠ c) → cutL c l = [l]
  | [], _ => rfl
  | b :: l, h => by
    have h1 := cutL_none c l fun x hx => h x (List.mem_cons_of_mem _ hx)
    rw [cutL, if_neg (h b List.mem_cons_self), h1]
theorem cutL_at (c : UInt8) (r : List UInt8) : ∀ l : List UInt8, (∀ x ∈ l, x ≠ c) → cutL c (l ++ c :: r) = l :: cutL c r
  | [], _ => by rw [List.nil_append, cutL, if_pos rfl]
  | b :: l, h => by
    have h1 := cutL_at c r l fun x hx => h x (List.mem_cons_of_mem _ hx)
    rw [List.cons_append, cutL, if_neg (h b List.mem_cons_self), h1]
theorem cutL_pos (c : UInt8) (l : List UInt8) : 0 < (cutL c l).length := by
  cases l with
  | nil => exact Nat.one_pos
  | cons b l =>
    rw [cutL]
    split
    · simp
    · split <;> simp
theorem cutL_len (c : UInt8) : ∀ l : List UInt8, (cutL c l).length ≤ l.length + 1
  | [] => Nat.le_refl _
  | b :: l => by
    have := cutL_len c l
    rw [cutL]
    split
    · simp; omega
    · split
      · simp
      · next h => rw [h] at this; simp at this ⊢; omega
theorem cutL_size (c : UInt8) : ∀ l : List UInt8, ∀ x ∈ cutL c l, x.length ≤ l.length
  | [], x, h => by simp [cutL] at h; subst h; exact Nat.le_refl _
  | b :: l, x, h => by
    have ih := cutL_size c l
    rw [cutL] at h
    split at h
    · rcases List.mem_cons.1 h with rfl | h
      · simp
      · have := ih x h; simp; omega
    · split at h
      · simp at h; subst h; simp
      · next y ys e =>
        rw [e] at ih
        rcases List.mem_cons.1 h with rfl | h
        · have := ih y List.mem_cons_self; simp; omega
        · have := ih x (List.mem_cons_of_mem _ h); simp; omega
/-- The pieces that are not empty. -/
def wordsL (l : List UInt8) : List (List UInt8) := (cutL 32 l).filter (fun x => !x.isEmpty)
theorem wordsL_len (l : List UInt8) : (wordsL l).length ≤ l.length + 1 := Nat.le_trans (List.length_filter_le _ _) (cutL_len _ _)
end Go.Proofs.YtgjmhlolbjmibaaDoor
