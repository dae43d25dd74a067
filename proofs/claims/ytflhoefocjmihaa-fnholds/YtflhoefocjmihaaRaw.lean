/- The cells of a list in memory as they lie, with no program in it: 'Raw'; data that can be read in them: 'RepAll'. No conditions but those in each line. -/
import Derived.Test.YtflhoefocjmihaaView
namespace Go.Proofs.Ytflhoefocjmihaa
open Go.RowKit

/-- The cells of a slice of n elements of z cells each. -/
def Raw (w : World) (p : Option Addr) (q n z : Nat) (xs : List Value) : Prop :=
  xs.length = n * z ∧ n ≤ q ∧ q ≤ maxLen ∧ (p = none → q = 0) ∧ (0 < n → ∃ b o, p = some ⟨b, o, none⟩ ∧ ∀ j u, xs[j]? = some u → w.cell? ⟨b, o + j, none⟩ = some u)
/-- Data one behind the other. -/
def RepAll {α : Type} (c : Cod α) (w : World) : List α → List Value → Prop
  | [], xs => xs = []
  | a :: l, xs => ∃ us ys, xs = us ++ ys ∧ c.rep w a us ∧ RepAll c w l ys
theorem RepAll.len {α : Type} {c : Cod α} {w : World} : ∀ {l : List α} {xs : List Value}, RepAll c w l xs → xs.length = l.length * c.n
  | [], _, h => by rw [h]; simp
  | _ :: l, _, ⟨us, ys, hx, ho, hl⟩ => by rw [hx, List.length_append, c.len ho, RepAll.len hl, List.length_cons, Nat.add_mul, Nat.one_mul, Nat.add_comm]
theorem RepAll.one {α : Type} {c : Cod α} {w : World} : ∀ {l : List α} {xs : List Value}, RepAll c w l xs → ∀ u ∈ xs, u.oneCell' = true
  | [], _, h => fun u hu => by rw [h] at hu; cases hu
  | _ :: l, _, ⟨us, ys, hx, ho, hl⟩ => fun u hu => by
    rw [hx] at hu
    rcases List.mem_append.1 hu with h1 | h1
    · exact c.one ho u h1
    · exact RepAll.one hl u h1
theorem RepAll.sees {α : Type} {c : Cod α} (hc : c.Mono) {w w' : World} (hs : Sees w w') : ∀ {l : List α} {xs : List Value}, RepAll c w l xs → RepAll c w' l xs
  | [], _, h => h
  | _ :: _, _, ⟨us, ys, hx, ho, hl⟩ => ⟨us, ys, hx, hc hs ho, RepAll.sees hc hs hl⟩
theorem RepAll.append {α : Type} {c : Cod α} {w : World} : ∀ {l m : List α} {xs ys : List Value}, RepAll c w l xs → RepAll c w m ys → RepAll c w (l ++ m) (xs ++ ys)
  | [], _, _, _, h, k => by rw [h]; exact k
  | _ :: _, _, _, _, ⟨us, zs, hx, ho, hl⟩, k => ⟨us, zs ++ _, by rw [hx, List.append_assoc], ho, RepAll.append hl k⟩
theorem RepAll.single {α : Type} {c : Cod α} {w : World} {a : α} {us : List Value} (h : c.rep w a us) : RepAll c w [a] us := ⟨us, [], by simp, h, rfl⟩
theorem RepAll.at {α : Type} {c : Cod α} {w : World} : ∀ {l : List α} {xs : List Value}, RepAll c w l xs → ∀ i a, l[i]? = some a → ∃ us, c.rep w a us ∧ ∀ j u, us[j]? = some u → xs[i * c.n + j]? = some u
  | [], _, _ => fun i a hi => by simp at hi
  | b :: l, _, ⟨us, ys, hx, ho, hl⟩ => fun i a hi => by
    have hn := c.len ho
    match i, hi with
    | 0, hi =>
      simp at hi; subst hi
      refine ⟨us, ho, fun j u hj => ?_⟩
      rw [hx, Nat.zero_mul, Nat.zero_add, List.getElem?_append_left (List.getElem?_eq_some_iff.1 hj).1]; exact hj
    | i + 1, hi =>
      obtain ⟨ts, hr, ht⟩ := RepAll.at hl i a (by simpa using hi)
      refine ⟨ts, hr, fun j u hj => ?_⟩
      rw [hx, List.getElem?_append_right (by rw [hn, Nat.add_mul, Nat.one_mul]; omega), show (i + 1) * c.n + j - us.length = i * c.n + j by rw [hn, Nat.add_mul, Nat.one_mul]; omega]
      exact ht j u hj
theorem rep_cells {α : Type} {c : Cod α} {w : World} {b : Nat} : ∀ {l : List α} {o : Nat}, (∀ i a, l[i]? = some a → ∃ us, c.rep w a us ∧ ∀ j u, us[j]? = some u → w.cell? ⟨b, o + i * c.n + j, none⟩ = some u) → ∃ xs, RepAll c w l xs ∧ ∀ j u, xs[j]? = some u → w.cell? ⟨b, o + j, none⟩ = some u
  | [], _, _ => ⟨[], rfl, fun j u hj => by simp at hj⟩
  | a :: l, o, h => by
    obtain ⟨us, hr, hu⟩ := h 0 a rfl
    obtain ⟨ys, hy, hyu⟩ := rep_cells (l := l) (o := o + c.n) (fun i d hd => by
      obtain ⟨ts, h1, h2⟩ := h (i + 1) d (by simpa using hd)
      exact ⟨ts, h1, fun j u hj => by rw [show o + c.n + i * c.n + j = o + (i + 1) * c.n + j by rw [Nat.add_mul, Nat.one_mul]; omega]; exact h2 j u hj⟩)
    refine ⟨us ++ ys, ⟨us, ys, rfl, hr, hy⟩, fun j u hj => ?_⟩
    have hn := c.len hr
    by_cases hl : j < us.length
    · rw [List.getElem?_append_left hl] at hj
      have := hu j u hj
      rw [Nat.zero_mul, Nat.add_zero] at this
      exact this
    · rw [List.getElem?_append_right (by omega)] at hj
      have := hyu _ u hj
      rw [show o + j = o + c.n + (j - us.length) by omega]
      exact this
theorem RdL.raw {α : Type} {c : Cod α} {w : World} {p : Option Addr} {q : Nat} {l : List α} (h : RdL c w p q l) : ∃ xs, Raw w p q l.length c.n xs ∧ RepAll c w l xs := by
  obtain ⟨h1, h2, h3, h4⟩ := h
  by_cases h0 : 0 < l.length
  · obtain ⟨b, o, rfl, hc⟩ := h4 h0
    obtain ⟨xs, hr, hx⟩ := rep_cells hc
    exact ⟨xs, ⟨hr.len, h1, h2, h3, fun _ => ⟨b, o, rfl, hx⟩⟩, hr⟩
  · have hl : l = [] := List.eq_nil_of_length_eq_zero (by omega)
    subst hl
    exact ⟨[], ⟨by simp, h1, h2, h3, fun h => absurd h (by simp)⟩, rfl⟩
theorem Raw.rdL {α : Type} {c : Cod α} {w V : World} {p : Option Addr} {q : Nat} {l : List α} {xs : List Value} (h : Raw V p q l.length c.n xs) (hr : RepAll c V l xs) (hs : Sees V w) (hc : c.Mono) : RdL c w p q l := by
  obtain ⟨-, h1, h2, h3, h4⟩ := h
  refine ⟨h1, h2, h3, fun hp => ?_⟩
  obtain ⟨b, o, rfl, hx⟩ := h4 hp
  refine ⟨b, o, rfl, fun i a hi => ?_⟩
  obtain ⟨us, h5, h6⟩ := hr.at i a hi
  exact ⟨us, hc hs h5, fun j u hj => by rw [Nat.add_assoc]; exact hs _ _ (hx _ u (h6 j u hj))⟩
theorem Raw.sees {w w' : World} {p : Option Addr} {q n z : Nat} {xs : List Value} (h : Raw w p q n z xs) (hs : Sees w w') : Raw w' p q n z xs :=
  ⟨h.1, h.2.1, h.2.2.1, h.2.2.2.1, fun hp => by
    obtain ⟨b, o, e, hx⟩ := h.2.2.2.2 hp
    exact ⟨b, o, e, fun j u hj => hs _ _ (hx j u hj)⟩⟩
theorem Raw.keep {w w' : World} {p : Option Addr} {q n z : Nat} {xs : List Value} (h : Raw w p q n z xs) (hb : Below w.heap.size w w') : Raw w' p q n z xs := h.sees (Sees.of_below hb)
theorem ownsRow_raw {w : World} {B : Nat} {e : TypeId} {z n : Nat} {v : Value} {xs : List Value} (h : w.ownsRow B e z v n xs) : ∃ p q, v = .slice p n q ∧ Raw w p q n z xs := by
  have h0 := h
  rcases h.2 with ⟨rfl, hn⟩ | ⟨g, cap, cur, rfl, hb, hg, hle, hm, hs, ht⟩
  · exact ⟨none, 0, by rw [hn], h.1, by omega, by simp [maxLen], fun _ => rfl, fun hp => by omega⟩
  · refine ⟨_, cap, rfl, h.1, hle, hm, fun hh => by simp at hh, fun _ => ⟨g, 0, rfl, fun j u hj => ?_⟩⟩
    have hlt : j < n * z := by rw [← h.1]; exact (List.getElem?_eq_some_iff.1 hj).1
    rw [Nat.zero_add, World.ownsRow.cellAt h0 _ hlt]; exact hj
theorem Raw.none_len {w : World} {q n z : Nat} {xs : List Value} (h : Raw w none q n z xs) : n = 0 ∧ q = 0 ∧ xs = [] := by
  have hq := h.2.2.2.1 rfl
  have hn : n = 0 := by have := h.2.1; omega
  subst hn
  exact ⟨rfl, hq, List.eq_nil_of_length_eq_zero (by rw [h.1, Nat.zero_mul])⟩
end Go.Proofs.Ytflhoefocjmihaa

