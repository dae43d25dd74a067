/- The cells of a list in memory as they lie, with no program in it: 'Raw'; data that can be read in them: 'RepAll'. No conditions but those in each line. -/
import Derived.Test.YthiabbgkfmopiaaGreatJoint5
import Derived.BigQuiet
import Derived.Test.YthiabbgkfmopiaaGreatJoint2
import Derived.Deep.Quiet
namespace Go.Proofs.YthiabbgkfmopiaaGreat
open Go.RowKit

/-- The cells of a slice of n elements of z cells each. -/
def Raw (w : World) (p : Option Addr) (q n z : Nat) (xs : List Value) : Prop :=
  xs.length = n * z ∧ n ≤ q ∧ q ≤ maxLen ∧ (p = none → q = 0) ∧ (0 < n → ∃ b o, p = some ⟨b, o, none⟩ ∧ ∀ j u, xs[j]? = some u → w.cell? ⟨b, o + j, none⟩ = some u)
/-- Data one behind the other. -/
def RepAll {α : Type} (c : Cod α) (w : World) : List α → List Value → Prop
  | [], xs => xs = []
  | a :: l, xs => ∃ us ys, xs = us ++ ys ∧ c.rep w a us ∧ RepAll c w l ys
theorem RepAll.len {α : Type} {c : Cod α} {w : World} : ∀ {l : List α} {xs : List Value}, RepAll c w l xs → xs.length = l.length * c.n
  | [], _, h => by rw [h]; simp
  | _ :: l, _, ⟨us, ys, hx, ho, hl⟩ => by rw [hx, List.length_append, c.len ho, RepAll.len hl, List.length_cons, Nat.add_mul, Nat.one_mul, Nat.add_comm]
theorem RepAll.one {α : Type} {c : Cod α} {w : World} : ∀ {l : List α} {xs : List Value}, RepAll c w l xs → ∀ u ∈ xs, u.oneCell' = true
  | [], _, h => fun u hu => by rw [h] at hu; cases hu
  | _ :: l, _, ⟨us, ys, hx, ho, hl⟩ => fun u hu => by
    rw [hx] at hu
    rcases List.mem_append.1 hu with h1 | h1
    · exact c.one ho u h1
    · exact RepAll.one hl u h1
theorem RepAll.sees {α : Type} {c : Cod α} (hc : c.Mono) {w w' : World} (hs : Sees w w') : ∀ {l : List α} {xs : List Value}, RepAll c w l xs → RepAll c w' l xs
  | [], _, h => h
  | _ :: _, _, ⟨us, ys, hx, ho, hl⟩ => ⟨us, ys, hx, hc hs ho, RepAll.sees hc hs hl⟩
theorem RepAll.append {α : Type} {c : Cod α} {w : World} : ∀ {l m : List α} {xs ys : List Value}, RepAll c w l xs → RepAll c w m ys → RepAll c w (l ++ m) (xs ++ ys)
  | [], _, _, _, h, k => by rw [h]; exact k
  | _ :: _, _, _, _, ⟨us, zs, hx, ho, hl⟩, k => ⟨us, zs ++ _, by rw [hx, List.append_assoc], ho, RepAll.append hl k⟩
theorem RepAll.single {α : Type} {c : Cod α} {w : World} {a : α} {us : List Value} (h : c.rep w a us) : RepAll c w [a] us := ⟨us, [], by simp, h, rfl⟩
theorem RepAll.at {α : Type} {c : Cod α} {w : World} : ∀ {l : List α} {xs : List Value}, RepAll c w l xs → ∀ i a, l[i]? = some a → ∃ us, c.rep w a us ∧ ∀ j u, us[j]? = some u → xs[i * c.n + j]? = some u
  | [], _, _ => fun i a hi => by simp at hi
  | b :: l, _, ⟨us, ys, hx, ho, hl⟩ => fun i a hi => by
    have hn := c.len ho
    match i, hi with
    | 0, hi =>
      simp at hi; subst hi
      refine ⟨us, ho, fun j u hj => ?_⟩
      rw [hx, Nat.zero_mul, Nat.zero_add, List.getElem?_append_left (List.getElem?_eq_some_iff.1 hj).1]; exact hj
    | i + 1, hi =>
      obtain ⟨ts, hr, ht⟩ := RepAll.at hl i a (by simpa using hi)
      refine ⟨ts, hr, fun j u hj => ?_⟩
      rw [hx, List.getElem?_append_right (by rw [hn, Nat.add_mul, Nat.one_mul]; omega), show (i + 1) * c.n + j - us.length = i * c.n + j by rw [hn, Nat.add_mul, Nat.one_mul]; omega]
      exact ht j u hj
theorem rep_cells {α : Type} {c : Cod α} {w : World} {b : Nat} : ∀ {l : List α} {o : Nat}, (∀ i a, l[i]? = some a → ∃ us, c.rep w a us ∧ ∀ j u, us[j]? = some u → w.cell? ⟨b, o + i * c.n + j, none⟩ = some u) → ∃ xs, RepAll c w l xs ∧ ∀ j u, xs[j]? = some u → w.cell? ⟨b, o + j, none⟩ = some u
  | [], _, _ => ⟨[], rfl, fun j u hj => by simp at hj⟩
  | a :: l, o, h => by
    obtain ⟨us, hr, hu⟩ := h 0 a rfl
    obtain ⟨ys, hy, hyu⟩ := rep_cells (l := l) (o := o + c.n) (fun i d hd => by
      obtain ⟨ts, h1, h2⟩ := h (i + 1) d (by simpa using hd)
      exact ⟨ts, h1, fun j u hj => by rw [show o + c.n + i * c.n + j = o + (i + 1) * c.n + j by rw [Nat.add_mul, Nat.one_mul]; omega]; exact h2 j u hj⟩)
    refine ⟨us ++ ys, ⟨us, ys, rfl, hr, hy⟩, fun j u hj => ?_⟩
    have hn := c.len hr
    by_cases hl : j < us.length
    · rw [List.getElem?_append_left hl] at hj
      have := hu j u hj
      rw [Nat.zero_mul, Nat.add_zero] at this
      exact this
    · rw [List.getElem?_append_right (by omega)] at hj
      have := hyu _ u hj
      rw [show o + j = o + c.n + (j - us.length) by omega]
      exact this
theorem RdL.raw {α : Type} {c : Cod α} {w : World} {p : Option Addr} {q : Nat} {l : List α} (h : RdL c w p q l) : ∃ xs, Raw w p q l.length c.n xs ∧ RepAll c w l xs := by
  obtain ⟨h1, h2, h3, h4⟩ := h
  by_cases h0 : 0 < l.length
  · obtain ⟨b, o, rfl, hc⟩ := h4 h0
    obtain ⟨xs, hr, hx⟩ := rep_cells hc
    exact ⟨xs, ⟨hr.len, h1, h2, h3, fun _ => ⟨b, o, rfl, hx⟩⟩, hr⟩
  · have hl : l = [] := List.eq_nil_of_length_eq_zero (by omega)
    subst hl
    exact ⟨[], ⟨by simp, h1, h2, h3, fun h => absurd h (by simp)⟩, rfl⟩
theorem Raw.rdL {α : Type} {c : Cod α} {w V : World} {p : Option Addr} {q : Nat} {l : List α} {xs : List Value} (h : Raw V p q l.length c.n xs) (hr : RepAll c V l xs) (hs : Sees V w) (hc : c.Mono) : RdL c w p q l := by
  obtain ⟨-, h1, h2, h3, h4⟩ := h
  refine ⟨h1, h2, h3, fun hp => ?_⟩
  obtain ⟨b, o, rfl, hx⟩ := h4 hp
  refine ⟨b, o, rfl, fun i a hi => ?_⟩
  obtain ⟨us, h5, h6⟩ := hr.at i a hi
  exact ⟨us, hc hs h5, fun j u hj => by rw [Nat.add_assoc]; exact hs _ _ (hx _ u (h6 j u hj))⟩
theorem Raw.sees {w w' : World} {p : Option Addr} {q n z : Nat} {xs : List Value} (h : Raw w p q n z xs) (hs : Sees w w') : Raw w' p q n z xs :=
  ⟨h.1, h.2.1, h.2.2.1, h.2.2.2.1, fun hp => by
    obtain ⟨b, o, e, hx⟩ := h.2.2.2.2 hp
    exact ⟨b, o, e, fun j u hj => hs _ _ (hx j u hj)⟩⟩
theorem Raw.keep {w w' : World} {p : Option Addr} {q n z : Nat} {xs : List Value} (h : Raw w p q n z xs) (hb : Below w.heap.size w w') : Raw w' p q n z xs := h.sees (Sees.of_below hb)
theorem ownsRow_raw {w : World} {B : Nat} {e : TypeId} {z n : Nat} {v : Value} {xs : List Value} (h : w.ownsRow B e z v n xs) : ∃ p q, v = .slice p n q ∧ Raw w p q n z xs := by
  have h0 := h
  rcases h.2 with ⟨rfl, hn⟩ | ⟨g, cap, cur, rfl, hb, hg, hle, hm, hs, ht⟩
  · exact ⟨none, 0, by rw [hn], h.1, by omega, by simp [maxLen], fun _ => rfl, fun hp => by omega⟩
  · refine ⟨_, cap, rfl, h.1, hle, hm, fun hh => by simp at hh, fun _ => ⟨g, 0, rfl, fun j u hj => ?_⟩⟩
    have hlt : j < n * z := by rw [← h.1]; exact (List.getElem?_eq_some_iff.1 hj).1
    rw [Nat.zero_add, World.ownsRow.cellAt h0 _ hlt]; exact hj
theorem Raw.none_len {w : World} {q n z : Nat} {xs : List Value} (h : Raw w none q n z xs) : n = 0 ∧ q = 0 ∧ xs = [] := by
  have hq := h.2.2.2.1 rfl
  have hn : n = 0 := by have := h.2.1; omega
  subst hn
  exact ⟨rfl, hq, List.eq_nil_of_length_eq_zero (by rw [h.1, Nat.zero_mul])⟩
end Go.Proofs.YthiabbgkfmopiaaGreat

/- A region that draws its order, walked once in the order of the text, where all worlds that may come up hold the same cells and leave what lay before, and every call gives one value and leaves what it found. No program in it. -/
namespace Go.Proofs.YthiabbgkfmopiaaGreat
open Go Go.RowKit

/-- A world in which all that lay in V is left. -/
structure HW (V : World) where
  w : World
  h : Below V.heap.size V w

theorem HW.at {V : World} {p : Addr} {v : Value} (h : V.cell? p = some v) : ∀ s : HW V, s.w.cell? p = some v := fun s => cell_keep h s.h
theorem HW.out {V w : World} (h : ∃ s : HW V, w = s.w) : Below V.heap.size V w := by
  obtain ⟨s, rfl⟩ := h
  exact s.h
theorem HW.some (V : World) : Nonempty (HW V) := ⟨⟨V, Below.refl _ _⟩⟩

theorem HW.down {V w' : World} {p : Addr} {v : Value} (h : ∀ s : HW V, s.w.cell? p = Option.some v) (hb : Below V.heap.size V w') : ∀ s : HW w', s.w.cell? p = Option.some v := HW.at (h ⟨w', hb⟩)
theorem wp_region_class {P : Program} {id : Nat} {Q : Exit → Act → World → Prop} {a : Act} {V : World} {l : List Oper}
    (hm : P.follows .mixedOrders = true) (hB : Region.lexB .any l.toArray = true)
    (h : wpQuiet P l.toArray (fun w' => ∃ s : HW V, w' = s.w) (fun a' => ∀ w', (∃ s : HW V, w' = s.w) → Q .normal a' w') l a) : (Code.region id l.toArray true).wp P Q a V :=
  wp_region_quiet (C := fun w' => ∃ s : HW V, w' = s.w) hm hB ⟨⟨V.drew, (Below.refl _ _).drew⟩, rfl⟩ (by simpa using h)

/-- A call that leaves what was there. -/
theorem Calls.stay {P : Program} {V : World} {f : FuncId} {args : Array Value} {v : Value} {s : HW V}
    (h : Calls P f args s.w fun e w' => e = .returned v ∧ Below s.w.heap.size s.w w') : Calls P f args s.w fun e w'' => e = .returned v ∧ ∃ s' : HW V, w'' = s'.w :=
  h.mono fun _ w'' ⟨he, hb⟩ => ⟨he, ⟨w'', Below.step s.h hb⟩, rfl⟩
theorem Calls.stay_same {P : Program} {V : World} {f : FuncId} {args : Array Value} {v : Value} {s : HW V}
    (h : Calls P f args s.w fun e w' => e = .returned v ∧ w' = s.w) : Calls P f args s.w fun e w'' => e = .returned v ∧ ∃ s' : HW V, w'' = s'.w :=
  h.mono fun _ _ ⟨he, hb⟩ => ⟨he, s, hb⟩

/-- A quiet region behind another one: the draws add up. -/
theorem wp_region_again {P : Program} {id : Nat} {Q : Exit → Act → World → Prop} {a : Act} {V : World} {k : Nat} {l : List Oper}
    (hm : P.follows .mixedOrders = true) (hB : Region.lexB .any l.toArray = true)
    (h : wpQuiet P l.toArray (fun w' => ∃ n, w' = V.drewN n) (fun a' => ∀ w', (∃ n, w' = V.drewN n) → Q .normal a' w') l a) : (Code.region id l.toArray true).wp P Q a (V.drewN k) :=
  wp_region_quiet (C := fun w' => ∃ n, w' = V.drewN n) hm hB ⟨k + 1, rfl⟩ (by simpa using h)

end Go.Proofs.YthiabbgkfmopiaaGreat

/- A region that draws its order, all of whose operations but the last one are quiet in a class of worlds, where the last one (a store) waits for all the others: one walk in the order of the text serves every order. Beside Derived/Deep/Quiet.lean's theorem, whose two long proofs are taken over for this case. No program in it. -/
namespace Go.Proofs.YthiabbgkfmopiaaGreat
open Go Go.RowKit

section
variable {P : Program} {ops : Array Oper} {md : Region.Mode} {C : World → Prop} {Q' : Exit → Act → World → Prop} {last : Nat}

def lexT (md : Region.Mode) (ops : Array Oper) : Nat → Nat → Array Bool → Bool
  | 0, k, listed => (Region.ready md ops listed == [k]) && (Region.ready md ops (listed.setIfInBounds k true)).isEmpty
  | n + 1, k, listed => (Region.ready md ops listed).contains k && Region.free md ops listed k && lexT md ops n (k + 1) (listed.setIfInBounds k true)

def waitsAll (md : Region.Mode) (ops : Array Oper) (last : Nat) : Bool :=
  match ops[last]? with
  | none => false
  | some o => (List.range last).all fun i => o.after.toList.any fun e => Region.binds md e && e.on == i

theorem waitsAll_spec (h : waitsAll md ops last = true) {listed : Array Bool} (hr : last ∈ Region.ready md ops listed) {i : Nat} (hi : i < last) : listed.getD i false = true := by
  obtain ⟨-, o, ho, hall⟩ := mem_ready.1 hr
  unfold waitsAll at h
  simp only [ho, List.all_eq_true, List.mem_range] at h
  obtain ⟨e, he, hb⟩ := List.any_eq_true.1 (h i hi)
  simp only [Bool.and_eq_true, beq_iff_eq] at hb
  have := hall e (by simpa using he) hb.1
  rw [hb.2] at this
  exact this

/-- What is asked of the last operation, in every world of the class. -/
def tailAsk (P : Program) (ops : Array Oper) (C : World → Prop) (Q' : Exit → Act → World → Prop) (last : Nat) (a : Act) : Prop :=
  ∀ w, C w → ∀ K : Act → World → Prop, (∀ a' w', Q' .normal a' w' → K a' w') → wpOp P ops Q' last K a w

def wpAnyT (P : Program) (md : Region.Mode) (ops : Array Oper) (C : World → Prop) (Q' : Exit → Act → World → Prop) (last : Nat) : Nat → Array Bool → Act → Prop
  | 0, listed, a => Region.ready md ops listed = [last] ∧ Region.ready md ops (listed.setIfInBounds last true) = [] ∧ tailAsk P ops C Q' last a
  | fuel + 1, listed, a => Region.ready md ops listed ≠ [] ∧ ∀ i ∈ Region.ready md ops listed, qOp P ops C i (wpAnyT P md ops C Q' last fuel (listed.setIfInBounds i true)) a

theorem wpAny_of_T : ∀ (fuel : Nat) (listed : Array Bool) (a : Act) (w : World), C w → wpAnyT P md ops C Q' last fuel listed a → wpAny P md ops Q' (fuel + 1) listed a w
  | 0, _, _, _, hw, h => ⟨fun h0 => (by rw [h.1] at h0; cases h0), fun i hi => by
      rw [h.1] at hi
      rw [List.mem_singleton.1 hi]
      exact h.2.2 _ hw _ (fun a' w' hq => ⟨h.2.1, hq⟩)⟩
  | fuel + 1, _, _, _, hw, h => ⟨fun h0 => absurd h0 h.1, fun i hi => wpOp_of_qOp hw (fun a' w' hw' => wpAny_of_T fuel _ a' w' hw') (h.2 i hi)⟩

theorem wpAnyT_first (hlast : waitsAll md ops last = true) {i : Nat} {oi : Oper} {v : Value} (hi : ops[i]? = some oi) (hil : i < last) (hsel : ∀ (j : Nat) (o : Oper) cs b, ops[j]? = some o → o.op ≠ .select cs b) :
    ∀ (fuel : Nat) (listed : Array Bool) (a : Act),
      (∀ j oj, ops[j]? = some oj → j ≠ i → listed.getD j true = false → (∀ e ∈ oj.after, Region.binds md e = true → e.on ≠ i) → oi.apart ops oj = true) →
      i ∈ Region.ready md ops listed → YieldsIn P ops C oi v a →
      wpAnyT P md ops C Q' last fuel (listed.setIfInBounds i true) (a.put oi.dst v) → wpAnyT P md ops C Q' last (fuel + 1) listed a := by
  intro fuel
  induction fuel with
  | zero =>
    intro listed a _ hr hy H
    refine ⟨fun h => (by rw [h] at hr; cases hr), fun j hj => ?_⟩
    by_cases hji : j = i
    · subst hji; exact hy.qOp hi H
    · have h1 := ready_mono hj hji
      rw [H.1] at h1
      have h2 := List.mem_singleton.1 h1
      subst h2
      have h3 := waitsAll_spec hlast hj hil
      have h4 := (mem_ready.1 hr).1
      rcases Nat.lt_or_ge i listed.size with h' | h'
      · simp [h'] at h3 h4; rw [h3] at h4; cases h4
      · simp [Array.getElem?_eq_none h'] at h3
  | succ fuel ih =>
    intro listed a hfree hr hy H
    refine ⟨fun h => (by rw [h] at hr; cases hr), fun j hj => ?_⟩
    by_cases hji : j = i
    · subst hji; exact hy.qOp hi H
    · have h1 := H.2 j (ready_mono hj hji)
      obtain ⟨hjun, oj, hoj, hall⟩ := mem_ready.1 hj
      have hnot : ∀ e ∈ oj.after, Region.binds md e = true → e.on ≠ i := fun e he hb heq => by
        have h1 := hall e he hb
        have h0 := (mem_ready.1 hr).1
        rw [heq] at h1
        rcases Nat.lt_or_ge i listed.size with h' | h'
        · simp [h'] at h0 h1; rw [h0] at h1; cases h1
        · simp [Array.getElem?_eq_none h'] at h1
      have h2 := qOp_put hoj (hfree j oj hoj hji hjun hnot) (fun cs b => hsel i oi cs b hi) (fun cs b => hsel j oj cs b hoj) hy h1
      have hfree' : ∀ k ok, ops[k]? = some ok → k ≠ i → (listed.setIfInBounds j true).getD k true = false →
          (∀ e ∈ ok.after, Region.binds md e = true → e.on ≠ i) → oi.apart ops ok = true := fun k ok hk hki hun hno => by
        refine hfree k ok hk hki ?_ hno
        by_cases hjk : j = k
        · subst hjk; exact hjun
        · rw [getD_set_ne true hjk] at hun; exact hun
      refine qOp_mono (fun a' h3 => ih (listed.setIfInBounds j true) a' hfree' (ready_mono hr (Ne.symm hji)) h3.1 ?_) h2
      rw [Array.setIfInBounds_comm _ _ hji]
      exact h3.2

theorem wpAnyT_lex (hlast : waitsAll md ops last = true) (hs : Region.noSelect ops = true) : ∀ (l : List Oper) (k : Nat) (listed : Array Bool) (a : Act), (∀ j, j < l.length → l[j]? = ops[k + j]?) → k + l.length = last →
    lexT md ops l.length k listed = true → wpQuiet P ops C (tailAsk P ops C Q' last) l a → wpAnyT P md ops C Q' last l.length listed a
  | [], k, _, _, _, hk, hB, h => by
    simp only [List.length_nil, Nat.add_zero] at hk
    subst hk
    simp only [List.length_nil, lexT, Bool.and_eq_true, beq_iff_eq, List.isEmpty_iff] at hB
    exact ⟨hB.1, hB.2, h⟩
  | o :: l, k, listed, a, hl, hk, hB, h => by
    have h0 : ops[k]? = some o := by simpa using (hl 0 (by simp)).symm
    simp only [List.length_cons, lexT, Bool.and_eq_true] at hB
    obtain ⟨⟨hr, hf⟩, hB'⟩ := hB
    have hst : qOp P ops C k (wpQuiet P ops C (tailAsk P ops C Q' last) l) a := by unfold qOp; simp only [h0]; exact h
    obtain ⟨v, hy, hK⟩ := yieldsIn_of_qOp h0 hst
    exact wpAnyT_first hlast h0 (by simp at hk; omega) (Region.noSelect_spec hs) l.length listed a (Region.free_spec h0 hf) (by simpa using hr) hy
      (wpAnyT_lex hlast hs l (k + 1) _ _ (fun j hj => by have := hl (j + 1) (by simpa using hj); simpa [Nat.add_assoc, Nat.add_comm 1 j] using this) (by simp at hk; omega) hB' hK)
end

theorem wpQuiet_mono {P : Program} {ops : Array Oper} {C : World → Prop} {Q Q' : Act → Prop} (h : ∀ a, Q a → Q' a) : ∀ (l : List Oper) (a : Act), wpQuiet P ops C Q l a → wpQuiet P ops C Q' l a
  | [], a, hh => h a hh
  | o :: l, a, hh => by
    unfold wpQuiet at *
    split
    · rename_i hw
      rw [if_pos hw] at hh
      exact Oper.quiet_mono (fun a' => wpQuiet_mono h l a') hh
    · rename_i hw
      rw [if_neg hw] at hh
      exact wpQuiet_mono h l _ hh

/-- All but the last operation quiet, the last one waits for all of them. -/
theorem wp_region_tail {P : Program} {ops : Array Oper} {C : World → Prop} {Q : Exit → Act → World → Prop} {a : Act} {w : World} {id : Nat} (n : Nat) {o : Oper} (hn : ops.size = n + 1) (ho : ops[n]? = some o) (hgd : o.guard = none)
    (hm : P.follows .mixedOrders = true) (hs : Region.noSelect ops = true) (hB : lexT .any ops n 0 (Array.replicate ops.size false) = true) (hw : waitsAll .any ops n = true) (hC : C { w with drawn := w.drawn + 1 })
    (h : wpQuiet P ops C (fun a' => ∀ w', C w' → ∀ K : Act → World → Prop, (∀ a'' w'', Q .normal a'' w'' → K a'' w'') → o.wp P a' w' K Q) (ops.toList.take n) a) : (Code.region id ops true).wp P Q a w := by
  refine wp_region_any hm ?_
  rw [hn]
  have hlen : (ops.toList.take n).length = n := by simp; omega
  have hq : wpQuiet P ops C (tailAsk P ops C Q n) (ops.toList.take n) a := by
    refine wpQuiet_mono (fun a' h1 => ?_) _ _ h
    intro w' hw' K hK
    unfold wpOp
    simp only [ho]
    rw [if_pos (by simp [Region.wanted, hgd])]
    exact .inl (h1 w' hw' K hK)
  have := wpAnyT_lex (Q' := Q) hw hs (ops.toList.take n) 0 (Array.replicate (n + 1) false) a (fun j hj => by rw [List.getElem?_take_of_lt (by omega)]; simp) (by omega) (by rw [hlen, ← hn]; exact hB) hq
  rw [hlen] at this
  exact wpAny_of_T n _ a _ hC this

end Go.Proofs.YthiabbgkfmopiaaGreat

