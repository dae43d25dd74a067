/- How data of a type lies in memory, with no program in it: a 'Cod' says how many cells a datum takes, when cells can be read as it (rep), and when it owns its memory from a block on, with the blocks that are its own (own). Numbers, bytes, pairs, lists of these; what keeps them. No conditions but those in each line. -/
import Derived.Test.YthiabbgkfmopiaaGreatArr
import Derived.Deep.Slices
namespace Go.Proofs.YthiabbgkfmopiaaGreat
open Go.RowKit

structure Cod (α : Type) where
  n : Nat
  rep : World → α → List Value → Prop
  own : World → Nat → α → List Value → List Nat → Prop
  len : ∀ {w a vs}, rep w a vs → vs.length = n
  one : ∀ {w a vs}, rep w a vs → ∀ u ∈ vs, u.oneCell' = true
  keep : ∀ {w w' a vs}, rep w a vs → Below w.heap.size w w' → rep w' a vs
  toRep : ∀ {w B a vs fp}, own w B a vs fp → rep w a vs
  ins : ∀ {w B a vs fp}, own w B a vs fp → ∀ k, k ∈ fp → B ≤ k ∧ k < w.heap.size
  nd : ∀ {w B a vs fp}, own w B a vs fp → fp.Nodup
  fr : ∀ {w w' B a vs fp}, own w B a vs fp → (∀ k, k ∈ fp → w'.heap[k]? = w.heap[k]?) → own w' B a vs fp
  low : ∀ {w B B' a vs fp}, own w B a vs fp → B' ≤ B → own w B' a vs fp

theorem Cod.stay {α : Type} (c : Cod α) {w w' : World} {B : Nat} {a : α} {vs : List Value} {fp : List Nat} (h : c.own w B a vs fp) (hb : Below w.heap.size w w') : c.own w' B a vs fp :=
  c.fr h fun k hk => hb.block k (c.ins h k hk).2

/-- Just these blocks may be other than they were. -/
structure Only (fp : List Nat) (w w' : World) : Prop where
  os : w'.os = w.os
  tape : w'.tape = w.tape
  output : w'.output = w.output
  size : w.heap.size ≤ w'.heap.size
  block : ∀ k, k < w.heap.size → k ∉ fp → w'.heap[k]? = w.heap[k]?
theorem Only.refl (fp : List Nat) (w : World) : Only fp w w := ⟨rfl, rfl, rfl, Nat.le_refl _, fun _ _ _ => rfl⟩
theorem Only.trans {fp : List Nat} {a b c : World} (h : Only fp a b) (k : Only fp b c) : Only fp a c :=
  ⟨k.os.trans h.os, k.tape.trans h.tape, k.output.trans h.output, Nat.le_trans h.size k.size, fun i hi hn => (k.block i (Nat.lt_of_lt_of_le hi h.size) hn).trans (h.block i hi hn)⟩
theorem Only.more {fp fq : List Nat} {a b : World} (h : Only fp a b) (hs : ∀ k, k ∈ fp → k ∈ fq) : Only fq a b :=
  ⟨h.os, h.tape, h.output, h.size, fun k hk hn => h.block k hk fun e => hn (hs k e)⟩
theorem Only.grown {a b : World} {row : Option Nat} (h : a.grownBy b row) : Only row.toList a b :=
  ⟨h.os, h.tape, h.output, h.size, fun k hk hn => h.block k hk fun e => hn (by rw [← e]; exact List.mem_singleton.2 rfl)⟩
theorem Only.below {fp : List Nat} {a b : World} (h : Below a.heap.size a b) : Only fp a b := ⟨h.os, h.tape, h.output, h.size, fun k hk _ => h.block k hk⟩
theorem Below.only {W a b : World} {fp : List Nat} (h : Below W.heap.size W a) (k : Only fp a b) (hs : ∀ i, i ∈ fp → W.heap.size ≤ i) : Below W.heap.size W b :=
  ⟨k.os.trans h.os, k.tape.trans h.tape, k.output.trans h.output, Nat.le_trans h.size k.size, fun i hi => (k.block i (Nat.lt_of_lt_of_le hi h.size) (fun e => by have := hs i e; omega)).trans (h.block i hi)⟩
theorem Cod.other {α : Type} (c : Cod α) {w w' : World} {B : Nat} {a : α} {vs : List Value} {fp fq : List Nat} (h : c.own w B a vs fp) (ho : Only fq w w') (hd : ∀ k, k ∈ fp → k ∉ fq) : c.own w' B a vs fp :=
  c.fr h fun k hk => ho.block k (c.ins h k hk).2 (hd k hk)

/-- A number. -/
def intC (k : IntKind) : Cod Int where
  n := 1
  rep := fun _ z vs => vs = [.int k z]
  own := fun _ _ z vs fp => vs = [.int k z] ∧ fp = []
  len := fun h => by rw [h]; rfl
  one := fun h u hu => by rw [h] at hu; rw [List.mem_singleton.1 hu]; rfl
  keep := fun h _ => h
  toRep := fun h => h.1
  ins := fun h k hk => by rw [h.2] at hk; cases hk
  nd := fun h => by rw [h.2]; exact List.nodup_nil
  fr := fun h _ => h
  low := fun h _ => h

theorem nodup_opt (o : Option Nat) : o.toList.Nodup := by cases o <;> simp
theorem mem_opt {o : Option Nat} {k : Nat} : k ∈ o.toList ↔ o = some k := by cases o <;> simp [eq_comm]

/-- Bytes. -/
def bytC : Cod (List UInt8) where
  n := 1
  rep := fun w bs vs => ∃ p q, vs = [.slice p bs.length q] ∧ Rd w p q bs
  own := fun w B bs vs fp => ∃ v, vs = [v] ∧ Own w B v bs ∧ fp = v.ownBlock.toList
  len := fun ⟨_, _, h, _⟩ => by rw [h]; rfl
  one := fun ⟨_, _, h, _⟩ u hu => by rw [h] at hu; rw [List.mem_singleton.1 hu]; rfl
  keep := fun ⟨p, q, h, r⟩ hb => ⟨p, q, h, r.keep hb⟩
  toRep := fun ⟨v, h, o, _⟩ => by
    obtain ⟨p, q, e, r⟩ := o.rd
    exact ⟨p, q, by rw [h, e], r⟩
  ins := fun ⟨_, _, o, h⟩ k hk => by rw [h] at hk; exact ⟨o.ge k (mem_opt.1 hk), o.lt k (mem_opt.1 hk)⟩
  nd := fun ⟨_, _, _, h⟩ => by rw [h]; exact nodup_opt _
  fr := fun {w w' B a vs fp} ⟨v, h, o, hf⟩ hk => ⟨v, h, by
    obtain ⟨h1, h2⟩ := o
    refine ⟨h1, ?_⟩
    rcases h2 with h2 | ⟨g, cap, cur, rfl, hb, hh, r⟩
    · exact .inl h2
    · exact .inr ⟨g, cap, cur, rfl, hb, (hk g (by rw [hf]; exact mem_opt.2 rfl)).trans hh, r⟩, hf⟩
  low := fun ⟨v, h, o, hf⟩ hb => ⟨v, h, o.lower hb, hf⟩

/-- Two data, one behind the other. -/
def prodC {α β : Type} (c : Cod α) (d : Cod β) : Cod (α × β) where
  n := c.n + d.n
  rep := fun w a vs => ∃ us ts, vs = us ++ ts ∧ c.rep w a.1 us ∧ d.rep w a.2 ts
  own := fun w B a vs fp => ∃ us ts f g, vs = us ++ ts ∧ fp = f ++ g ∧ fp.Nodup ∧ c.own w B a.1 us f ∧ d.own w B a.2 ts g
  len := fun ⟨us, ts, h, hc, hd⟩ => by rw [h, List.length_append, c.len hc, d.len hd]
  one := fun ⟨us, ts, h, hc, hd⟩ u hu => by
    rw [h] at hu
    rcases List.mem_append.1 hu with h1 | h1
    · exact c.one hc u h1
    · exact d.one hd u h1
  keep := fun ⟨us, ts, h, hc, hd⟩ hb => ⟨us, ts, h, c.keep hc hb, d.keep hd hb⟩
  toRep := fun ⟨us, ts, _, _, h, _, _, hc, hd⟩ => ⟨us, ts, h, c.toRep hc, d.toRep hd⟩
  ins := fun ⟨_, _, f, g, _, hf, _, hc, hd⟩ k hk => by
    rw [hf] at hk
    rcases List.mem_append.1 hk with h1 | h1
    · exact c.ins hc k h1
    · exact d.ins hd k h1
  nd := fun ⟨_, _, _, _, _, _, h, _, _⟩ => h
  fr := fun ⟨us, ts, f, g, h, hf, hn, hc, hd⟩ hk => ⟨us, ts, f, g, h, hf, hn, c.fr hc fun k h1 => hk k (by rw [hf]; exact List.mem_append_left _ h1), d.fr hd fun k h1 => hk k (by rw [hf]; exact List.mem_append_right _ h1)⟩
  low := fun ⟨us, ts, f, g, h, hf, hn, hc, hd⟩ hb => ⟨us, ts, f, g, h, hf, hn, c.low hc hb, d.low hd hb⟩

/-- A list of data that can be read. -/
def RdL {α : Type} (c : Cod α) (w : World) (p : Option Addr) (q : Nat) (l : List α) : Prop :=
  l.length ≤ q ∧ q ≤ maxLen ∧ (p = none → q = 0) ∧ (0 < l.length → ∃ b o, p = some ⟨b, o, none⟩ ∧ ∀ i a, l[i]? = some a → ∃ us, c.rep w a us ∧ ∀ j u, us[j]? = some u → w.cell? ⟨b, o + i * c.n + j, none⟩ = some u)
theorem RdL.keep {α : Type} {c : Cod α} {w w' : World} {p : Option Addr} {q : Nat} {l : List α} (h : RdL c w p q l) (hb : Below w.heap.size w w') : RdL c w' p q l := by
  obtain ⟨h1, h2, h3, h4⟩ := h
  refine ⟨h1, h2, h3, fun hp => ?_⟩
  obtain ⟨b, o, rfl, hc⟩ := h4 hp
  refine ⟨b, o, rfl, fun i a hi => ?_⟩
  obtain ⟨us, hr, hu⟩ := hc i a hi
  exact ⟨us, c.keep hr hb, fun j u hj => cell_keep (hu j u hj) hb⟩

/-- Data one behind the other, each of which owns its memory. -/
def OwnAll {α : Type} (c : Cod α) (w : World) (B : Nat) : List α → List Value → List Nat → Prop
  | [], xs, fp => xs = [] ∧ fp = []
  | a :: l, xs, fp => ∃ us ys f g, xs = us ++ ys ∧ fp = f ++ g ∧ c.own w B a us f ∧ OwnAll c w B l ys g

theorem OwnAll.len {α : Type} {c : Cod α} {w : World} {B : Nat} : ∀ {l : List α} {xs : List Value} {fp : List Nat}, OwnAll c w B l xs fp → xs.length = l.length * c.n
  | [], _, _, h => by rw [h.1]; simp
  | a :: l, _, _, ⟨us, ys, f, g, hx, _, ho, hl⟩ => by rw [hx, List.length_append, c.len (c.toRep ho), OwnAll.len hl, List.length_cons, Nat.add_mul, Nat.one_mul, Nat.add_comm]
theorem OwnAll.one {α : Type} {c : Cod α} {w : World} {B : Nat} : ∀ {l : List α} {xs : List Value} {fp : List Nat}, OwnAll c w B l xs fp → ∀ u ∈ xs, u.oneCell' = true
  | [], _, _, h => fun u hu => by rw [h.1] at hu; cases hu
  | a :: l, _, _, ⟨us, ys, f, g, hx, _, ho, hl⟩ => fun u hu => by
    rw [hx] at hu
    rcases List.mem_append.1 hu with h1 | h1
    · exact c.one (c.toRep ho) u h1
    · exact OwnAll.one hl u h1
theorem OwnAll.ins {α : Type} {c : Cod α} {w : World} {B : Nat} : ∀ {l : List α} {xs : List Value} {fp : List Nat}, OwnAll c w B l xs fp → ∀ k, k ∈ fp → B ≤ k ∧ k < w.heap.size
  | [], _, _, h => fun k hk => by rw [h.2] at hk; cases hk
  | a :: l, _, _, ⟨us, ys, f, g, _, hf, ho, hl⟩ => fun k hk => by
    rw [hf] at hk
    rcases List.mem_append.1 hk with h1 | h1
    · exact c.ins ho k h1
    · exact OwnAll.ins hl k h1
theorem OwnAll.fr {α : Type} {c : Cod α} {w w' : World} {B : Nat} : ∀ {l : List α} {xs : List Value} {fp : List Nat}, OwnAll c w B l xs fp → (∀ k, k ∈ fp → w'.heap[k]? = w.heap[k]?) → OwnAll c w' B l xs fp
  | [], _, _, h => fun _ => h
  | a :: l, _, _, ⟨us, ys, f, g, hx, hf, ho, hl⟩ => fun hk =>
    ⟨us, ys, f, g, hx, hf, c.fr ho fun k h1 => hk k (by rw [hf]; exact List.mem_append_left _ h1), OwnAll.fr hl fun k h1 => hk k (by rw [hf]; exact List.mem_append_right _ h1)⟩
theorem OwnAll.low {α : Type} {c : Cod α} {w : World} {B B' : Nat} (hb : B' ≤ B) : ∀ {l : List α} {xs : List Value} {fp : List Nat}, OwnAll c w B l xs fp → OwnAll c w B' l xs fp
  | [], _, _, h => h
  | _ :: _, _, _, ⟨us, ys, f, g, hx, hf, ho, hl⟩ => ⟨us, ys, f, g, hx, hf, c.low ho hb, OwnAll.low hb hl⟩
theorem OwnAll.append {α : Type} {c : Cod α} {w : World} {B : Nat} : ∀ {l m : List α} {xs ys : List Value} {fp fq : List Nat}, OwnAll c w B l xs fp → OwnAll c w B m ys fq → OwnAll c w B (l ++ m) (xs ++ ys) (fp ++ fq)
  | [], _, _, _, _, _, h, k => by rw [h.1, h.2]; exact k
  | _ :: _, _, _, _, _, _, ⟨us, zs, f, g, hx, hf, ho, hl⟩, k => ⟨us, zs ++ _, f, g ++ _, by rw [hx, List.append_assoc], by rw [hf, List.append_assoc], ho, OwnAll.append hl k⟩
theorem OwnAll.snoc {α : Type} {c : Cod α} {w : World} {B : Nat} {l : List α} {xs us : List Value} {fp f : List Nat} {a : α} (h : OwnAll c w B l xs fp) (k : c.own w B a us f) : OwnAll c w B (l ++ [a]) (xs ++ us) (fp ++ f) :=
  h.append (m := [a]) ⟨us, [], f, [], by simp, by simp, k, rfl, rfl⟩
theorem OwnAll.split {α : Type} {c : Cod α} {w : World} {B : Nat} : ∀ {l m : List α} {xs : List Value} {fp : List Nat}, OwnAll c w B (l ++ m) xs fp → ∃ x1 x2 f1 f2, xs = x1 ++ x2 ∧ fp = f1 ++ f2 ∧ OwnAll c w B l x1 f1 ∧ OwnAll c w B m x2 f2
  | [], m, xs, fp, h => ⟨[], xs, [], fp, rfl, rfl, ⟨rfl, rfl⟩, h⟩
  | a :: l, m, xs, fp, ⟨us, ys, f, g, hx, hf, ho, hl⟩ => by
    obtain ⟨x1, x2, f1, f2, e1, e2, h1, h2⟩ := OwnAll.split hl
    exact ⟨us ++ x1, x2, f ++ f1, f2, by rw [hx, e1, List.append_assoc], by rw [hf, e2, List.append_assoc], ⟨us, x1, f, f1, rfl, rfl, ho, h1⟩, h2⟩
theorem OwnAll.repAt {α : Type} {c : Cod α} {w : World} {B : Nat} : ∀ {l : List α} {xs : List Value} {fp : List Nat}, OwnAll c w B l xs fp → ∀ i a, l[i]? = some a → ∃ us, c.rep w a us ∧ ∀ j u, us[j]? = some u → xs[i * c.n + j]? = some u
  | [], _, _, _ => fun i a hi => by simp at hi
  | b :: l, _, _, ⟨us, ys, f, g, hx, _, ho, hl⟩ => fun i a hi => by
    have hn := c.len (c.toRep ho)
    match i, hi with
    | 0, hi =>
      simp at hi; subst hi
      refine ⟨us, c.toRep ho, fun j u hj => ?_⟩
      rw [hx, Nat.zero_mul, Nat.zero_add, List.getElem?_append_left (List.getElem?_eq_some_iff.1 hj).1]; exact hj
    | i + 1, hi =>
      obtain ⟨ts, hr, ht⟩ := OwnAll.repAt hl i a (by simpa using hi)
      refine ⟨ts, hr, fun j u hj => ?_⟩
      rw [hx, List.getElem?_append_right (by rw [hn, Nat.add_mul, Nat.one_mul]; omega), show (i + 1) * c.n + j - us.length = i * c.n + j by rw [hn, Nat.add_mul, Nat.one_mul]; omega]
      exact ht j u hj

/-- A list that owns its row, each datum of which owns its memory, all of it apart. -/
structure OwnL {α : Type} (e : TypeId) (c : Cod α) (w : World) (B : Nat) (v : Value) (l : List α) (xs : List Value) (fp : List Nat) : Prop where
  row : w.ownsRow B e c.n v l.length xs
  all : OwnAll c w B l xs fp
  nd : (v.ownBlock.toList ++ fp).Nodup

theorem ownsRow_fr {w w' : World} {B : Nat} {t : TypeId} {z n : Nat} {v : Value} {vs : List Value} (h : w.ownsRow B t z v n vs) (hk : ∀ k, v.ownBlock = some k → w'.heap[k]? = w.heap[k]?) : w'.ownsRow B t z v n vs := by
  obtain ⟨h1, h2⟩ := h
  refine ⟨h1, ?_⟩
  rcases h2 with h2 | ⟨g, cap, cur, rfl, hg, hh, r⟩
  · exact .inl h2
  · exact .inr ⟨g, cap, cur, rfl, hg, (hk g rfl).trans hh, r⟩
theorem ownsRow_low {w : World} {B B' : Nat} {t : TypeId} {z n : Nat} {v : Value} {vs : List Value} (h : w.ownsRow B t z v n vs) (hb : B' ≤ B) : w.ownsRow B' t z v n vs := by
  obtain ⟨h1, h2⟩ := h
  refine ⟨h1, ?_⟩
  rcases h2 with h2 | ⟨g, cap, cur, rfl, hg, r⟩
  · exact .inl h2
  · exact .inr ⟨g, cap, cur, rfl, Nat.le_trans hb hg, r⟩
theorem OwnL.rd {α : Type} {e : TypeId} {c : Cod α} {w : World} {B : Nat} {v : Value} {l : List α} {xs : List Value} {fp : List Nat} (h : OwnL e c w B v l xs fp) : ∃ p q, v = .slice p l.length q ∧ RdL c w p q l := by
  have h0 := h.row
  rcases h.row.2 with ⟨rfl, hn⟩ | ⟨g, cap, cur, rfl, hb, hg, hle, hm, hs, ht⟩
  · exact ⟨none, 0, by rw [hn], by omega, by simp [maxLen], fun _ => rfl, fun hp => by omega⟩
  · refine ⟨_, cap, rfl, hle, hm, fun hh => by simp at hh, fun _ => ⟨g, 0, rfl, fun i a hi => ?_⟩⟩
    obtain ⟨us, hr, hu⟩ := h.all.repAt i a hi
    refine ⟨us, hr, fun j u hj => ?_⟩
    have hx := hu j u hj
    have hlt : i * c.n + j < l.length * c.n := by rw [← h.all.len]; exact (List.getElem?_eq_some_iff.1 hx).1
    rw [Nat.zero_add, World.ownsRow.cellAt h0 _ hlt]; exact hx
theorem OwnL.ins {α : Type} {e : TypeId} {c : Cod α} {w : World} {B : Nat} {v : Value} {l : List α} {xs : List Value} {fp : List Nat} (h : OwnL e c w B v l xs fp) : ∀ k, k ∈ v.ownBlock.toList ++ fp → B ≤ k ∧ k < w.heap.size := fun k hk => by
  rcases List.mem_append.1 hk with h1 | h1
  · exact World.ownsRow.lt h.row k (mem_opt.1 h1)
  · exact h.all.ins k h1
theorem OwnL.fr {α : Type} {e : TypeId} {c : Cod α} {w w' : World} {B : Nat} {v : Value} {l : List α} {xs : List Value} {fp : List Nat} (h : OwnL e c w B v l xs fp) (hk : ∀ k, k ∈ v.ownBlock.toList ++ fp → w'.heap[k]? = w.heap[k]?) : OwnL e c w' B v l xs fp :=
  ⟨ownsRow_fr h.row fun k e => hk k (List.mem_append_left _ (mem_opt.2 e)), h.all.fr fun k e => hk k (List.mem_append_right _ e), h.nd⟩

/-- One datum of a list by itself, and the list with another in its place. -/
theorem OwnL.focus {α : Type} {e : TypeId} {c : Cod α} {w : World} {B : Nat} {v : Value} {P D : List α} {a : α} {xs : List Value} {fp : List Nat} (h : OwnL e c w B v (P ++ a :: D) xs fp) :
    ∃ x1 us x2 f1 f f2, xs = x1 ++ us ++ x2 ∧ fp = f1 ++ f ++ f2 ∧ x1.length = P.length * c.n ∧ c.own w B a us f ∧ (∀ k, k ∈ f → k ∉ f1 ∧ k ∉ f2 ∧ v.ownBlock ≠ some k) ∧ (∀ k, k ∈ f1 ++ f2 → v.ownBlock ≠ some k) ∧
      ∀ (w' : World) (a' : α) (us' : List Value), c.own w' B a' us' f → w'.ownsRow B e c.n v (P ++ a' :: D).length (x1 ++ us' ++ x2) → (∀ k, k ∈ f1 ++ f2 → w'.heap[k]? = w.heap[k]?) → OwnL e c w' B v (P ++ a' :: D) (x1 ++ us' ++ x2) fp := by
  obtain ⟨x1, x2', f1, f2', rfl, rfl, h1, us, x2, f, f2, rfl, rfl, ho, h2⟩ := h.all.split
  have hnd := h.nd
  have hv := (List.nodup_append.1 hnd).2.2
  have hf := (List.nodup_append.1 hnd).2.1
  have hf2 := List.nodup_append.1 hf
  have hf3 := List.nodup_append.1 hf2.2.1
  refine ⟨x1, us, x2, f1, f, f2, by rw [List.append_assoc], by rw [List.append_assoc], h1.len, ho, fun k hk => ⟨fun h3 => hf2.2.2 k h3 k (List.mem_append_left _ hk) rfl, fun h3 => hf3.2.2 k hk k h3 rfl, fun h3 => hv k (mem_opt.2 h3) k (List.mem_append_right _ (List.mem_append_left _ hk)) rfl⟩, fun k hk h3 => ?_, fun w' a' us' ho' hrow hk => ⟨hrow, ?_, hnd⟩⟩
  · rcases List.mem_append.1 hk with h4 | h4
    · exact hv k (mem_opt.2 h3) k (List.mem_append_left _ h4) rfl
    · exact hv k (mem_opt.2 h3) k (List.mem_append_right _ (List.mem_append_right _ h4)) rfl
  · rw [List.append_assoc]
    exact (h1.fr fun k h3 => hk k (List.mem_append_left _ h3)).append ⟨us', x2, f, f2, rfl, rfl, ho', h2.fr fun k h3 => hk k (List.mem_append_right _ h3)⟩
theorem OwnL.low {α : Type} {e : TypeId} {c : Cod α} {w : World} {B B' : Nat} {v : Value} {l : List α} {xs : List Value} {fp : List Nat} (h : OwnL e c w B v l xs fp) (hb : B' ≤ B) : OwnL e c w B' v l xs fp := ⟨ownsRow_low h.row hb, h.all.low hb, h.nd⟩
theorem OwnL.stay {α : Type} {e : TypeId} {c : Cod α} {w w' : World} {B : Nat} {v : Value} {l : List α} {xs : List Value} {fp : List Nat} (h : OwnL e c w B v l xs fp) (hb : Below w.heap.size w w') : OwnL e c w' B v l xs fp := h.fr fun k hk => hb.block k (h.ins k hk).2
theorem OwnL.other {α : Type} {e : TypeId} {c : Cod α} {w w' : World} {B : Nat} {v : Value} {l : List α} {xs : List Value} {fp fq : List Nat} (h : OwnL e c w B v l xs fp) (ho : Only fq w w') (hd : ∀ k, k ∈ v.ownBlock.toList ++ fp → k ∉ fq) : OwnL e c w' B v l xs fp :=
  h.fr fun k hk => ho.block k (h.ins k hk).2 (hd k hk)

/-- A list with one datum more behind it: what append leaves. -/
theorem OwnL.push {α : Type} {e : TypeId} {c : Cod α} {w w' : World} {B g k : Nat} {v v' : Value} {l : List α} {a : α} {xs us : List Value} {fp f : List Nat} (h : OwnL e c w B v l xs fp) (ha : c.own w B a us f) (hd : ∀ k, k ∈ f → k ∉ v.ownBlock.toList ++ fp)
    (hrow : w'.ownsRow B e c.n v' k (xs ++ us)) (hk : k = (l ++ [a]).length) (hg : w.grownBy w' v.ownBlock) (hv : v'.ownBlock = some g) (hat : v.ownBlock = some g ∨ g = w.heap.size) : OwnL e c w' B v' (l ++ [a]) (xs ++ us) (fp ++ f) := by
  subst hk
  have hnd := h.nd
  have hv1 := (List.nodup_append.1 hnd).2.2
  have keep : ∀ k, k ∈ fp ++ f → w'.heap[k]? = w.heap[k]? := fun k hk => by
    rcases List.mem_append.1 hk with h1 | h1
    · exact hg.block k (h.all.ins k h1).2 (fun e => hv1 k (mem_opt.2 e.symm) k h1 rfl)
    · exact hg.block k (c.ins ha k h1).2 (fun e => hd k h1 (List.mem_append_left _ (mem_opt.2 e.symm)))
  refine ⟨hrow, (h.all.fr fun k h1 => keep k (List.mem_append_left _ h1)).snoc (c.fr ha fun k h1 => keep k (List.mem_append_right _ h1)), ?_⟩
  have hff : (fp ++ f).Nodup := List.nodup_append.2 ⟨(List.nodup_append.1 hnd).2.1, c.nd ha, fun x hx y hy e => by subst e; exact hd x hy (List.mem_append_right _ hx)⟩
  rw [hv]
  refine List.nodup_append.2 ⟨nodup_opt _, hff, fun x hx y hy e => ?_⟩
  subst e
  have hx' : x = g := by simpa using hx
  subst hx'
  rcases hat with h1 | h1
  · rcases List.mem_append.1 hy with h2 | h2
    · exact hv1 x (mem_opt.2 h1) x h2 rfl
    · exact hd x h2 (List.mem_append_left _ (mem_opt.2 h1))
  · rcases List.mem_append.1 hy with h2 | h2
    · have := (h.all.ins x h2).2; omega
    · have := (c.ins ha x h2).2; omega

/-- Lists. -/
def listC {α : Type} (e : TypeId) (c : Cod α) : Cod (List α) where
  n := 1
  rep := fun w l vs => ∃ p q, vs = [.slice p l.length q] ∧ RdL c w p q l
  own := fun w B l vs fp => ∃ v xs f, vs = [v] ∧ OwnL e c w B v l xs f ∧ fp = v.ownBlock.toList ++ f
  len := fun ⟨_, _, h, _⟩ => by rw [h]; rfl
  one := fun ⟨_, _, h, _⟩ u hu => by rw [h] at hu; rw [List.mem_singleton.1 hu]; rfl
  keep := fun ⟨p, q, h, r⟩ hb => ⟨p, q, h, r.keep hb⟩
  toRep := fun ⟨v, xs, f, h, o, _⟩ => by
    obtain ⟨p, q, e, r⟩ := o.rd
    exact ⟨p, q, by rw [h, e], r⟩
  ins := fun ⟨_, _, _, _, o, h⟩ k hk => by rw [h] at hk; exact o.ins k hk
  nd := fun ⟨_, _, _, _, o, h⟩ => by rw [h]; exact o.nd
  fr := fun ⟨v, xs, f, h, o, hf⟩ hk => ⟨v, xs, f, h, o.fr fun k h1 => hk k (by rw [hf]; exact h1), hf⟩
  low := fun ⟨v, xs, f, h, o, hf⟩ hb => ⟨v, xs, f, h, ⟨ownsRow_low o.row hb, o.all.low hb, o.nd⟩, hf⟩

def setList : List Value → Nat → List Value → List Value
  | l, _, [] => l
  | l, i, u :: us => setList (l.set i u) (i + 1) us
theorem setList_put : ∀ (us ys xs zs : List Value), ys.length = us.length → setList (xs ++ ys ++ zs) xs.length us = xs ++ us ++ zs
  | [], [], xs, zs, _ => by simp [setList]
  | u :: us, y :: ys, xs, zs, h => by
    have e : (xs ++ (y :: ys) ++ zs).set xs.length u = (xs ++ [u]) ++ ys ++ zs := by simp
    have h2 := setList_put us ys (xs ++ [u]) zs (by simpa using h)
    rw [setList, e]
    rw [List.length_append, List.length_singleton] at h2
    rw [h2]
    simp
/-- The cells of a row that is filled from its first element on: behind k elements. -/
theorem row_put {xs M us : List Value} {k n c : Nat} (hx : xs.length = k * c) (hM : M.length = n * c) (hk : k < n) (hu : us.length = c) : setList (xs ++ M.drop (k * c)) (k * c) us = (xs ++ us) ++ M.drop ((k + 1) * c) := by
  have hle : (k + 1) * c ≤ n * c := Nat.mul_le_mul_right _ hk
  rw [Nat.add_mul, Nat.one_mul] at hle
  have e : M.drop (k * c) = (M.drop (k * c)).take c ++ M.drop ((k + 1) * c) := by
    rw [Nat.add_mul, Nat.one_mul, ← List.drop_drop, List.take_append_drop]
  rw [e, ← List.append_assoc, ← hx]
  exact setList_put us _ xs _ (by rw [List.length_take, List.length_drop, hu]; omega)
theorem row_at {xs M : List Value} {k n c j : Nat} (hx : xs.length = k * c) (hM : M.length = n * c) (hk : k < n) (hj : j < c) : ∃ u, (xs ++ M.drop (k * c))[k * c + j]? = some u := by
  have hle : (k + 1) * c ≤ n * c := Nat.mul_le_mul_right _ hk
  rw [Nat.add_mul, Nat.one_mul] at hle
  exact ⟨_, List.getElem?_eq_getElem (by rw [List.length_append, List.length_drop]; omega)⟩
theorem drop_at {α : Type} {l : List α} {k : Nat} {a : α} (h : l[k]? = some a) : l.drop k = a :: l.drop (k + 1) := by
  obtain ⟨hk, e⟩ := List.getElem?_eq_some_iff.1 h
  rw [List.drop_eq_getElem_cons hk, e]
def szR (n : Nat) (left : Int) : Int := if (n : Int) ≤ left then left - n else -1
theorem szR_neg {n : Nat} {left : Int} (h : szR n left < 0) : ¬ ((n : Int) ≤ left) := fun hc => by rw [szR, if_pos hc] at h; omega
end Go.Proofs.YthiabbgkfmopiaaGreat

