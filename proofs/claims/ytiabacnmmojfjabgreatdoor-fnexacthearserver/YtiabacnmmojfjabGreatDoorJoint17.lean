/- Memory in which some blocks are struck out ('blank'), with no program in it: what can be read there can be read whatever is written into those blocks. No conditions but those in each line. -/
import Derived.Test.YtiabacnmmojfjabGreatDoorCod
import Derived.Test.YtiabacnmmojfjabGreatDoorJoint9
import Derived.Test.YtiabacnmmojfjabGreatDoorJoint13
import Derived.Lib.AppendZeros
import Derived.Laws.AppendOwnNone
import Derived.Test.YtiabacnmmojfjabGreatDoorJoint16
namespace Go.Proofs.YtiabacnmmojfjabGreatDoor
open Go.RowKit

/-- All that can be read here can be read there. -/
def Sees (w w' : World) : Prop := ∀ p v, w.cell? p = some v → w'.cell? p = some v
theorem Sees.refl (w : World) : Sees w w := fun _ _ h => h
theorem Sees.trans {a b c : World} (h : Sees a b) (k : Sees b c) : Sees a c := fun p v e => k p v (h p v e)
theorem Sees.of_below {w w' : World} (h : Below w.heap.size w w') : Sees w w' := fun _ _ e => cell_keep e h

/-- Some blocks are struck out. -/
def blank (S : List Nat) (w : World) : World := { w with heap := w.heap.mapIdx fun k o => if k ∈ S then .cells #[] 0 (0, 0) else o }
theorem blank_size (S : List Nat) (w : World) : (blank S w).heap.size = w.heap.size := by simp [blank]
theorem blank_out {S : List Nat} {w : World} {k : Nat} (h : k ∉ S) : (blank S w).heap[k]? = w.heap[k]? := by
  simp only [blank, Array.getElem?_mapIdx, if_neg h]
  cases w.heap[k]? <;> rfl
theorem blank_in {S : List Nat} {w : World} {k o : Nat} {v : Value} {s : Option Nat} (h : k ∈ S) : ¬ (blank S w).cell? ⟨k, o, s⟩ = some v := by
  intro e
  simp only [World.cell?, blank, Array.getElem?_mapIdx, if_pos h] at e
  cases hw : w.heap[k]? with
  | none => rw [hw] at e; simp at e
  | some x => rw [hw] at e; cases s <;> simp at e
theorem blank_cell {S : List Nat} {w : World} {p : Addr} {v : Value} (h : (blank S w).cell? p = some v) : p.block ∉ S ∧ w.cell? p = some v := by
  have hn : p.block ∉ S := fun hm => blank_in (o := p.off) (s := p.spot) hm h
  exact ⟨hn, by rw [← h]; exact (World.cell?_of_block (w := w) (w' := blank S w) (a := p) (blank_out hn)).symm⟩
theorem cell_blank {S : List Nat} {w : World} {p : Addr} {v : Value} (h : w.cell? p = some v) (hn : p.block ∉ S) : (blank S w).cell? p = some v :=
  (World.cell?_of_block (w := w) (w' := blank S w) (a := p) (blank_out hn)).trans h
theorem blank_le (S : List Nat) (w : World) : Sees (blank S w) w := fun _ _ h => (blank_cell h).2
/-- What is read aside of the struck blocks stays, where no other block turns. -/
theorem blank_sees {S S' : List Nat} {w w' : World} (h : ∀ k, k < w.heap.size → k ∉ S → k ∉ S' ∧ w'.heap[k]? = w.heap[k]?) : Sees (blank S w) (blank S' w') := fun p v e => by
  obtain ⟨h1, h2⟩ := blank_cell e
  obtain ⟨h3, h4⟩ := h p.block (World.block_lt_of_cell? w _ h2) h1
  exact cell_blank ((World.cell?_of_block (w := w) (a := p) h4).trans h2) h3
theorem blank_only {S : List Nat} {w w' : World} (h : Only S w w') : Sees (blank S w) (blank S w') := blank_sees fun k hk hn => ⟨hn, h.block k hk hn⟩
theorem blank_below {S : List Nat} {w w' : World} (h : Below w.heap.size w w') : Sees (blank S w) (blank S w') := blank_sees fun k hk hn => ⟨hn, h.block k hk⟩
theorem Cod.blanked {α : Type} (c : Cod α) {S : List Nat} {w : World} {B : Nat} {a : α} {vs : List Value} {fp : List Nat} (h : c.own w B a vs fp) (hd : ∀ k, k ∈ fp → k ∉ S) : c.rep (blank S w) a vs :=
  c.toRep (c.fr h fun k hk => blank_out (hd k hk))

theorem Rd.sees {w w' : World} {a : Option Addr} {cap : Nat} {bs : List UInt8} (h : Rd w a cap bs) (hs : Sees w w') : Rd w' a cap bs := by
  obtain ⟨h1, h2, h3, h4⟩ := h
  refine ⟨h1, h2, h3, fun hp => ?_⟩
  obtain ⟨b, o, rfl, hc⟩ := h4 hp
  exact ⟨b, o, rfl, fun i hi => hs _ _ (hc i hi)⟩
/-- Data that hang on what can be read alone. -/
def Cod.Mono {α : Type} (c : Cod α) : Prop := ∀ {w w' : World} {a : α} {vs : List Value}, Sees w w' → c.rep w a vs → c.rep w' a vs
theorem intC_mono (k : IntKind) : (intC k).Mono := fun _ h => h
theorem bytC_mono : bytC.Mono := fun hs ⟨p, q, h, r⟩ => ⟨p, q, h, r.sees hs⟩
theorem prodC_mono {α β : Type} {c : Cod α} {d : Cod β} (hc : c.Mono) (hd : d.Mono) : (prodC c d).Mono := fun hs ⟨us, ts, h, h1, h2⟩ => ⟨us, ts, h, hc hs h1, hd hs h2⟩
theorem RdL.sees {α : Type} {c : Cod α} (hc : c.Mono) {w w' : World} {p : Option Addr} {q : Nat} {l : List α} (h : RdL c w p q l) (hs : Sees w w') : RdL c w' p q l := by
  obtain ⟨h1, h2, h3, h4⟩ := h
  refine ⟨h1, h2, h3, fun hp => ?_⟩
  obtain ⟨b, o, rfl, hi⟩ := h4 hp
  refine ⟨b, o, rfl, fun i a ha => ?_⟩
  obtain ⟨us, hr, hu⟩ := hi i a ha
  exact ⟨us, hc hs hr, fun j u hj => hs _ _ (hu j u hj)⟩
theorem listC_mono {α : Type} {e : TypeId} {c : Cod α} (hc : c.Mono) : (listC e c).Mono := fun hs ⟨p, q, h, r⟩ => ⟨p, q, h, r.sees hc hs⟩
/-- What is read in blocks below B stays where these blocks stay. -/
theorem Sees.below_of {B : Nat} {W w : World} (hB : B = W.heap.size) (h : Below B W w) (S : List Nat) (hS : ∀ k, k ∈ S → B ≤ k) : Sees W (blank S w) := fun p v e => by
  have hl := World.block_lt_of_cell? W _ e
  exact cell_blank ((World.cell?_of_block (w := W) (a := p) (h.block p.block (by omega))).trans e) (fun hm => by have := hS _ hm; omega)
end Go.Proofs.YtiabacnmmojfjabGreatDoor

/- The cells of a list in memory as they lie, with no program in it: 'Raw'; data that can be read in them: 'RepAll'. No conditions but those in each line. -/
namespace Go.Proofs.YtiabacnmmojfjabGreatDoor
open Go.RowKit

/-- The cells of a slice of n elements of z cells each. -/
def Raw (w : World) (p : Option Addr) (q n z : Nat) (xs : List Value) : Prop :=
  xs.length = n * z ∧ n ≤ q ∧ q ≤ maxLen ∧ (p = none → q = 0) ∧ (0 < n → ∃ b o, p = some ⟨b, o, none⟩ ∧ ∀ j u, xs[j]? = some u → w.cell? ⟨b, o + j, none⟩ = some u)
/-- Data one behind the other. -/
def RepAll {α : Type} (c : Cod α) (w : World) : List α → List Value → Prop
  | [], xs => xs = []
  | a :: l, xs => ∃ us ys, xs = us ++ ys ∧ c.rep w a us ∧ RepAll c w l ys
theorem RepAll.len {α : Type} {c : Cod α} {w : World} : ∀ {l : List α} {xs : List Value}, RepAll c w l xs → xs.length = l.length * c.n
  | [], _, h => by rw [h]; simp
  | _ :: l, _, ⟨us, ys, hx, ho, hl⟩ => by rw [hx, List.length_append, c.len ho, RepAll.len hl, List.length_cons, Nat.add_mul, Nat.one_mul, Nat.add_comm]
theorem RepAll.one {α : Type} {c : Cod α} {w : World} : ∀ {l : List α} {xs : List Value}, RepAll c w l xs → ∀ u ∈ xs, u.oneCell' = true
  | [], _, h => fun u hu => by rw [h] at hu; cases hu
  | _ :: l, _, ⟨us, ys, hx, ho, hl⟩ => fun u hu => by
    rw [hx] at hu
    rcases List.mem_append.1 hu with h1 | h1
    · exact c.one ho u h1
    · exact RepAll.one hl u h1
theorem RepAll.sees {α : Type} {c : Cod α} (hc : c.Mono) {w w' : World} (hs : Sees w w') : ∀ {l : List α} {xs : List Value}, RepAll c w l xs → RepAll c w' l xs
  | [], _, h => h
  | _ :: _, _, ⟨us, ys, hx, ho, hl⟩ => ⟨us, ys, hx, hc hs ho, RepAll.sees hc hs hl⟩
theorem RepAll.append {α : Type} {c : Cod α} {w : World} : ∀ {l m : List α} {xs ys : List Value}, RepAll c w l xs → RepAll c w m ys → RepAll c w (l ++ m) (xs ++ ys)
  | [], _, _, _, h, k => by rw [h]; exact k
  | _ :: _, _, _, _, ⟨us, zs, hx, ho, hl⟩, k => ⟨us, zs ++ _, by rw [hx, List.append_assoc], ho, RepAll.append hl k⟩
theorem RepAll.single {α : Type} {c : Cod α} {w : World} {a : α} {us : List Value} (h : c.rep w a us) : RepAll c w [a] us := ⟨us, [], by simp, h, rfl⟩
theorem RepAll.at {α : Type} {c : Cod α} {w : World} : ∀ {l : List α} {xs : List Value}, RepAll c w l xs → ∀ i a, l[i]? = some a → ∃ us, c.rep w a us ∧ ∀ j u, us[j]? = some u → xs[i * c.n + j]? = some u
  | [], _, _ => fun i a hi => by simp at hi
  | b :: l, _, ⟨us, ys, hx, ho, hl⟩ => fun i a hi => by
    have hn := c.len ho
    match i, hi with
    | 0, hi =>
      simp at hi; subst hi
      refine ⟨us, ho, fun j u hj => ?_⟩
      rw [hx, Nat.zero_mul, Nat.zero_add, List.getElem?_append_left (List.getElem?_eq_some_iff.1 hj).1]; exact hj
    | i + 1, hi =>
      obtain ⟨ts, hr, ht⟩ := RepAll.at hl i a (by simpa using hi)
      refine ⟨ts, hr, fun j u hj => ?_⟩
      rw [hx, List.getElem?_append_right (by rw [hn, Nat.add_mul, Nat.one_mul]; omega), show (i + 1) * c.n + j - us.length = i * c.n + j by rw [hn, Nat.add_mul, Nat.one_mul]; omega]
      exact ht j u hj
theorem rep_cells {α : Type} {c : Cod α} {w : World} {b : Nat} : ∀ {l : List α} {o : Nat}, (∀ i a, l[i]? = some a → ∃ us, c.rep w a us ∧ ∀ j u, us[j]? = some u → w.cell? ⟨b, o + i * c.n + j, none⟩ = some u) → ∃ xs, RepAll c w l xs ∧ ∀ j u, xs[j]? = some u → w.cell? ⟨b, o + j, none⟩ = some u
  | [], _, _ => ⟨[], rfl, fun j u hj => by simp at hj⟩
  | a :: l, o, h => by
    obtain ⟨us, hr, hu⟩ := h 0 a rfl
    obtain ⟨ys, hy, hyu⟩ := rep_cells (l := l) (o := o + c.n) (fun i d hd => by
      obtain ⟨ts, h1, h2⟩ := h (i + 1) d (by simpa using hd)
      exact ⟨ts, h1, fun j u hj => by rw [show o + c.n + i * c.n + j = o + (i + 1) * c.n + j by rw [Nat.add_mul, Nat.one_mul]; omega]; exact h2 j u hj⟩)
    refine ⟨us ++ ys, ⟨us, ys, rfl, hr, hy⟩, fun j u hj => ?_⟩
    have hn := c.len hr
    by_cases hl : j < us.length
    · rw [List.getElem?_append_left hl] at hj
      have := hu j u hj
      rw [Nat.zero_mul, Nat.add_zero] at this
      exact this
    · rw [List.getElem?_append_right (by omega)] at hj
      have := hyu _ u hj
      rw [show o + j = o + c.n + (j - us.length) by omega]
      exact this
theorem RdL.raw {α : Type} {c : Cod α} {w : World} {p : Option Addr} {q : Nat} {l : List α} (h : RdL c w p q l) : ∃ xs, Raw w p q l.length c.n xs ∧ RepAll c w l xs := by
  obtain ⟨h1, h2, h3, h4⟩ := h
  by_cases h0 : 0 < l.length
  · obtain ⟨b, o, rfl, hc⟩ := h4 h0
    obtain ⟨xs, hr, hx⟩ := rep_cells hc
    exact ⟨xs, ⟨hr.len, h1, h2, h3, fun _ => ⟨b, o, rfl, hx⟩⟩, hr⟩
  · have hl : l = [] := List.eq_nil_of_length_eq_zero (by omega)
    subst hl
    exact ⟨[], ⟨by simp, h1, h2, h3, fun h => absurd h (by simp)⟩, rfl⟩
theorem Raw.rdL {α : Type} {c : Cod α} {w V : World} {p : Option Addr} {q : Nat} {l : List α} {xs : List Value} (h : Raw V p q l.length c.n xs) (hr : RepAll c V l xs) (hs : Sees V w) (hc : c.Mono) : RdL c w p q l := by
  obtain ⟨-, h1, h2, h3, h4⟩ := h
  refine ⟨h1, h2, h3, fun hp => ?_⟩
  obtain ⟨b, o, rfl, hx⟩ := h4 hp
  refine ⟨b, o, rfl, fun i a hi => ?_⟩
  obtain ⟨us, h5, h6⟩ := hr.at i a hi
  exact ⟨us, hc hs h5, fun j u hj => by rw [Nat.add_assoc]; exact hs _ _ (hx _ u (h6 j u hj))⟩
theorem Raw.sees {w w' : World} {p : Option Addr} {q n z : Nat} {xs : List Value} (h : Raw w p q n z xs) (hs : Sees w w') : Raw w' p q n z xs :=
  ⟨h.1, h.2.1, h.2.2.1, h.2.2.2.1, fun hp => by
    obtain ⟨b, o, e, hx⟩ := h.2.2.2.2 hp
    exact ⟨b, o, e, fun j u hj => hs _ _ (hx j u hj)⟩⟩
theorem Raw.keep {w w' : World} {p : Option Addr} {q n z : Nat} {xs : List Value} (h : Raw w p q n z xs) (hb : Below w.heap.size w w') : Raw w' p q n z xs := h.sees (Sees.of_below hb)
theorem ownsRow_raw {w : World} {B : Nat} {e : TypeId} {z n : Nat} {v : Value} {xs : List Value} (h : w.ownsRow B e z v n xs) : ∃ p q, v = .slice p n q ∧ Raw w p q n z xs := by
  have h0 := h
  rcases h.2 with ⟨rfl, hn⟩ | ⟨g, cap, cur, rfl, hb, hg, hle, hm, hs, ht⟩
  · exact ⟨none, 0, by rw [hn], h.1, by omega, by simp [maxLen], fun _ => rfl, fun hp => by omega⟩
  · refine ⟨_, cap, rfl, h.1, hle, hm, fun hh => by simp at hh, fun _ => ⟨g, 0, rfl, fun j u hj => ?_⟩⟩
    have hlt : j < n * z := by rw [← h.1]; exact (List.getElem?_eq_some_iff.1 hj).1
    rw [Nat.zero_add, World.ownsRow.cellAt h0 _ hlt]; exact hj
theorem Raw.none_len {w : World} {q n z : Nat} {xs : List Value} (h : Raw w none q n z xs) : n = 0 ∧ q = 0 ∧ xs = [] := by
  have hq := h.2.2.2.1 rfl
  have hn : n = 0 := by have := h.2.1; omega
  subst hn
  exact ⟨rfl, hq, List.eq_nil_of_length_eq_zero (by rw [h.1, Nat.zero_mul])⟩
end Go.Proofs.YtiabacnmmojfjabGreatDoor

/- slices.Grow of nothing and slices.Concat of two lists of messages in the program: the cells of both, one behind the other, in a row of their own. What was there stays. -/
namespace Go.Proofs.YtiabacnmmojfjabGreatDoor
open Go.ChangeShapes Go.WideShapes Go.ChangeAt Go.RowKit

theorem msgC_mono : msgC.Mono := prodC_mono (intC_mono _) bytC_mono
theorem msgsC_mono : msgsC.Mono := listC_mono msgC_mono
/-- append(s, x...) where s lies in a row of its own, and the cells of x are known. -/
theorem wpList_append_rawM {w : World} {ops : Array Oper} {rest : List Oper} {o : Oper} {a : Act} {Q : Exit → Act → World → Prop} (hgd : o.guard = none) (s x : Operand)
    (ho : o.op = .call { callee := .builtin .append, args := #[s, x], argTypes := #[33, 33] })
    (B : Nat) (v : Value) (n : Nat) (xs : List Value) (hs : a.eval s = v) (hown : w.ownsRow B 53 2 v n xs) (p : Option Addr) (q m : Nat) (ys : List Value) (hx : a.eval x = .slice p m q) (hr : Raw w p q m 2 ys) (h1 : ∀ u ∈ ys, u.oneCell' = true)
    (hl : n + m ≤ 1000000) (hB : B ≤ w.heap.size)
    (h : ∀ v' w', w'.ownsRow B 53 2 v' (n + m) (xs ++ ys) → w.grownBy w' v.ownBlock → wpList Tryz.prog ops Q rest (a.put o.dst v') w') : wpList Tryz.prog ops Q (o :: rest) a w := by
  obtain ⟨i0, hi, hz0, hz1, hz2⟩ := info_parts infoMsg
  cases p with
  | none =>
    obtain ⟨rfl, rfl, rfl⟩ := hr.none_len
    refine wpList_append_own_none hgd s x _ ho B _ i0 2 Tryz.underlying33 hi v n _ hs hown hx ?_
    exact h v w (by rw [List.append_nil]; exact hown) (World.grownBy.refl _ _)
  | some ad =>
    refine wpList_append_own _ hgd s x _ ho B 53 i0 (.agg #[.int .i64 0, .slice none 0 0]) 2 32 Tryz.underlying33 hi hz0 hz1 hz2 rfl (by decide) v n xs hs hown ad m q ys hx hr.1 ?_ h1 (by unfold maxLen; omega) (by omega) hB fun v' w' h2 h3 _ => h v' w' h2 h3
    intro j u hu
    have hj : j < m * 2 := by rw [← hr.1]; exact (List.getElem?_eq_some_iff.1 hu).1
    obtain ⟨b, off, e, hc⟩ := hr.2.2.2.2 (by omega)
    cases e
    rw [addr_add]
    exact hc j u hu
set_option maxRecDepth 4000 in
set_option maxHeartbeats 1000000 in
theorem grow_c (n : Nat) (w : World) (h0 : 0 < n) (hn : n ≤ 1000000) :
    Calls Tryz.prog 172 #[.slice none 0 0, .int .i64 (n : Int)] w fun e w' => ∃ g cap, e = .returned (.slice (some ⟨g, 0, none⟩) 0 cap) ∧ w'.ownsRow w.heap.size 53 2 (.slice (some ⟨g, 0, none⟩) 0 cap) 0 [] ∧ Below w.heap.size w w' := by
  obtain ⟨i0, hi, hz0, hz1, hz2⟩ := info_parts infoMsg
  have hI : 0 < (n : Int) := by omega
  have hI2 : (n : Int) ≤ 1000000 := by omega
  have hr := Lib.run_append_nil_zeros (P := Tryz.prog) w 33 3 33 53 i0 (.agg #[.int .i64 0, .slice none 0 0]) .i64 .i64 Tryz.underlying33 Tryz.underlying3 hi hz0 n h0 (by rw [hz1]; decide) (by omega) (by rw [hz2]; omega)
  have hge := grownCap_ge w n 0 53
  have hcm : grownCap w n 0 53 ≤ maxLen := grownCap_le_maxLen w n 0 53 (by unfold maxLen; omega)
  have hown := World.ownsRow_made (base := w.heap.size) (e := 53) (size := 2) w.drew (Builtin.zeroCells (Value.cells (.agg #[.int .i64 0, .slice none 0 0])) n ++ Builtin.zeroCells (Value.cells (.agg #[.int .i64 0, .slice none 0 0])) (grownCap w n 0 53 - n)) (grownCap w n 0 53) (Nat.le_refl _) hcm (by
    rw [Array.size_append, size_zeroCells, size_zeroCells, ← Nat.add_mul]
    show _ * 2 = _
    congr 1
    omega)
  have hb : Below w.heap.size w (w.drew.alloc (.cells (Builtin.zeroCells (Value.cells (.agg #[.int .i64 0, .slice none 0 0])) n ++ Builtin.zeroCells (Value.cells (.agg #[.int .i64 0, .slice none 0 0])) (grownCap w n 0 53 - n)) 53)) := Below.mk (Below.refl _ _).drew _
  generalize w.drew.alloc (.cells (Builtin.zeroCells (Value.cells (.agg #[.int .i64 0, .slice none 0 0])) n ++ Builtin.zeroCells (Value.cells (.agg #[.int .i64 0, .slice none 0 0])) (grownCap w n 0 53 - n)) 53) = W at *
  generalize grownCap w n 0 53 = cap at *
  have hcap : (cap : Int) ≤ 9223372036854775807 := by unfold maxLen at hcm; omega
  clear hi hz0 hz1 hz2 hge
  go_enter Tryz.func172, Tryz.ntmps172
  go_wp2_with (at_builtin; refine Lib.wpList_append_run _ rfl _ _ _ _ rfl _ _ rfl rfl _ _ hr ?_)
  go_ret
  exact ⟨_, _, rfl, hown, hb⟩
set_option maxRecDepth 4000 in
set_option maxHeartbeats 2000000 in
theorem concat_c (g n1 n2 q1 q2 : Nat) (p1 p2 : Option Addr) (xs ys : List Value) (w : World) (A : Arr w g 33 [.slice p1 n1 q1, .slice p2 n2 q2]) (r1 : Raw w p1 q1 n1 2 xs) (r2 : Raw w p2 q2 n2 2 ys) (o1 : ∀ u ∈ xs, u.oneCell' = true) (o2 : ∀ u ∈ ys, u.oneCell' = true) (h0 : 0 < n1 + n2) (hn : n1 + n2 ≤ 1000000) :
    Calls Tryz.prog 144 #[.slice (some ⟨g, 0, none⟩) 2 2] w fun e w' => ∃ v, e = .returned v ∧ w'.ownsRow w.heap.size 53 2 v (n1 + n2) (xs ++ ys) ∧ Below w.heap.size w w' := by
  have HR1 : Hid (Raw w p1 q1 n1 2 xs) := r1
  have HR2 : Hid (Raw w p2 q2 n2 2 ys) := r2
  have HO1 : Hid (∀ u ∈ xs, u.oneCell' = true) := o1
  have HO2 : Hid (∀ u ∈ ys, u.oneCell' = true) := o2
  have c0 := (A.cell 0).trans (show _ = some _ from rfl)
  have c1 := (A.cell 1).trans (show _ = some _ from rfl)
  have hn1 : (n1 : Int) ≤ 1000000 := by omega
  have hn2 : (n2 : Int) ≤ 1000000 := by omega
  have hn3 : (n1 : Int) + (n2 : Int) ≤ 1000000 := by omega
  have KG := fun w => grow_c (n1 + n2) w h0 hn
  have HN : Hid (n1 + n2 ≤ 1000000) := hn
  clear r1 r2 o1 o2 h0 hn
  go_enter Tryz.func144, Tryz.ntmps144
  go_wp2_with fail
  go_loopw [3, 11] (fun sz i wr => ((i = .int .i64 0 ∧ sz = .int .i64 0) ∨ (i = .int .i64 1 ∧ sz = .int .i64 (n1 : Int)) ∨ (i = .int .i64 2 ∧ sz = .int .i64 ((n1 : Int) + (n2 : Int)))) ∧ wr = w)
    (fun _ i _ => 2 - (intOf i).toNat)
  case atStart => exact ⟨.inl ⟨rfl, rfl⟩, rfl⟩
  case round =>
    obtain ⟨⟨rfl, rfl⟩ | ⟨rfl, rfl⟩ | ⟨rfl, rfl⟩, rfl⟩ := hrel
    · go_wp2_with fail
      go_roundw
      case rel => exact ⟨.inr (.inl ⟨by go_num, by go_num⟩), trivial⟩
      case measure => simp [intOf]
    · go_wp2_with fail
      go_roundw
      case rel => exact ⟨.inr (.inr ⟨by go_num, by go_num⟩), trivial⟩
      case measure => simp [intOf]
    · go_wp2_with fail
      have kg := KG wr
      rw [Int.natCast_add] at kg
      have HG : Hid (g < wr.heap.size) := A.lt
      refine kg.mono ?_
      rintro e w1 ⟨g1, cap1, rfl, hown, hb1⟩
      replace A := A.stay hb1
      obtain ⟨w3, e3⟩ : ∃ v, v = wr := ⟨_, rfl⟩
      subst e3
      clear kg KG c0 c1
      go_wp2_with fail
      go_loopw [6, 27] (fun v i wx => ((i = .int .i64 0 ∧ wx.ownsRow w3.heap.size 53 2 v 0 []) ∨ (i = .int .i64 1 ∧ wx.ownsRow w3.heap.size 53 2 v n1 xs) ∨ (i = .int .i64 2 ∧ wx.ownsRow w3.heap.size 53 2 v (n1 + n2) (xs ++ ys))) ∧ Below w3.heap.size w3 wx ∧ Arr wx g 33 [.slice p1 n1 q1, .slice p2 n2 q2])
        (fun _ i _ => 2 - (intOf i).toNat)
      case atStart => exact ⟨.inl ⟨rfl, hown⟩, hb1, A⟩
      case round =>
        clear hown hb1 A
        obtain ⟨⟨rfl, ho⟩ | ⟨rfl, ho⟩ | ⟨rfl, ho⟩, BX, AX⟩ := hrel
        · skip
          have c := (AX.cell 0).trans (show _ = some _ from rfl)
          obtain ⟨p6, q6, rfl, r6⟩ := ownsRow_raw ho
          have HQ6 : Hid (q6 ≤ 2 ^ 63 - 1) := r6.2.2.1
          have RR := HR1.out.keep BX
          have hge : Hid (∀ k, (Value.slice p6 0 q6).ownBlock = some k → w3.heap.size ≤ k) := fun k hk => (World.ownsRow.lt ho k hk).1
          clear r6
          go_wp2_with (at_builtin; refine wpList_append_rawM rfl (.tmp 31) (.tmp 32) rfl w3.heap.size (.slice p6 0 q6) 0 [] rfl ho p1 q1 n1 xs rfl RR HO1.out (by have := HN.out; omega) BX.size ?_; intro v7 w7 ho7 hg7)
          replace BX := BX.grown hg7 BX.size (fun k hk => hge.out k hk)
          replace AX := AX.other hg7 (fun e => by have h1 := hge.out g e; have h2 := HG.out; omega)
          obtain ⟨p7, q7, rfl, r7⟩ := ownsRow_raw ho7
          clear ho hg7 RR c r7
          go_wp2_with fail
          go_roundw
          case rel => exact ⟨.inr (.inl ⟨by go_num, by rw [Nat.zero_add, List.nil_append] at ho7; first | exact ho7 | (rw [Nat.zero_add]; exact ho7)⟩), BX, AX⟩
          case measure => simp [intOf]
        · skip
          have c := (AX.cell 1).trans (show _ = some _ from rfl)
          obtain ⟨p6, q6, rfl, r6⟩ := ownsRow_raw ho
          have HQ6 : Hid (q6 ≤ 2 ^ 63 - 1) := r6.2.2.1
          have RR := HR2.out.keep BX
          have hge : Hid (∀ k, (Value.slice p6 n1 q6).ownBlock = some k → w3.heap.size ≤ k) := fun k hk => (World.ownsRow.lt ho k hk).1
          clear r6
          go_wp2_with (at_builtin; refine wpList_append_rawM rfl (.tmp 31) (.tmp 32) rfl w3.heap.size (.slice p6 n1 q6) n1 xs rfl ho p2 q2 n2 ys rfl RR HO2.out (by have := HN.out; omega) BX.size ?_; intro v7 w7 ho7 hg7)
          replace BX := BX.grown hg7 BX.size (fun k hk => hge.out k hk)
          replace AX := AX.other hg7 (fun e => by have h1 := hge.out g e; have h2 := HG.out; omega)
          obtain ⟨p7, q7, rfl, r7⟩ := ownsRow_raw ho7
          clear ho hg7 RR c r7
          go_wp2_with fail
          go_roundw
          case rel => exact ⟨.inr (.inr ⟨by go_num, ho7⟩), BX, AX⟩
          case measure => simp [intOf]
        · obtain ⟨p6, q6, rfl, r6⟩ := ownsRow_raw ho
          clear r6
          go_wp2_with fail
          go_ret
          exact ⟨_, rfl, ho, BX⟩
end Go.Proofs.YtiabacnmmojfjabGreatDoor

/- An end on its way from stage to stage, as the program keeps it (impl.shake): its cells, what can be read from them, what it sends. No program in it. -/
namespace Go.Proofs.YtiabacnmmojfjabGreatDoor
open Go.ChangeShapes Go.WideShapes Go.ChangeAt Go.RowKit

/-- An end on its way: the end, what it heard, what it sends, the other one's hello, the secret. -/
structure ShkD where
  e : EndD
  heard : List MsgD
  send : List MsgD
  other : HelloD
  secret : List UInt8
theorem sideC_mono : sideC.Mono := prodC_mono (intC_mono _) (prodC_mono bytC_mono (prodC_mono (intC_mono _) bytC_mono))
theorem secretsC_mono : secretsC.Mono := prodC_mono bytC_mono (prodC_mono bytC_mono (prodC_mono bytC_mono bytC_mono))
theorem endC_mono : endC.Mono := prodC_mono sideC_mono (prodC_mono (intC_mono _) (prodC_mono (intC_mono _) (prodC_mono msgsC_mono (prodC_mono bytC_mono secretsC_mono))))
theorem helloC_mono : helloC.Mono := prodC_mono bytC_mono (prodC_mono (intC_mono _) (intC_mono _))
/-- What is struck out: the end's own block, and the row of what it sends. -/
def hide (b : Nat) (vs : Value) : List Nat := b :: vs.ownBlock.toList
/-- Its block holds these cells; it was made ahead of w0, all else of which stands; what it sends is its own. -/
structure ShkB (w0 : World) (b : Nat) (w : World) (vs : Value) (send : List MsgD) (xs : List Value) (f : List Nat) (row : List Value) : Prop where
  arr : Arr w b 90 row
  only : Only [b] w0 w
  lt : b < w0.heap.size
  own : OwnL 53 msgC w w0.heap.size vs send xs f
def Shk (w0 : World) (b : Nat) (w : World) (t : ShkD) : Prop :=
  ∃ us vh vs ho vk xs f, ShkB w0 b w vs t.send xs f (us ++ ([vh, vs] ++ (ho ++ [vk]))) ∧ endC.rep (blank (hide b vs) w) t.e us ∧ msgsC.rep (blank (hide b vs) w) t.heard [vh] ∧ helloC.rep (blank (hide b vs) w) t.other ho ∧ bytC.rep (blank (hide b vs) w) t.secret [vk]
section
variable {w0 w w' : World} {b : Nat} {vs : Value} {send : List MsgD} {xs : List Value} {f : List Nat} {row : List Value} {t : ShkD}
theorem ShkB.b_out (h : ShkB w0 b w vs send xs f row) : ∀ k, k ∈ vs.ownBlock.toList ++ f → k ≠ b := fun k hk e => by have := (h.own.ins k hk).1; have := h.lt; omega
theorem ShkB.stay (h : ShkB w0 b w vs send xs f row) (hb : Below w.heap.size w w') : ShkB w0 b w' vs send xs f row :=
  ⟨h.arr.stay hb, h.only.trans (Only.below hb), h.lt, h.own.stay hb⟩
theorem only_set (b i : Nat) (v : Value) (w : World) : Only [b] w (w.setCell ⟨b, i, none⟩ v) :=
  ⟨rfl, rfl, rfl, by rw [World.size_setCell]; exact Nat.le_refl _, fun k _ hn => heap_setCell_other w ⟨b, i, none⟩ k v (fun e => hn (by rw [e]; exact List.mem_singleton.2 rfl))⟩
theorem ShkB.set (h : ShkB w0 b w vs send xs f row) (i : Nat) (v : Value) : ShkB w0 b (w.setCell ⟨b, i, none⟩ v) vs send xs f (row.set i v) :=
  ⟨h.arr.set i v, h.only.trans (only_set b i v w), h.lt, h.own.fr fun k hk => heap_setCell_other w ⟨b, i, none⟩ k v (h.b_out k hk)⟩
theorem sees_set (b i : Nat) (v : Value) (w : World) (vs : Value) : Sees (blank (hide b vs) w) (blank (hide b vs) (w.setCell ⟨b, i, none⟩ v)) :=
  blank_sees fun k _ hn => ⟨hn, heap_setCell_other w ⟨b, i, none⟩ k v (fun e => hn (by rw [e]; exact List.mem_cons_self ..))⟩
/-- What was there ahead of the end's own block is left. -/
theorem Only.under {fp : List Nat} {a w0 w : World} (h : Below a.heap.size a w0) (hf : ∀ k, k ∈ fp → a.heap.size ≤ k) (k : Only fp w0 w) : Below a.heap.size a w := Below.only h k hf
theorem Shk.stay (h : Shk w0 b w t) (hb : Below w.heap.size w w') : Shk w0 b w' t := by
  obtain ⟨us, vh, vs, ho, vk, xs, f, hB, h1, h2, h3, h4⟩ := h
  have hs := blank_below (S := hide b vs) hb
  exact ⟨us, vh, vs, ho, vk, xs, f, hB.stay hb, endC_mono hs h1, msgsC_mono hs h2, helloC_mono hs h3, bytC_mono hs h4⟩
theorem Shk.only (h : Shk w0 b w t) : Only [b] w0 w := by
  obtain ⟨us, vh, vs, ho, vk, xs, f, hB, -⟩ := h
  exact hB.only
/-- The same, what it sends by name. -/
def ShkV (w0 : World) (b : Nat) (w : World) (t : ShkD) (vs : Value) (f : List Nat) : Prop :=
  ∃ us vh ho vk xs, ShkB w0 b w vs t.send xs f (us ++ ([vh, vs] ++ (ho ++ [vk]))) ∧ endC.rep (blank (hide b vs) w) t.e us ∧ msgsC.rep (blank (hide b vs) w) t.heard [vh] ∧ helloC.rep (blank (hide b vs) w) t.other ho ∧ bytC.rep (blank (hide b vs) w) t.secret [vk]
theorem Shk.v (h : Shk w0 b w t) : ∃ vs f, ShkV w0 b w t vs f := by
  obtain ⟨us, vh, vs, ho, vk, xs, f, h1⟩ := h
  exact ⟨vs, f, us, vh, ho, vk, xs, h1⟩
theorem ShkV.shk (h : ShkV w0 b w t vs f) : Shk w0 b w t := by
  obtain ⟨us, vh, ho, vk, xs, h1⟩ := h
  exact ⟨us, vh, vs, ho, vk, xs, f, h1⟩
theorem ShkV.stay (h : ShkV w0 b w t vs f) (hb : Below w.heap.size w w') : ShkV w0 b w' t vs f := by
  obtain ⟨us, vh, ho, vk, xs, hB, h1, h2, h3, h4⟩ := h
  have hs := blank_below (S := hide b vs) hb
  exact ⟨us, vh, ho, vk, xs, hB.stay hb, endC_mono hs h1, msgsC_mono hs h2, helloC_mono hs h3, bytC_mono hs h4⟩
theorem ShkV.ins (h : ShkV w0 b w t vs f) : ∀ k, k ∈ vs.ownBlock.toList ++ f → w0.heap.size ≤ k ∧ k < w.heap.size := by
  obtain ⟨us, vh, ho, vk, xs, hB, -⟩ := h
  exact hB.own.ins
theorem ShkV.blt (h : ShkV w0 b w t vs f) : b < w0.heap.size ∧ w0.heap.size ≤ w.heap.size := by
  obtain ⟨us, vh, ho, vk, xs, hB, -⟩ := h
  exact ⟨hB.lt, hB.only.size⟩
theorem ShkV.hid (h : ShkV w0 b w t vs f) : ∀ k, k ∈ hide b vs → k < w.heap.size := fun k hk => by
  rcases List.mem_cons.1 hk with rfl | h1
  · have := h.blt; omega
  · exact (h.ins k (List.mem_append_left _ h1)).2
/-- A row that is new can be read aside of the struck blocks. -/
theorem ownsRow_blank {B : Nat} {e : TypeId} {z n : Nat} {v : Value} {ys : List Value} {S : List Nat} (h : w.ownsRow B e z v n ys) (hS : ∀ k, k ∈ S → k < B) : (blank S w).ownsRow B e z v n ys :=
  ownsRow_fr h fun k hk => blank_out fun hm => by have := hS k hm; have := (World.ownsRow.lt h k hk).1; omega
theorem raw_arr {g z : Nat} {T : TypeId} {ys : List Value} (A : Arr w g T ys) (hz : ys.length = z) : Raw w (some ⟨g, 0, none⟩) 1 1 z ys :=
  ⟨by omega, Nat.le_refl _, by unfold maxLen; omega, (fun e => by cases e), fun _ => ⟨g, 0, rfl, fun j u hj => by rw [Nat.zero_add, A.cell j]; exact hj⟩⟩
def eL (e : EndD) (l : List MsgD) : EndD := (e.1, e.2.1, e.2.2.1, l, e.2.2.2.2.1, e.2.2.2.2.2)
def eSt (e : EndD) (k : Int) : EndD := (e.1, k, e.2.2.1, e.2.2.2.1, e.2.2.2.2.1, e.2.2.2.2.2)
def eMo (e : EndD) (k : Int) : EndD := (e.1, e.2.1, k, e.2.2.2.1, e.2.2.2.2.1, e.2.2.2.2.2)
def eBa (e : EndD) (x : List UInt8) : EndD := (e.1, e.2.1, e.2.2.1, e.2.2.2.1, x, e.2.2.2.2.2)
def eSe (e : EndD) (x : SecretsD) : EndD := (e.1, e.2.1, e.2.2.1, e.2.2.2.1, e.2.2.2.2.1, x)
/-- A world that can be read aside of the end is one of the worlds behind. -/
theorem Shk.open (h : Shk w0 b w t) : ∃ us vh vs ho vk xs f, ShkB w0 b w vs t.send xs f (us ++ ([vh, vs] ++ (ho ++ [vk]))) ∧ endC.rep (blank (hide b vs) w) t.e us ∧ msgsC.rep (blank (hide b vs) w) t.heard [vh] ∧ helloC.rep (blank (hide b vs) w) t.other ho ∧ bytC.rep (blank (hide b vs) w) t.secret [vk] := h
end
end Go.Proofs.YtiabacnmmojfjabGreatDoor

