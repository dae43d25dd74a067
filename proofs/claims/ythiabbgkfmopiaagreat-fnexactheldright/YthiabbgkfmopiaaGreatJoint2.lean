/- Bytes in memory, with no program in it: 'Rd': a slice of bytes that can be read; 'Own': a slice of bytes that lies in a row of its own, from block B on. What keeps them. No conditions but those in each line. -/
import Derived.WalkKit
import Derived.WalkSmall
import Derived.OpenShut
import Derived.Test.YthiabbgkfmopiaaGreatJoint1
namespace Go.Proofs.YthiabbgkfmopiaaGreat
open Go.RowKit

def u8v (b : UInt8) : Value := .int .u8 (b.toNat : Int)
def at8 (bs : List UInt8) (i : Nat) : Int := ((bs.getD i 0).toNat : Int)
theorem at8_lo (bs : List UInt8) (i : Nat) : 0 ≤ at8 bs i := by unfold at8; omega
theorem at8_hi (bs : List UInt8) (i : Nat) : at8 bs i ≤ 255 := by unfold at8; have := (bs.getD i 0).toNat_lt; omega
theorem at8_get {bs : List UInt8} {i : Nat} (h : i < bs.length) : at8 bs i = (bs[i].toNat : Int) := by simp [at8, h]
theorem u8v_at {bs : List UInt8} {i : Nat} (h : i < bs.length) : (bs.map u8v)[i]? = some (.int .u8 (at8 bs i)) := by simp [u8v, at8, h]

def Rd (w : World) (a : Option Addr) (cap : Nat) (bs : List UInt8) : Prop :=
  bs.length ≤ cap ∧ cap ≤ maxLen ∧ (a = none → cap = 0) ∧ (0 < bs.length → ∃ b o, a = some ⟨b, o, none⟩ ∧ ∀ i, i < bs.length → w.cell? ⟨b, o + i, none⟩ = some (.int .u8 (at8 bs i)))

def Own (w : World) (B : Nat) (v : Value) (bs : List UInt8) : Prop := w.ownsRow B 5 1 v bs.length (bs.map u8v)

theorem Own.rd {w : World} {B : Nat} {v : Value} {bs : List UInt8} (h : Own w B v bs) : ∃ a cap, v = .slice a bs.length cap ∧ Rd w a cap bs := by
  have h0 := h
  rcases h.2 with ⟨rfl, hn⟩ | ⟨g, cap, cur, rfl, hb, hg, hle, hm, hs, ht⟩
  · exact ⟨none, 0, by rw [hn], by omega, by simp [maxLen], fun _ => rfl, fun hp => by omega⟩
  · refine ⟨_, cap, rfl, hle, hm, fun hh => by simp at hh, fun _ => ⟨g, 0, rfl, fun i hi => ?_⟩⟩
    have := World.ownsRow.cellAt h0 i (by omega)
    rw [Nat.zero_add, this, u8v_at hi]

theorem Rd.keep {w w' : World} {a : Option Addr} {cap : Nat} {bs : List UInt8} (h : Rd w a cap bs) (hb : Below w.heap.size w w') : Rd w' a cap bs := by
  obtain ⟨h1, h2, h3, h4⟩ := h
  refine ⟨h1, h2, h3, fun hp => ?_⟩
  obtain ⟨b, o, rfl, hc⟩ := h4 hp
  refine ⟨b, o, rfl, fun i hi => ?_⟩
  have hi' := hc i hi
  rw [hb.cell (p := ⟨b, o + i, none⟩) (World.block_lt_of_cell? w _ hi'), hi']

theorem Own.keep {w w' : World} {B N : Nat} {v : Value} {bs : List UInt8} (h : Own w B v bs) (hb : Below N w w') (hn : ∀ k, v.ownBlock = some k → k < N) : Own w' B v bs := by
  obtain ⟨h1, h2⟩ := h
  refine ⟨h1, ?_⟩
  rcases h2 with h2 | ⟨g, cap, cur, rfl, hg, hh, r⟩
  · exact .inl h2
  · exact .inr ⟨g, cap, cur, rfl, hg, (hb.block g (hn g rfl)).trans hh, r⟩

theorem Own.stay {w w' : World} {B : Nat} {v : Value} {bs : List UInt8} (h : Own w B v bs) (hb : Below w.heap.size w w') : Own w' B v bs :=
  h.keep hb (fun k hk => (World.ownsRow.lt h k hk).2)

theorem Own.set {w : World} {B : Nat} {v : Value} {bs : List UInt8} (h : Own w B v bs) {a : Addr} (ha : a.block < B) (u : Value) : Own (w.setCell a u) B v bs :=
  ownsRow_setCell_below h ha u

theorem Own.lower {w : World} {B B' : Nat} {v : Value} {bs : List UInt8} (h : Own w B v bs) (hb : B' ≤ B) : Own w B' v bs := by
  obtain ⟨h1, h2⟩ := h
  refine ⟨h1, ?_⟩
  rcases h2 with h2 | ⟨g, cap, cur, rfl, hg, r⟩
  · exact .inl h2
  · exact .inr ⟨g, cap, cur, rfl, by omega, r⟩

theorem Own.lt {w : World} {B : Nat} {v : Value} {bs : List UInt8} (h : Own w B v bs) : ∀ k, v.ownBlock = some k → k < w.heap.size := fun k hk => (World.ownsRow.lt h k hk).2
theorem Own.ge {w : World} {B : Nat} {v : Value} {bs : List UInt8} (h : Own w B v bs) : ∀ k, v.ownBlock = some k → B ≤ k := fun k hk => (World.ownsRow.lt h k hk).1

/-- What a loop that fills a row from its first element on has laid behind k rounds. -/
def part (bs : List UInt8) (n k : Nat) : List Value := (bs.take k).map u8v ++ List.replicate (n - k) (.int .u8 0)

theorem part_zero (bs : List UInt8) (n : Nat) : part bs n 0 = List.replicate n (.int .u8 0) := by simp [part]
theorem part_all (bs : List UInt8) : part bs bs.length bs.length = bs.map u8v := by simp [part]
theorem part_set (bs : List UInt8) (k : Nat) (h : k < bs.length) : (part bs bs.length k).set k (.int .u8 (at8 bs k)) = part bs bs.length (k + 1) := by
  have e : u8v bs[k] = .int .u8 (at8 bs k) := by rw [at8_get h]; rfl
  have hl : ((bs.take k).map u8v).length = k := by simp; omega
  unfold part
  rw [List.set_append_right _ _ (by omega), hl, Nat.sub_self, List.take_succ_eq_append_getElem h, List.map_append, List.append_assoc]
  congr 1
  rw [show bs.length - k = (bs.length - (k + 1)) + 1 by omega, List.replicate_succ, List.set_cons_zero, ← e]
  rfl

theorem part_at (bs : List UInt8) (k : Nat) (h : k < bs.length) : (part bs bs.length k)[k]? = some (.int .u8 0) := by
  have hl : ((bs.take k).map u8v).length = k := by simp; omega
  unfold part
  rw [List.getElem?_append_right (by omega), hl, Nat.sub_self, List.getElem?_replicate, if_pos (by omega)]

theorem replicate_made (n : Nat) : (madeCells (Value.cells (.int .u8 0)) (n * 1)).toList = List.replicate n (.int .u8 0) := by
  rw [Nat.mul_one]; exact toList_madeCells_one _ n

/-- So many zeros. -/
def zs (n : Nat) : List UInt8 := List.replicate n 0
theorem zs_len (n : Nat) : (zs n).length = n := List.length_replicate
theorem made_zeros {w : World} {B : Nat} {v : Value} {n : Nat} (h : w.ownsRow B 5 1 v n (madeCells (Value.cells (.int .u8 0)) (n * 1)).toList) : Own w B v (zs n) := by
  rw [replicate_made] at h
  unfold Own zs
  rw [List.length_replicate, List.map_replicate]
  exact h

/-- The marks that the laws lay: k, k + 1, .. as bytes. -/
def mark8 (k : Int) : UInt8 := UInt8.ofNat (k % 256).toNat
def marks (k : Nat) (n : Nat) : List UInt8 := (List.range n).map (fun i : Nat => mark8 ((k : Int) + (i : Int)))
theorem marks_len (k n : Nat) : (marks k n).length = n := by simp [marks]
theorem mark8_nat (k : Int) : ((mark8 k).toNat : Int) = k % 256 := by
  unfold mark8
  have h0 : (0 : Int) ≤ k % 256 := Int.emod_nonneg _ (by decide)
  have h1 : k % 256 < 256 := Int.emod_lt_of_pos _ (by decide)
  rw [UInt8.toNat_ofNat']
  omega
theorem at8_marks {k n i : Nat} (h : i < n) : at8 (marks k n) i = ((k : Int) + i) % 256 := by
  rw [at8_get (by rw [marks_len]; exact h), ← mark8_nat]
  simp [marks]

/-- A row whose first j bytes are marks. -/
def marked (bs : List UInt8) (k j : Nat) : List UInt8 := (marks k bs.length).take j ++ bs.drop j
theorem marked_len (bs : List UInt8) (k j : Nat) (h : j ≤ bs.length) : (marked bs k j).length = bs.length := by simp [marked, marks_len]; omega
theorem marked_zero (bs : List UInt8) (k : Nat) : marked bs k 0 = bs := by simp [marked]
theorem marked_all (bs : List UInt8) (k : Nat) : marked bs k bs.length = marks k bs.length := by
  simp only [marked, List.drop_length, List.append_nil]
  exact List.take_of_length_le (by rw [marks_len]; exact Nat.le_refl _)
theorem marked_set (bs : List UInt8) (k j : Nat) (h : j < bs.length) : ((marked bs k j).map u8v).set j (.int .u8 (((k : Int) + j) % 256)) = (marked bs k (j + 1)).map u8v := by
  have hm : j < (marks k bs.length).length := by rw [marks_len]; exact h
  have e : u8v (marks k bs.length)[j] = .int .u8 (((k : Int) + j) % 256) := by rw [← at8_marks h, at8_get hm]; rfl
  have hl : (((marks k bs.length).take j).map u8v).length = j := by simp [marks_len]; omega
  unfold marked
  rw [List.map_append, List.set_append_right _ _ (by omega), hl, Nat.sub_self, List.take_succ_eq_append_getElem hm, List.append_assoc, List.map_append]
  congr 1
  rw [List.drop_eq_getElem_cons h, List.map_cons, List.set_cons_zero, ← e]
  simp

theorem below_grown {w w' : World} (h : Below w.heap.size w w') (row : Option Nat) : w.grownBy w' row := ⟨h.os, h.tape, h.output, h.size, fun k hk _ => h.block k hk⟩
theorem cell_keep {w w' : World} {p : Addr} {v : Value} (h : w.cell? p = some v) (hb : Below w.heap.size w w') : w'.cell? p = some v :=
  (hb.cell (World.block_lt_of_cell? w _ h)).trans h
theorem cell_other {w w' : World} {p : Addr} {v : Value} {row : Option Nat} (h : w.cell? p = some v) (hg : w.grownBy w' row) (hne : row ≠ some p.block) : w'.cell? p = some v :=
  hg.cell h (fun e => hne e.symm)
theorem alloc_below (w : World) (o : Obj) : Below w.heap.size w (w.alloc o) := (Below.refl _ _).alloc (Nat.le_refl _) _
/-- A block's first cells: a local's. -/
def Has (w : World) (b : Nat) (vs : List Value) : Prop := ∀ i v, vs[i]? = some v → w.cell? ⟨b, i, none⟩ = some v
theorem Has.keep {w w' : World} {b : Nat} {vs : List Value} (h : Has w b vs) (hb : Below w.heap.size w w') : Has w' b vs := fun i v hv => cell_keep (h i v hv) hb
theorem Has.other {w w' : World} {b : Nat} {vs : List Value} {row : Option Nat} (h : Has w b vs) (hg : w.grownBy w' row) (hne : row ≠ some b) : Has w' b vs := fun i v hv => cell_other (h i v hv) hg hne
theorem Has.new {w w' : World} {vs : Array Value} {t : TypeId} (hb : Below (w.alloc (.cells vs t)).heap.size (w.alloc (.cells vs t)) w') : Has w' w.heap.size vs.toList := fun i v hv =>
  cell_keep ((World.cell?_alloc_new w vs t i).trans (by simpa using hv)) hb
theorem Has.lt {w : World} {b : Nat} {v : Value} {vs : List Value} (h : Has w b (v :: vs)) : b < w.heap.size := World.block_lt_of_cell? w _ (h 0 v rfl)
/-- A local's block: its cells, and that they may be written. -/
def Loc (w : World) (b : Nat) (vs : List Value) : Prop := Has w b vs ∧ ∀ o, w.frozen? ⟨b, o, none⟩ = false
theorem Loc.keep {w w' : World} {b B : Nat} {vs : List Value} (h : Loc w b vs) (hb : Below B w w') (hB : b < B) : Loc w' b vs :=
  ⟨fun i v hv => (hb.cell (p := ⟨b, i, none⟩) hB).trans (h.1 i v hv), fun o => (hb.frozen (p := ⟨b, o, none⟩) hB).trans (h.2 o)⟩
theorem Loc.other {w w' : World} {b : Nat} {v0 : Value} {vs : List Value} {row : Option Nat} (h : Loc w b (v0 :: vs)) (hg : w.grownBy w' row) (hne : row ≠ some b) : Loc w' b (v0 :: vs) :=
  ⟨h.1.other hg hne, fun o => (World.frozen?_of_block (w := w) (a := ⟨b, o, none⟩) (hg.block b h.1.lt (fun e => hne e.symm))).trans (h.2 o)⟩
theorem Loc.setOther {w : World} {b : Nat} {vs : List Value} (h : Loc w b vs) {a : Addr} (ha : a.block ≠ b) (u : Value) : Loc (w.setCell a u) b vs := by
  have e : (w.setCell a u).heap[b]? = w.heap[b]? := Below.heap_setCell _ _ _ _ (fun h => ha h.symm)
  exact ⟨fun i v hv => (World.cell?_of_block (w := w) (a := ⟨b, i, none⟩) e).trans (h.1 i v hv), fun o => (World.frozen?_of_block (w := w) (a := ⟨b, o, none⟩) e).trans (h.2 o)⟩
theorem Loc.set1 {w : World} {b : Nat} {v0 v1 : Value} (h : Loc w b [v0, v1]) (u : Value) : Loc (w.setCell ⟨b, 1, none⟩ u) b [v0, u] := by
  refine ⟨fun i v hv => ?_, fun o => (World.frozen?_setCell _ _ _ _).trans (h.2 o)⟩
  match i, hv with
  | 0, hv =>
    simp at hv; subst hv
    rw [World.cell?_setCell_other _ _ _ _ (by simp)]
    exact h.1 0 _ rfl
  | 1, hv =>
    simp at hv; subst hv
    exact World.cell?_setCell_same _ _ _ (h.1 1 _ rfl)
  | i + 2, hv => simp at hv
theorem Loc.new (w : World) (vs : Array Value) (t : TypeId) : Loc (w.alloc (.cells vs t)) w.heap.size vs.toList :=
  ⟨fun i v hv => (World.cell?_alloc_new w vs t i).trans (by simpa using hv), fun o => by rw [frozen?_alloc_cells]; simp [World.frozen?]⟩
theorem Rd.own {w : World} {B : Nat} {a : Option Addr} {n cap : Nat} {bs : List UInt8} (h : Own w B (.slice a n cap) bs) : Rd w a cap bs := by
  obtain ⟨a', cap', e, hr⟩ := h.rd
  simp only [Value.slice.injEq] at e
  obtain ⟨rfl, -, rfl⟩ := e
  exact hr
/-- Behind a call that writes one row alone: cells of other blocks read as before. -/
theorem gcell {w w' : World} {row : Option Nat} (h : w.grownBy w' row) : (∀ b o, b < w.heap.size → some b ≠ row → w'.cell? ⟨b, o, none⟩ = w.cell? ⟨b, o, none⟩) :=
  fun b _ hb hne => World.cell?_of_block (w := w) (h.block b hb hne)
theorem Own.other {w w' : World} {B : Nat} {v : Value} {bs : List UInt8} {row : Option Nat} (h : Own w B v bs) (hg : w.grownBy w' row) (hne : ∀ k, v.ownBlock = some k → row ≠ some k) : Own w' B v bs := by
  obtain ⟨h1, h2⟩ := h
  refine ⟨h1, ?_⟩
  rcases h2 with h2 | ⟨g, cap, cur, rfl, hb, hh, r⟩
  · exact .inl h2
  · exact .inr ⟨g, cap, cur, rfl, hb, (hg.block g (Array.getElem?_eq_some_iff.1 hh).1 (fun e => hne g rfl e.symm)).trans hh, r⟩
theorem grownBy_trans {a b c : World} {r : Option Nat} (h : a.grownBy b r) (k : b.grownBy c r) : a.grownBy c r :=
  ⟨k.os.trans h.os, k.tape.trans h.tape, k.output.trans h.output, Nat.le_trans h.size k.size, fun i hi hne => (k.block i (Nat.lt_of_lt_of_le hi h.size) hne).trans (h.block i hi hne)⟩

/-- What the row's step tells of a slice of bytes that came in, as bytes. -/
theorem rd_of {w : World} {a : Option Addr} {len cap : Nat} {zs : List Int} (h : (a = none ∧ len = 0 ∧ cap = 0 ∧ zs = []) ∨
    ∃ x, a = some x ∧ len ≤ cap ∧ cap ≤ maxLen ∧ zs.length = cap ∧ (∀ i, i < zs.length → w.cell? (x.add i) = some (.int .u8 (zs.getD i 0))) ∧ ∀ n ∈ zs, (Lit.int .u8 n).wf = true) :
    ∃ bs : List UInt8, len = bs.length ∧ Rd w a cap bs := by
  rcases h with ⟨rfl, rfl, rfl, rfl⟩ | ⟨x, rfl, hl, hm, hz, hc, hw⟩
  · exact ⟨[], rfl, by simp, by simp [maxLen], fun _ => rfl, fun hp => by simp at hp⟩
  · refine ⟨(zs.take len).map (fun z => UInt8.ofNat z.toNat), by simp; omega, by simp; omega, hm, fun hh => by simp at hh, fun hp => ?_⟩
    have hp' : 0 < zs.length := by simp at hp; omega
    obtain ⟨b, o, rfl, hc'⟩ := ints_at hc hp'
    refine ⟨b, o, rfl, fun i hi => ?_⟩
    have hi' : i < len ∧ i < zs.length := by simp at hi; omega
    rw [hc' i hi'.2]
    have hb := bounds_u8 (hw zs[i] (List.getElem_mem hi'.2))
    have e : at8 ((zs.take len).map (fun z => UInt8.ofNat z.toNat)) i = zs.getD i 0 := by
      rw [at8_get hi]
      simp only [List.getElem_map, List.getElem_take, UInt8.toNat_ofNat']
      rw [show zs.getD i 0 = zs[i]'hi'.2 by simp [hi'.2]]
      omega
    rw [e]

/-- A piece of what can be read can be read. -/
theorem Rd.cut {w : World} {b o cap : Nat} {bs : List UInt8} (h : Rd w (some ⟨b, o, none⟩) cap bs) (i n c : Nat) (hn : i + n ≤ bs.length) (hc : n ≤ c) (hm : c ≤ maxLen) : Rd w (some ⟨b, o + i, none⟩) c ((bs.drop i).take n) := by
  obtain ⟨h1, h2, h3, h4⟩ := h
  have hl : ((bs.drop i).take n).length = n := by simp; omega
  refine ⟨by omega, hm, fun e => by simp at e, fun hp => ⟨b, o + i, rfl, fun j hj => ?_⟩⟩
  obtain ⟨b', o', e, hcl⟩ := h4 (by omega)
  simp at e
  obtain ⟨rfl, rfl⟩ := e
  rw [Nat.add_assoc, hcl (i + j) (by omega), at8_get hj, at8_get (by omega)]
  simp

/-- The beginning of what can be read can be read. -/
theorem Rd.take {w : World} {a : Option Addr} {cap : Nat} {bs : List UInt8} (h : Rd w a cap bs) (m : Nat) : Rd w a cap (bs.take m) := by
  obtain ⟨h1, h2, h3, h4⟩ := h
  have hl : (bs.take m).length ≤ bs.length := by rw [List.length_take]; omega
  refine ⟨by omega, h2, h3, fun hp => ?_⟩
  obtain ⟨b, o, rfl, hc⟩ := h4 (by omega)
  refine ⟨b, o, rfl, fun i hi => ?_⟩
  rw [hc i (by omega), at8_get hi, at8_get (by omega)]
  simp

end Go.Proofs.YthiabbgkfmopiaaGreat

/- Numbers as bytes, with no program in it: putB v k: the k lowest bytes of v, the highest one first; getB: the number that bytes are. -/
namespace Go.Proofs.YthiabbgkfmopiaaGreat
open Go.RowKit

def putB (v : Nat) : Nat → List UInt8
  | 0 => []
  | k + 1 => UInt8.ofNat (v / 256 ^ k % 256) :: putB v k
theorem putB_len (v k : Nat) : (putB v k).length = k := by
  induction k with
  | zero => rfl
  | succ k ih => simp [putB, ih]
/-- What a loop that fills a row from its last element on has laid behind k rounds. -/
def tailed (v n k : Nat) : List Value := List.replicate (n - k) (.int .u8 0) ++ (putB v k).map u8v
theorem tailed_zero (v n : Nat) : tailed v n 0 = List.replicate n (.int .u8 0) := by simp [tailed, putB]
theorem tailed_all (v n : Nat) : tailed v n n = (putB v n).map u8v := by simp [tailed]
theorem tailed_len (v n k : Nat) (h : k ≤ n) : (tailed v n k).length = n := by simp [tailed, putB_len]; omega
theorem tailed_at (v n k : Nat) (h : k < n) : (tailed v n k)[n - 1 - k]? = some (.int .u8 0) := by
  unfold tailed
  rw [List.getElem?_append_left (by simp; omega), List.getElem?_replicate, if_pos (by omega)]
theorem tailed_set (v n k : Nat) (h : k < n) : (tailed v n k).set (n - 1 - k) (.int .u8 ((v / 256 ^ k % 256 : Nat) : Int)) = tailed v n (k + 1) := by
  have e : u8v (UInt8.ofNat (v / 256 ^ k % 256)) = .int .u8 ((v / 256 ^ k % 256 : Nat) : Int) := by
    unfold u8v; rw [UInt8.toNat_ofNat', Nat.mod_mod]
  unfold tailed
  rw [show n - k = (n - (k + 1)) + 1 by omega, List.replicate_succ', List.append_assoc, List.set_append_right _ _ (by simp; omega)]
  rw [List.length_replicate, show n - 1 - k - (n - (k + 1)) = 0 by omega]
  simp only [putB, List.map_cons, e]
  rfl

def getB (bs : List UInt8) : Nat := bs.foldl (fun n b => n * 256 + b.toNat) 0
theorem getB_snoc (bs : List UInt8) (b : UInt8) : getB (bs ++ [b]) = getB bs * 256 + b.toNat := by simp [getB]
theorem getB_take (bs : List UInt8) (k : Nat) (h : k < bs.length) : ((getB (bs.take (k + 1)) : Nat) : Int) = (getB (bs.take k) : Int) * 256 + at8 bs k := by
  rw [List.take_succ_eq_append_getElem h, getB_snoc, at8_get h]; omega
theorem getB_lt (bs : List UInt8) : getB bs < 256 ^ bs.length := by
  suffices h : ∀ (bs : List UInt8) (m k : Nat), m < 256 ^ k → bs.foldl (fun n b => n * 256 + b.toNat) m < 256 ^ (k + bs.length) by
    have := h bs 0 0 (by decide); simpa [getB] using this
  intro bs
  induction bs with
  | nil => intro m k hm; simpa using hm
  | cons b bs ih =>
    intro m k hm
    have hb := b.toNat_lt
    have := ih (m * 256 + b.toNat) (k + 1) (by rw [Nat.pow_succ]; omega)
    rw [List.foldl_cons, List.length_cons, show k + (bs.length + 1) = k + 1 + bs.length by omega]
    exact this
theorem getB_take_lt (bs : List UInt8) (k : Nat) (h : k ≤ 4) : getB (bs.take k) < 4294967296 :=
  Nat.lt_of_lt_of_le (getB_lt _) (Nat.le_trans (Nat.pow_le_pow_right (by decide) (Nat.le_trans (List.length_take_le _ _) h)) (by decide))
theorem getB_take_lt3 (bs : List UInt8) (k : Nat) (h : k ≤ 3) : getB (bs.take k) < 16777216 :=
  Nat.lt_of_lt_of_le (getB_lt _) (Nat.le_trans (Nat.pow_le_pow_right (by decide) (Nat.le_trans (List.length_take_le _ _) h)) (by decide))
/-- The program's step: shifted by eight bits, and the byte laid in. -/
theorem or_step (m : Nat) (b : Int) (hm : m < 16777216) (h0 : 0 ≤ b) (h1 : b ≤ 255) : bits .or .u32 ((m : Int) * 256) b = (m : Int) * 256 + b := by
  obtain ⟨b, rfl⟩ := Int.eq_ofNat_of_zero_le h0
  have h2 : b < 2 ^ 8 := by omega
  rw [show ((m : Int) * 256) = ((m * 256 : Nat) : Int) by omega, u32_or_nat _ _ (by omega) (by omega), show m * 256 = m <<< 8 by rw [Nat.shiftLeft_eq], ← Nat.shiftLeft_add_eq_or_of_lt h2, Nat.shiftLeft_eq]
  omega

theorem getB_put4 (v : Nat) (h : v < 4294967296) : getB (putB v 4) = v := by
  have e4 : putB v 4 = [UInt8.ofNat (v / 16777216 % 256), UInt8.ofNat (v / 65536 % 256), UInt8.ofNat (v / 256 % 256), UInt8.ofNat (v / 1 % 256)] := rfl
  rw [e4]
  simp only [getB, List.foldl_cons, List.foldl_nil, UInt8.toNat_ofNat']
  omega

end Go.Proofs.YthiabbgkfmopiaaGreat

