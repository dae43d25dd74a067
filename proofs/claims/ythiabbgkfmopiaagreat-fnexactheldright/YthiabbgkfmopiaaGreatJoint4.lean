/- Whole numbers (int64) in memory, with no program in it: 'RdI': a slice of int64 that can be read; 'OwnI': one that lies in a row of its own, from block B on. What keeps them. No conditions but those in each line. -/
import Derived.Test.YthiabbgkfmopiaaGreatJoint2
import Derived.Laws.BytesArg
import Derived.Laws.IdiomStrings
import Derived.Test.YthiabbgkfmopiaaGreatRows
import Derived.Test.YthiabbgkfmopiaaGreatJoint1
import Derived.ProofKit
import Derived.OpenShut
namespace Go.Proofs.YthiabbgkfmopiaaGreat
open Go.RowKit

def i64z (z : Int) : Value := .int .i64 z
def atI (l : List Int) (i : Nat) : Int := l.getD i 0
theorem atI_get {l : List Int} {i : Nat} (h : i < l.length) : atI l i = l[i] := by simp [atI, h]
theorem i64z_at {l : List Int} {i : Nat} (h : i < l.length) : (l.map i64z)[i]? = some (.int .i64 (atI l i)) := by simp [i64z, atI, h]

def RdI (w : World) (a : Option Addr) (cap : Nat) (l : List Int) : Prop :=
  l.length ≤ cap ∧ cap ≤ maxLen ∧ (a = none → cap = 0) ∧ (0 < l.length → ∃ b o, a = some ⟨b, o, none⟩ ∧ ∀ i, i < l.length → w.cell? ⟨b, o + i, none⟩ = some (.int .i64 (atI l i)))

def OwnI (w : World) (B : Nat) (v : Value) (l : List Int) : Prop := w.ownsRow B 2 1 v l.length (l.map i64z)

theorem OwnI.rd {w : World} {B : Nat} {v : Value} {l : List Int} (h : OwnI w B v l) : ∃ a cap, v = .slice a l.length cap ∧ RdI w a cap l := by
  have h0 := h
  rcases h.2 with ⟨rfl, hn⟩ | ⟨g, cap, cur, rfl, hb, hg, hle, hm, hs, ht⟩
  · exact ⟨none, 0, by rw [hn], by omega, by simp [maxLen], fun _ => rfl, fun hp => by omega⟩
  · refine ⟨_, cap, rfl, hle, hm, fun hh => by simp at hh, fun _ => ⟨g, 0, rfl, fun i hi => ?_⟩⟩
    have := World.ownsRow.cellAt h0 i (by omega)
    rw [Nat.zero_add, this, i64z_at hi]

theorem RdI.keep {w w' : World} {a : Option Addr} {cap : Nat} {l : List Int} (h : RdI w a cap l) (hb : Below w.heap.size w w') : RdI w' a cap l := by
  obtain ⟨h1, h2, h3, h4⟩ := h
  refine ⟨h1, h2, h3, fun hp => ?_⟩
  obtain ⟨b, o, rfl, hc⟩ := h4 hp
  refine ⟨b, o, rfl, fun i hi => ?_⟩
  have hi' := hc i hi
  rw [hb.cell (p := ⟨b, o + i, none⟩) (World.block_lt_of_cell? w _ hi'), hi']

theorem OwnI.keep {w w' : World} {B N : Nat} {v : Value} {l : List Int} (h : OwnI w B v l) (hb : Below N w w') (hn : ∀ k, v.ownBlock = some k → k < N) : OwnI w' B v l := by
  obtain ⟨h1, h2⟩ := h
  refine ⟨h1, ?_⟩
  rcases h2 with h2 | ⟨g, cap, cur, rfl, hg, hh, r⟩
  · exact .inl h2
  · exact .inr ⟨g, cap, cur, rfl, hg, (hb.block g (hn g rfl)).trans hh, r⟩

theorem OwnI.stay {w w' : World} {B : Nat} {v : Value} {l : List Int} (h : OwnI w B v l) (hb : Below w.heap.size w w') : OwnI w' B v l :=
  h.keep hb (fun k hk => (World.ownsRow.lt h k hk).2)

theorem OwnI.set {w : World} {B : Nat} {v : Value} {l : List Int} (h : OwnI w B v l) {a : Addr} (ha : a.block < B) (u : Value) : OwnI (w.setCell a u) B v l :=
  ownsRow_setCell_below h ha u

theorem OwnI.lower {w : World} {B B' : Nat} {v : Value} {l : List Int} (h : OwnI w B v l) (hb : B' ≤ B) : OwnI w B' v l := by
  obtain ⟨h1, h2⟩ := h
  refine ⟨h1, ?_⟩
  rcases h2 with h2 | ⟨g, cap, cur, rfl, hg, r⟩
  · exact .inl h2
  · exact .inr ⟨g, cap, cur, rfl, by omega, r⟩

theorem OwnI.lt {w : World} {B : Nat} {v : Value} {l : List Int} (h : OwnI w B v l) : ∀ k, v.ownBlock = some k → k < w.heap.size := fun k hk => (World.ownsRow.lt h k hk).2
theorem OwnI.ge {w : World} {B : Nat} {v : Value} {l : List Int} (h : OwnI w B v l) : ∀ k, v.ownBlock = some k → B ≤ k := fun k hk => (World.ownsRow.lt h k hk).1
theorem RdI.own {w : World} {B : Nat} {a : Option Addr} {n cap : Nat} {l : List Int} (h : OwnI w B (.slice a n cap) l) : RdI w a cap l := by
  obtain ⟨a', cap', e, hr⟩ := h.rd
  simp only [Value.slice.injEq] at e
  obtain ⟨rfl, -, rfl⟩ := e
  exact hr
theorem OwnI.other {w w' : World} {B : Nat} {v : Value} {l : List Int} {row : Option Nat} (h : OwnI w B v l) (hg : w.grownBy w' row) (hne : ∀ k, v.ownBlock = some k → row ≠ some k) : OwnI w' B v l := by
  obtain ⟨h1, h2⟩ := h
  refine ⟨h1, ?_⟩
  rcases h2 with h2 | ⟨g, cap, cur, rfl, hb, hh, r⟩
  · exact .inl h2
  · exact .inr ⟨g, cap, cur, rfl, hb, (hg.block g (Array.getElem?_eq_some_iff.1 hh).1 (fun e => hne g rfl e.symm)).trans hh, r⟩
theorem OwnI_nil (w : World) (B : Nat) : OwnI w B (.slice none 0 0) [] := World.ownsRow_nil _ _ _ _

def partI (l : List Int) (n k : Nat) : List Value := (l.take k).map i64z ++ List.replicate (n - k) (.int .i64 0)
theorem partI_zero (l : List Int) (n : Nat) : partI l n 0 = List.replicate n (.int .i64 0) := by simp [partI]
theorem partI_all (l : List Int) : partI l l.length l.length = l.map i64z := by simp [partI]
theorem partI_set (l : List Int) (k : Nat) (h : k < l.length) : (partI l l.length k).set k (.int .i64 (atI l k)) = partI l l.length (k + 1) := by
  have e : i64z l[k] = .int .i64 (atI l k) := by rw [atI_get h]; rfl
  have hl : ((l.take k).map i64z).length = k := by simp; omega
  unfold partI
  rw [List.set_append_right _ _ (by omega), hl, Nat.sub_self, List.take_succ_eq_append_getElem h, List.map_append, List.append_assoc]
  congr 1
  rw [show l.length - k = (l.length - (k + 1)) + 1 by omega, List.replicate_succ, List.set_cons_zero, ← e]
  rfl
theorem partI_at (l : List Int) (k : Nat) (h : k < l.length) : (partI l l.length k)[k]? = some (.int .i64 0) := by
  have hl : ((l.take k).map i64z).length = k := by simp; omega
  unfold partI
  rw [List.getElem?_append_right (by omega), hl, Nat.sub_self, List.getElem?_replicate, if_pos (by omega)]
theorem replicate_madeI (n : Nat) : (madeCells (Value.cells (.int .i64 0)) (n * 1)).toList = List.replicate n (.int .i64 0) := by
  rw [Nat.mul_one]; exact toList_madeCells_one _ n

/-- The marks that the laws lay: k, k + 1, .. -/
def marksI (k : Nat) (n : Nat) : List Int := (List.range n).map (fun i : Nat => (k : Int) + (i : Int))
theorem marksI_len (k n : Nat) : (marksI k n).length = n := by simp [marksI]
theorem atI_marks {k n i : Nat} (h : i < n) : atI (marksI k n) i = (k : Int) + i := by
  rw [atI_get (by rw [marksI_len]; exact h)]
  simp [marksI]
def markedI (l : List Int) (k j : Nat) : List Int := (marksI k l.length).take j ++ l.drop j
theorem markedI_len (l : List Int) (k j : Nat) (h : j ≤ l.length) : (markedI l k j).length = l.length := by simp [markedI, marksI_len]; omega
theorem markedI_zero (l : List Int) (k : Nat) : markedI l k 0 = l := by simp [markedI]
theorem markedI_all (l : List Int) (k : Nat) : markedI l k l.length = marksI k l.length := by
  simp only [markedI, List.drop_length, List.append_nil]
  exact List.take_of_length_le (by rw [marksI_len]; exact Nat.le_refl _)
theorem markedI_set (l : List Int) (k j : Nat) (h : j < l.length) : ((markedI l k j).map i64z).set j (.int .i64 ((k : Int) + j)) = (markedI l k (j + 1)).map i64z := by
  have hm : j < (marksI k l.length).length := by rw [marksI_len]; exact h
  have e : i64z (marksI k l.length)[j] = .int .i64 ((k : Int) + j) := by rw [← atI_marks h, atI_get hm]; rfl
  have hl : (((marksI k l.length).take j).map i64z).length = j := by simp [marksI_len]; omega
  unfold markedI
  rw [List.map_append, List.set_append_right _ _ (by omega), hl, Nat.sub_self, List.take_succ_eq_append_getElem hm, List.append_assoc, List.map_append]
  congr 1
  rw [List.drop_eq_getElem_cons h, List.map_cons, List.set_cons_zero, ← e]
  simp

/-- What the row's step tells of a slice of int64 that came in. -/
theorem rdI_of {w : World} {a : Option Addr} {len cap : Nat} {l : List Int} (h : (a = none ∧ len = 0 ∧ cap = 0 ∧ l = []) ∨
    ∃ x, a = some x ∧ len ≤ cap ∧ cap ≤ maxLen ∧ l.length = cap ∧ (∀ i, i < l.length → w.cell? (x.add i) = some (.int .i64 (l.getD i 0))) ∧ ∀ n ∈ l, (Lit.int .i64 n).wf = true) :
    ∃ bs : List Int, len = bs.length ∧ RdI w a cap bs := by
  rcases h with ⟨rfl, rfl, rfl, rfl⟩ | ⟨x, rfl, hl, hm, hz, hc, hw⟩
  · exact ⟨[], rfl, by simp, by simp [maxLen], fun _ => rfl, fun hp => by simp at hp⟩
  · refine ⟨l.take len, by simp; omega, by simp; omega, hm, fun hh => by simp at hh, fun hp => ?_⟩
    have hp' : 0 < l.length := by simp at hp; omega
    obtain ⟨b, o, rfl, hc'⟩ := ints_at hc hp'
    refine ⟨b, o, rfl, fun i hi => ?_⟩
    have hi' : i < len ∧ i < l.length := by simp at hi; omega
    rw [hc' i hi'.2, atI_get hi]
    simp [hi'.2]

end Go.Proofs.YthiabbgkfmopiaaGreat

/- The source of the draws in memory, with no program in it: a block that holds a code and a count; what keeps it. -/
namespace Go.Proofs.YthiabbgkfmopiaaGreat
open Go.RowKit

structure Src (w : World) (b : Nat) (p : Option Addr) (q : Nat) (cs : List UInt8) (n : Int) : Prop where
  loc : Loc w b [.slice p cs.length q, .int .i64 n]
  rd : Rd w p q cs
  apart : 0 < cs.length → ∀ x, p = some x → x.block < b

theorem Src.lt {w : World} {b : Nat} {p : Option Addr} {q : Nat} {cs : List UInt8} {n : Int} (h : Src w b p q cs n) : b < w.heap.size := h.loc.1.lt

theorem Rd.set {w : World} {a : Option Addr} {cap : Nat} {bs : List UInt8} (h : Rd w a cap bs) {x : Addr} (hne : 0 < bs.length → ∀ y, a = some y → y.block ≠ x.block) (u : Value) : Rd (w.setCell x u) a cap bs := by
  obtain ⟨h1, h2, h3, h4⟩ := h
  refine ⟨h1, h2, h3, fun hp => ?_⟩
  obtain ⟨b, o, rfl, hc⟩ := h4 hp
  refine ⟨b, o, rfl, fun i hi => ?_⟩
  have e : (w.setCell x u).heap[b]? = w.heap[b]? := Below.heap_setCell _ _ _ _ (hne hp _ rfl)
  rw [World.cell?_of_block (w := w) (a := ⟨b, o + i, none⟩) e, hc i hi]

theorem Rd.other {w w' : World} {a : Option Addr} {cap : Nat} {bs : List UInt8} {row : Option Nat} (h : Rd w a cap bs) (hg : w.grownBy w' row) (hne : 0 < bs.length → ∀ y, a = some y → row ≠ some y.block) : Rd w' a cap bs := by
  obtain ⟨h1, h2, h3, h4⟩ := h
  refine ⟨h1, h2, h3, fun hp => ?_⟩
  obtain ⟨b, o, rfl, hc⟩ := h4 hp
  exact ⟨b, o, rfl, fun i hi => cell_other (hc i hi) hg (hne hp ⟨b, o, none⟩ rfl)⟩

theorem Src.next {w : World} {b : Nat} {p : Option Addr} {q : Nat} {cs : List UInt8} {n : Int} (h : Src w b p q cs n) (m : Int) : Src (w.setCell ⟨b, 1, none⟩ (.int .i64 m)) b p q cs m :=
  ⟨h.loc.set1 _, h.rd.set (fun hp y hy e => by have := h.apart hp y hy; simp at e; omega) _, h.apart⟩

theorem grownBy_set (w : World) (b o : Nat) (u : Value) : w.grownBy (w.setCell ⟨b, o, none⟩ u) (some b) :=
  ⟨rfl, rfl, rfl, by simp [World.setCell], fun k _ hk => Below.heap_setCell _ _ _ _ (fun e => hk (by rw [e]))⟩
theorem grownBy_drewN (w : World) (n : Nat) (row : Option Nat) : w.grownBy (w.drewN n) row := ⟨rfl, rfl, rfl, Nat.le_refl _, fun _ _ _ => rfl⟩

theorem Src.drewN {w : World} {b : Nat} {p : Option Addr} {q : Nat} {cs : List UInt8} {n : Int} (h : Src w b p q cs n) (k : Nat) : Src (w.drewN k) b p q cs n := ⟨h.loc, h.rd, h.apart⟩

theorem Src.keep {w w' : World} {b : Nat} {p : Option Addr} {q : Nat} {cs : List UInt8} {n : Int} (h : Src w b p q cs n) (hb : Below w.heap.size w w') : Src w' b p q cs n :=
  ⟨h.loc.keep hb h.lt, h.rd.keep hb, h.apart⟩

/-- A list of numbers that was just laid. -/
theorem new_ints (w : World) (c : Array Value) (t : TypeId) (xs : List Int) (h : c.toList = xs.map (Value.int .i64)) :
    ∀ i, i < xs.length → (w.alloc (.cells c t)).cell? ⟨w.heap.size, i, none⟩ = some (.int .i64 (xs.getD i 0)) := fun i hi => by
  rw [World.cell?_alloc_new]
  have e : c[i]? = c.toList[i]? := by simp
  rw [e, h]
  simp [hi]

end Go.Proofs.YthiabbgkfmopiaaGreat

/- Bytes as a text, with no program in it: what string(b) gives of a slice of bytes that can be read. -/
namespace Go.Proofs.YthiabbgkfmopiaaGreat
open Go.RowKit

def strB (bs : List UInt8) : ByteArray := ⟨bs.toArray⟩
theorem strB_size (bs : List UInt8) : (strB bs).size = bs.length := by simp [strB, ByteArray.size]
theorem strB_inj {a b : List UInt8} (h : strB a = strB b) : a = b := by
  have := congrArg (fun s : ByteArray => s.data.toList) h
  simpa [strB] using this
theorem strB_list (bs : List UInt8) : (strB bs).toList = bs := by rw [ByteArray.toList_eq]; rfl
theorem strB_toList (s : ByteArray) : strB s.data.toList = s := by simp [strB]

theorem strB_at (l : List UInt8) (i : Nat) (h : i < (strB l).size) : (((strB l)[i]'h).toNat : Int) = at8 l i := by
  have h' : i < l.length := by rw [strB_size] at h; exact h
  rw [at8_get h']
  rfl

theorem run_str {P : Program} {w : World} {a : Option Addr} {cap : Nat} {bs : List UInt8} (hr : Rd w a cap bs) {src dst e : TypeId}
    (hs : P.underlying src = some (.slice e)) (he : P.underlying e = some (.int .u8)) (hd : P.underlying dst = some .string) :
    (convert src dst (.slice a bs.length cap)).run P w = .ok (.string (strB bs)) w := by
  by_cases h0 : 0 < bs.length
  · obtain ⟨b, o, rfl, hc⟩ := hr.2.2.2 h0
    rw [run_convert_bytes_arg w src e hs he b o bs.length cap (bs.map fun x => (x.toNat : Int)) (by simp) (fun i hi => by rw [hc i hi, at8_get hi]; simp [hi]) dst hd]
    congr 2
    have hid : (fun n : Int => UInt8.ofNat n.toNat) ∘ (fun x : UInt8 => (x.toNat : Int)) = id := by funext x; simp
    simp [strOfNums, strB, hid]
  · have e0 : bs = [] := List.length_eq_zero_iff.1 (by omega)
    subst e0
    cases a with
    | none => exact run_convert_bytes_nil w src e hs he 0 cap dst hd
    | some x =>
      rw [show ([] : List UInt8).length = 0 from rfl, run_convert_bytes_string w src dst e _ 0 cap hs he hd, run_bytesToString w x 0 cap [] (by simpa using run_loadCells_list (P := P) w x [] (fun j v hj => by simp at hj))]
      rfl

/-- What '[]byte(s)' makes: its room and its world. -/
def bytesC (w : World) (l : List UInt8) : Nat := grownCap w (strB l).size 0 5
def bytesW (w : World) (l : List UInt8) : World := w.drew.alloc (.cells (bytesRow (strB l) (bytesC w l)) 5 ((bytesRow (strB l) (bytesC w l)).size, (bytesRow (strB l) (bytesC w l)).size + 1))
theorem run_bytes {P : Program} {src dst : TypeId} (hs : P.underlying src = some .string) (hd : P.underlying dst = some (.slice 5)) (he : P.underlying 5 = some (.int .u8)) (l : List UInt8) (w : World) :
    (convert src dst (.string (strB l))).run P w = .ok (.slice (some ⟨w.heap.size, 0, none⟩) l.length (bytesC w l)) (bytesW w l) := by
  rw [run_bytes_of_string w src dst 5 (strB l) hs hd he, strB_size]
  rfl
theorem bytesW_below (w : World) (l : List UInt8) : Below w.heap.size w (bytesW w l) := (Below.refl _ _).drew.alloc (Nat.le_refl _) _
theorem bytesW_rd (w : World) (l : List UInt8) (hm : l.length ≤ maxLen) : Rd (bytesW w l) (some ⟨w.heap.size, 0, none⟩) (bytesC w l) l := by
  refine ⟨?_, ?_, fun h => by simp at h, fun _ => ⟨w.heap.size, 0, rfl, fun i hi => ?_⟩⟩
  · have := grownCap_ge w (strB l).size 0 5
    rw [strB_size] at this
    unfold bytesC
    rw [strB_size]
    exact this
  · exact grownCap_le_maxLen _ _ _ _ (by rw [strB_size]; exact hm)
  · have h := World.cell?_alloc_mark w.drew (bytesRow (strB l) (bytesC w l)) 5 ((bytesRow (strB l) (bytesC w l)).size, (bytesRow (strB l) (bytesC w l)).size + 1) i
    rw [Nat.zero_add]
    refine h.trans ?_
    rw [bytesRow_at _ _ _ (by simpa [strB] using hi), at8_get hi]
    rfl

end Go.Proofs.YthiabbgkfmopiaaGreat

/- The digits of bytes, with no program in it. -/
namespace Go.Proofs.YthiabbgkfmopiaaGreat
open Go.RowKit

def hexAll : List UInt8 := [48, 49, 50, 51, 52, 53, 54, 55, 56, 57, 97, 98, 99, 100, 101, 102]
def hexD (v : Int) : UInt8 := hexAll.getD v.toNat 0
def hexL (bs : List UInt8) : List UInt8 := bs.flatMap fun b => [hexD (b.toNat / 16), hexD (b.toNat % 16)]
theorem hexL_len (bs : List UInt8) : (hexL bs).length = 2 * bs.length := by
  induction bs with
  | nil => rfl
  | cons b bs ih => simp only [hexL, List.flatMap_cons, List.length_append, List.length_cons, List.length_nil] at ih ⊢; omega
theorem hexL_take (bs : List UInt8) (k : Nat) (h : k < bs.length) : hexL (bs.take (k + 1)) = hexL (bs.take k) ++ [hexD (at8 bs k / 16)] ++ [hexD (at8 bs k % 16)] := by
  rw [List.take_succ_eq_append_getElem h, at8_get h]
  unfold hexL
  rw [List.flatMap_append, List.append_assoc]
  rfl

theorem run_add {P : Program} (x y : List UInt8) (h : x.length + y.length ≤ 9223372036854775807) (w : World) :
    (Op.stringOp .add (strB x) (strB y)).run P w = .ok (.string (strB (x ++ y))) w := by
  rw [run_string_add_sum w _ _ (by rw [strB_size, strB_size]; exact h)]
  unfold strB
  rw [ByteArray.mk_append_mk]

theorem cell_one_new (w : World) (a : Value) (t : TypeId) : ∀ j u, [a][j]? = some u → (w.alloc (.cells #[a] t)).cell? ((⟨w.heap.size, 0, none⟩ : Addr).add j) = some u := by
  intro j u hj
  match j, hj with
  | 0, hj => simp at hj; subst hj; simp [Addr.add]
  | j + 1, hj => simp at hj
theorem own_two {w : World} {B : Nat} {v : Value} {x : List UInt8} {a b : UInt8} (h : w.ownsRow B 5 1 v (x.length + 2) (x.map u8v ++ [.int .u8 a.toNat, .int .u8 b.toNat])) : Own w B v (x ++ [a] ++ [b]) := by
  unfold Own
  rw [show (x ++ [a] ++ [b]).length = x.length + 2 by simp, show (x ++ [a] ++ [b]).map u8v = x.map u8v ++ [.int .u8 a.toNat, .int .u8 b.toNat] by simp [u8v]]
  exact h
theorem own_one {w : World} {B : Nat} {v : Value} {x : List UInt8} {a : UInt8} (h : w.ownsRow B 5 1 v (x.length + 1) (x.map u8v ++ [.int .u8 a.toNat])) : Own w B v (x ++ [a]) := by
  unfold Own
  rw [show (x ++ [a]).length = x.length + 1 by simp, show (x ++ [a]).map u8v = x.map u8v ++ [.int .u8 a.toNat] by simp [u8v]]
  exact h

end Go.Proofs.YthiabbgkfmopiaaGreat

/- The contracts of the tests of a word and of a range: spec.l1In, spec.l1Word, impl.isWord answer the Bool inB of their arguments and leave the world as it is. -/
namespace Go.Proofs.YthiabbgkfmopiaaGreat
open Go.ChangeShapes Go.WideShapes Go.ChangeAt Go.RowKit

set_option maxHeartbeats 400000 in
theorem l1In_c (v lo hi : Int) (w : World) :
    Calls Tryz.prog 39 #[.int .i64 v, .int .i64 lo, .int .i64 hi] w fun e w' => e = .returned (.bool (inB v lo hi)) ∧ w' = w := by
  by_cases h1 : lo ≤ v
  · by_cases h2 : v ≤ hi
    · go_enter Tryz.func39, Tryz.ntmps39
      go_wp2
      go_ret
      exact ⟨by rw [inB_true h1 h2]; rfl, rfl⟩
    · go_enter Tryz.func39, Tryz.ntmps39
      go_wp2
      go_ret
      exact ⟨by rw [inB_false (by omega)]; rfl, rfl⟩
  · go_enter Tryz.func39, Tryz.ntmps39
    go_wp2
    go_ret
    exact ⟨by rw [inB_false (by omega)]; rfl, rfl⟩



end Go.Proofs.YthiabbgkfmopiaaGreat

/- The contracts of TurnWord and of what it calls, in the specification and in the program: both answer turnCode and turnVal, at every argument. -/
namespace Go.Proofs.YthiabbgkfmopiaaGreat
open Go.ChangeShapes Go.WideShapes Go.ChangeAt Go.RowKit

def turnCode (v n : Int) : Int := if inB v 0 4294967295 && inB n 0 31 then 0 else 3
def turnVal (v n : Int) : Int := if inB v 0 4294967295 && inB n 0 31 then (rotN v.toNat n.toNat : Nat) else 0
theorem turnCode_ok {a b : Int} (ha : inB a 0 4294967295 = true) (hb : inB b 0 31 = true) : turnCode a b = 0 := by simp [turnCode, ha, hb]
theorem turnVal_ok {a b : Int} (ha : inB a 0 4294967295 = true) (hb : inB b 0 31 = true) : turnVal a b = (rotN a.toNat b.toNat : Nat) := by simp [turnVal, ha, hb]
theorem turnCode_no {a b : Int} (h : inB a 0 4294967295 = false ∨ inB b 0 31 = false) : turnCode a b = 3 := by rcases h with h | h <;> simp [turnCode, h]
theorem turnVal_no {a b : Int} (h : inB a 0 4294967295 = false ∨ inB b 0 31 = false) : turnVal a b = 0 := by rcases h with h | h <;> simp [turnVal, h]
theorem i64_of {a b : Int} (h : a = b) : Value.int .i64 a = .int .i64 b := by rw [h]
theorem ret_i64 {a b : Int} (h : a = b) : Ending.returned (Value.int .i64 a) = .returned (.int .i64 b) := by rw [h]
theorem ret_u32 {a b : Int} (h : a = b) : Ending.returned (Value.int .u32 a) = .returned (.int .u32 b) := by rw [h]





end Go.Proofs.YthiabbgkfmopiaaGreat

