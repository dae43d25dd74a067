/- Pieces of bytes that lie in a row of slices, and the contract of the program's own function over them: impl.joined (all pieces behind one another, in a row of its own). What was there stays. -/
import Derived.Test.YtflhoefocjmihaaPad
namespace Go.Proofs.Ytflhoefocjmihaa
open Go.ChangeShapes Go.WideShapes Go.ChangeAt Go.RowKit

/-- A piece: a slice of bytes. -/
structure Pc where
  p : Option Addr
  q : Nat
  bs : List UInt8
def Pc.val (x : Pc) : Value := .slice x.p x.bs.length x.q
/-- Pieces that lie one behind the other from ⟨b, o⟩ on, each of which can be read. -/
def Pcs (w : World) (b o : Nat) (ps : List Pc) : Prop := ∀ i x, ps[i]? = some x → w.cell? ⟨b, o + i, none⟩ = some x.val ∧ Rd w x.p x.q x.bs
theorem Pcs.keep {w w' : World} {b o : Nat} {ps : List Pc} (h : Pcs w b o ps) (hb : Below w.heap.size w w') : Pcs w' b o ps := fun i x hx =>
  ⟨(hb.cell (p := ⟨b, o + i, none⟩) (World.block_lt_of_cell? w _ (h i x hx).1)).trans (h i x hx).1, (h i x hx).2.keep hb⟩
def flat : List Pc → List UInt8
  | [] => []
  | x :: xs => x.bs ++ flat xs
theorem flat_append (xs ys : List Pc) : flat (xs ++ ys) = flat xs ++ flat ys := by
  induction xs with
  | nil => rfl
  | cons x xs ih => simp [flat, ih]
theorem flat_take {ps : List Pc} {j : Nat} {x : Pc} (h : ps[j]? = some x) : flat (ps.take (j + 1)) = flat (ps.take j) ++ x.bs := by
  obtain ⟨hj, he⟩ := List.getElem?_eq_some_iff.1 h
  rw [List.take_succ_eq_append_getElem hj, flat_append, he]
  simp [flat]
theorem flat_split (ps : List Pc) (j : Nat) : flat ps = flat (ps.take j) ++ flat (ps.drop j) := by
  rw [← flat_append, List.take_append_drop]
theorem flat_le (ps : List Pc) (j : Nat) : (flat (ps.take j)).length ≤ (flat ps).length := by
  rw [flat_split ps j, List.length_append]; omega
/-- What is laid behind k bytes. -/
def fillB (bs : List UInt8) (k : Nat) : List UInt8 := bs.take k ++ zs (bs.length - k)
theorem fillB_zero (bs : List UInt8) : fillB bs 0 = zs bs.length := by simp [fillB]
theorem fillB_all (bs : List UInt8) : fillB bs bs.length = bs := by simp [fillB, zs]
theorem fillB_len (bs : List UInt8) (k : Nat) (h : k ≤ bs.length) : (fillB bs k).length = bs.length := by simp [fillB, zs_len]; omega
theorem fillB_splice (bs : List UInt8) (k : Nat) (cs : List UInt8) (h : k + cs.length ≤ bs.length) (hc : (bs.drop k).take cs.length = cs) :
    splice ((fillB bs k).map u8v) k (cs.map u8v) = (fillB bs (k + cs.length)).map u8v := by
  have hl : ((bs.take k).map u8v).length = k := by simp; omega
  have e : bs.take (k + cs.length) = bs.take k ++ cs := by rw [List.take_add, hc]
  unfold splice fillB
  rw [e, List.map_append, List.map_append, List.map_append, List.take_append_of_le_length (by omega), List.take_of_length_le (by omega), List.drop_append, hl, List.length_map, List.drop_of_length_le (by omega), List.nil_append, List.append_assoc, show k + cs.length - k = cs.length by omega, ← List.map_drop]
  congr 3
  simp [zs]; omega
theorem flat_piece {ps : List Pc} {j : Nat} {x : Pc} (h : ps[j]? = some x) : (flat (ps.take j)).length + x.bs.length ≤ (flat ps).length ∧ ((flat ps).drop (flat (ps.take j)).length).take x.bs.length = x.bs := by
  have h1 := flat_split ps (j + 1)
  rw [flat_take h, List.append_assoc] at h1
  constructor
  · rw [h1]; simp
  · rw [h1, List.drop_left, List.take_left]

/-- Two pieces in a new row. -/
theorem pcs_two (w : World) (x y : Pc) (t : TypeId) (hx : Rd w x.p x.q x.bs) (hy : Rd w y.p y.q y.bs) : Pcs (w.alloc (.cells #[x.val, y.val] t)) w.heap.size 0 [x, y] := by
  have hA := Arr.new w [x.val, y.val] t
  intro i z hz
  rw [Nat.zero_add, hA.cell]
  match i, hz with
  | 0, hz => simp at hz; subst hz; exact ⟨rfl, hx.keep (alloc_below _ _)⟩
  | 1, hz => simp at hz; subst hz; exact ⟨rfl, hy.keep (alloc_below _ _)⟩
  | i + 2, hz => simp at hz
theorem flat_two (x y : Pc) : flat [x, y] = x.bs ++ y.bs := by simp [flat]
theorem pcs_one (w : World) (x : Pc) (t : TypeId) (hx : Rd w x.p x.q x.bs) : Pcs (w.alloc (.cells #[x.val] t)) w.heap.size 0 [x] := by
  have hA := Arr.new w [x.val] t
  intro i z hz
  rw [Nat.zero_add, hA.cell]
  match i, hz with
  | 0, hz => simp at hz; subst hz; exact ⟨rfl, hx.keep (alloc_below _ _)⟩
  | i + 1, hz => simp at hz
theorem pcs_three (w : World) (x y z : Pc) (t : TypeId) (hx : Rd w x.p x.q x.bs) (hy : Rd w y.p y.q y.bs) (hz : Rd w z.p z.q z.bs) : Pcs (w.alloc (.cells #[x.val, y.val, z.val] t)) w.heap.size 0 [x, y, z] := by
  have hA := Arr.new w [x.val, y.val, z.val] t
  intro i v hv
  rw [Nat.zero_add, hA.cell]
  match i, hv with
  | 0, hv => simp at hv; subst hv; exact ⟨rfl, hx.keep (alloc_below _ _)⟩
  | 1, hv => simp at hv; subst hv; exact ⟨rfl, hy.keep (alloc_below _ _)⟩
  | 2, hv => simp at hv; subst hv; exact ⟨rfl, hz.keep (alloc_below _ _)⟩
  | i + 3, hv => simp at hv
theorem flat_one (x : Pc) : flat [x] = x.bs := by simp [flat]
theorem flat_three (x y z : Pc) : flat [x, y, z] = x.bs ++ y.bs ++ z.bs := by simp [flat]
/-- A literal of bytes in a new row. -/
theorem rd_new (w : World) (vs : List Value) (bs : List UInt8) (t : TypeId) (n : Nat) (hv : vs = bs.map u8v) (hn : bs.length = n) (hl : n ≤ 1000) : Rd (w.alloc (.cells vs.toArray t)) (some ⟨w.heap.size, 0, none⟩) n bs := by
  have hA := Arr.new w vs t
  refine ⟨by omega, by unfold maxLen; omega, fun e => by simp at e, fun _ => ⟨_, _, rfl, fun i hi => ?_⟩⟩
  rw [Nat.zero_add, hA.cell, hv, u8v_at hi]
theorem pcs_four (w : World) (x y z v : Pc) (t : TypeId) (hx : Rd w x.p x.q x.bs) (hy : Rd w y.p y.q y.bs) (hz : Rd w z.p z.q z.bs) (hv : Rd w v.p v.q v.bs) : Pcs (w.alloc (.cells #[x.val, y.val, z.val, v.val] t)) w.heap.size 0 [x, y, z, v] := by
  have hA := Arr.new w [x.val, y.val, z.val, v.val] t
  intro i u hu
  rw [Nat.zero_add, hA.cell]
  match i, hu with
  | 0, hu => simp at hu; subst hu; exact ⟨rfl, hx.keep (alloc_below _ _)⟩
  | 1, hu => simp at hu; subst hu; exact ⟨rfl, hy.keep (alloc_below _ _)⟩
  | 2, hu => simp at hu; subst hu; exact ⟨rfl, hz.keep (alloc_below _ _)⟩
  | 3, hu => simp at hu; subst hu; exact ⟨rfl, hv.keep (alloc_below _ _)⟩
  | i + 4, hu => simp at hu
theorem u8_of (n : Nat) (h : n < 256) : u8v (UInt8.ofNat n) = .int .u8 (n : Int) := by
  unfold u8v
  rw [UInt8.toNat_ofNat', Nat.mod_eq_of_lt h]



theorem flat_four (x y z v : Pc) : flat [x, y, z, v] = x.bs ++ y.bs ++ z.bs ++ v.bs := by simp [flat]
end Go.Proofs.Ytflhoefocjmihaa

