/- The contracts of what pads: spec.l1Copy, spec.l2Pad, impl.padded: they answer padN, in a row of their own. For at most 600 bytes. And a law of our own: append of bytes that can be read to a row of one's own. -/
import Derived.Test.YthiabbgkfmopiaaGreatJoint3
import Derived.Test.YthiabbgkfmopiaaGreatJoint7
import Derived.Test.YthiabbgkfmopiaaGreatArr
import Derived.Laws.AppendOwnNone
import Derived.Laws.CopyOwn
namespace Go.Proofs.YthiabbgkfmopiaaGreat
open Go.ChangeShapes Go.WideShapes Go.ChangeAt Go.RowKit

/-- append(s, x...) where s lies in a row of its own, and x can be read. -/
theorem wpList_append_rd {w : World} {ops : Array Oper} {rest : List Oper} {o : Oper} {a : Act} {Q : Exit → Act → World → Prop} (hgd : o.guard = none) (s x : Operand)
    (ho : o.op = .call { callee := .builtin .append, args := #[s, x], argTypes := #[51, 51] })
    (B : Nat) (v : Value) (xs : List UInt8) (hs : a.eval s = v) (hown : Own w B v xs) (p : Option Addr) (q : Nat) (bs : List UInt8) (hx : a.eval x = .slice p bs.length q) (hr : Rd w p q bs)
    (hl : xs.length + bs.length ≤ 100000000) (hB : B ≤ w.heap.size)
    (h : ∀ v' w', Own w' B v' (xs ++ bs) → w.grownBy w' v.ownBlock → wpList Tryz.prog ops Q rest (a.put o.dst v') w') : wpList Tryz.prog ops Q (o :: rest) a w := by
  obtain ⟨i0, hi, hz0, hz1, hz2⟩ := info_parts info8
  obtain ⟨h1, h2, h3, h4⟩ := hr
  cases p with
  | none =>
    have hq := h3 rfl
    subst hq
    have hb : bs = [] := List.eq_nil_of_length_eq_zero (by omega)
    subst hb
    refine wpList_append_own_none hgd s x _ ho B _ i0 1 Tryz.underlying51 hi v xs.length _ hs hown hx ?_
    exact h v w (by rw [List.append_nil]; exact hown) (World.grownBy.refl _ _)
  | some ad =>
    refine wpList_append_own _ hgd s x _ ho B 5 i0 (.int .u8 0) 1 1 Tryz.underlying51 hi hz0 hz1 hz2 rfl (by decide) v xs.length (xs.map u8v) hs hown ad bs.length q (bs.map u8v) hx (by simp) ?_ (by intro u hu; obtain ⟨n, -, rfl⟩ := List.mem_map.1 hu; rfl) (by unfold maxLen; omega) (by omega) hB ?_
    · intro j u hu
      have hj : j < bs.length := by have := (List.getElem?_eq_some_iff.1 hu).1; simpa using this
      obtain ⟨b, off, e, hc⟩ := h4 (by omega)
      simp at e
      subst e
      rw [addr_add, hc j hj, ← hu, u8v_at hj]
    · intro v' w' ho' hg' _
      refine h v' w' ?_ hg'
      unfold Own
      rw [List.length_append, List.map_append]
      exact ho'
theorem Own.arr {w : World} {B g n : Nat} {bs : List UInt8} (h : Own w B (.slice (some ⟨g, 0, none⟩) n n) bs) (hn : bs.length = n) : Arr w g 5 (bs.map u8v) := by
  obtain ⟨h1, h2⟩ := h
  rcases h2 with ⟨e, -⟩ | ⟨g', cap, cur, e, hb, hg, hle, hm, hs, ht⟩
  · simp at e
  · simp at e
    obtain ⟨rfl, -, rfl⟩ := e
    have e2 : cur.toList = bs.map u8v := by
      rw [← ht, List.take_of_length_le (by simp; omega)]
    unfold Arr
    rw [hg, ← e2]
theorem Arr.own {w : World} {B g : Nat} {bs : List UInt8} (h : Arr w g 5 (bs.map u8v)) (hB : B ≤ g) (hl : bs.length ≤ 100000000) : Own w B (.slice (some ⟨g, 0, none⟩) bs.length bs.length) bs :=
  ⟨by simp, .inr ⟨g, bs.length, (bs.map u8v).toArray, rfl, hB, h, Nat.le_refl _, by unfold maxLen; omega, by simp, List.take_of_length_le (by simp)⟩⟩
theorem Rd.addr {w : World} {p : Option Addr} {q : Nat} {bs : List UInt8} (h : Rd w p q bs) (hp : 0 < bs.length) : ∃ ad, p = some ad ∧ ∀ j v, (bs.map u8v)[j]? = some v → w.cell? (ad.add j) = some v := by
  obtain ⟨b, o, rfl, hc⟩ := h.2.2.2 hp
  refine ⟨_, rfl, fun j v hv => ?_⟩
  have hj : j < bs.length := by have := (List.getElem?_eq_some_iff.1 hv).1; simpa using this
  rw [addr_add, hc j hj, ← hv, u8v_at hj]
theorem rd_one (w : World) (b : UInt8) (t : TypeId) (v : Int) (hv : v = b.toNat) : Rd (w.alloc (.cells #[.int .u8 v] t)) (some ⟨w.heap.size, 0, none⟩) 1 [b] := by
  subst hv
  refine ⟨by simp, by unfold maxLen; decide, fun e => by simp at e, fun _ => ⟨w.heap.size, 0, rfl, fun i hi => ?_⟩⟩
  have : i = 0 := by simp at hi; omega
  subst this
  rw [World.cell?_alloc_new]
  rfl
theorem none_own8 (w : World) (B : Nat) (hB : B ≤ w.heap.size) : Own (w.alloc (.cells #[] 5)) B (.slice (some ⟨w.heap.size, 0, none⟩) 0 0) [] :=
  World.ownsRow_lit (base := B) (e := 5) (size := 1) w #[] 0 hB (by unfold maxLen; decide) (by simp)


def sliceLen : Value → Nat
  | .slice _ n _ => n
  | _ => 0


theorem putB_high (v n k : Nat) (h : k ≤ n) (hv : v < 256 ^ k) : putB v n = zs (n - k) ++ putB v k := by
  induction n with
  | zero => have : k = 0 := by omega
            subst this; rfl
  | succ n ih =>
    by_cases hk : k = n + 1
    · subst hk; simp [zs]
    · have hle : k ≤ n := by omega
      have h2 : v < 256 ^ n := Nat.lt_of_lt_of_le hv (Nat.pow_le_pow_right (by decide) hle)
      rw [putB, Nat.div_eq_of_lt h2, ih hle, show n + 1 - k = (n - k) + 1 by omega]
      simp [zs, List.replicate_succ]

/-- What the program has laid: the bytes, 128, zeros, and the lowest k bytes of the length. -/
def padRow (bs : List UInt8) (k : Nat) : List UInt8 := bs ++ 128 :: (zs (gap bs.length + 8 - k) ++ putB (8 * bs.length) k)
theorem padRow_len (bs : List UInt8) (k : Nat) (h : k ≤ 8) : (padRow bs k).length = (bs.length + 72) / 64 * 64 := by
  rw [← padN_len64, padN_len]; simp [padRow, zs_len, putB_len]; omega
theorem padRow_all (bs : List UInt8) (k : Nat) (h : k ≤ 8) (hv : 8 * bs.length < 256 ^ k) : padRow bs k = padN bs := by
  unfold padRow padN
  rw [putB_high _ 8 k h hv, ← List.append_assoc (zs _), show zs (gap bs.length) ++ zs (8 - k) = zs (gap bs.length + 8 - k) by simp [zs]; omega]
theorem padRow_set (bs : List UInt8) (k : Nat) (h : k < 8) : ((padRow bs k).map u8v).set ((bs.length + 72) / 64 * 64 - 1 - k) (.int .u8 ((8 * bs.length / 256 ^ k % 256 : Nat) : Int)) = (padRow bs (k + 1)).map u8v := by
  have hl := padRow_len bs k (by omega)
  have e0 : (padRow bs k).map u8v = (bs ++ [128]).map u8v ++ tailed (8 * bs.length) (gap bs.length + 8) k := by
    simp [padRow, tailed, zs, u8v]
  have e1 : (padRow bs (k + 1)).map u8v = (bs ++ [128]).map u8v ++ tailed (8 * bs.length) (gap bs.length + 8) (k + 1) := by
    simp [padRow, tailed, zs, u8v]
  have hg := padN_len bs
  rw [padN_len64] at hg
  rw [e0, e1, List.set_append_right _ _ (by simp; omega), ← tailed_set _ _ k (by omega)]
  congr 2
  simp; omega

/-- Behind the copy. -/
def padZero (bs : List UInt8) : List UInt8 := bs ++ 0 :: zs (gap bs.length + 8)
theorem padStart {w : World} {g : Nat} {t : TypeId} {N : Nat} {bs : List UInt8} (h : Hid (w.heap[g]? = some (.cells (splice ((zs N).map u8v) 0 (bs.map u8v)).toArray t (0, 0)))) (hN : N = bs.length + 9 + gap bs.length) : Arr w g t ((padZero bs).map u8v) := by
  have e : splice ((zs N).map u8v) 0 (bs.map u8v) = (padZero bs).map u8v := by
    subst hN
    simp only [splice, List.take_zero, List.nil_append, Nat.zero_add, List.length_map, padZero, List.map_append, zs, ← List.map_drop, List.drop_replicate]
    rw [show bs.length + 9 + gap bs.length - bs.length = (gap bs.length + 8) + 1 by omega, List.replicate_succ]
  have h2 := h.out
  rw [e] at h2
  exact h2
theorem padStart_at (bs : List UInt8) : ((padZero bs).map u8v)[bs.length]? = some (.int .u8 0) := by
  simp [padZero, u8v]
theorem padStart_set (bs : List UInt8) : ((padZero bs).map u8v).set bs.length (.int .u8 128) = (padRow bs 0).map u8v := by
  unfold padZero padRow
  rw [List.map_append, List.set_append_right _ _ (by simp), List.length_map, Nat.sub_self, List.map_cons, List.set_cons_zero]
  simp [putB, u8v]

end Go.Proofs.YthiabbgkfmopiaaGreat

/- Pieces of bytes that lie in a row of slices, and the contract of the program's own function over them: impl.joined (all pieces behind one another, in a row of its own). What was there stays. -/
namespace Go.Proofs.YthiabbgkfmopiaaGreat
open Go.ChangeShapes Go.WideShapes Go.ChangeAt Go.RowKit

/-- A piece: a slice of bytes. -/
structure Pc where
  p : Option Addr
  q : Nat
  bs : List UInt8
def Pc.val (x : Pc) : Value := .slice x.p x.bs.length x.q
/-- Pieces that lie one behind the other from ⟨b, o⟩ on, each of which can be read. -/
def Pcs (w : World) (b o : Nat) (ps : List Pc) : Prop := ∀ i x, ps[i]? = some x → w.cell? ⟨b, o + i, none⟩ = some x.val ∧ Rd w x.p x.q x.bs
theorem Pcs.keep {w w' : World} {b o : Nat} {ps : List Pc} (h : Pcs w b o ps) (hb : Below w.heap.size w w') : Pcs w' b o ps := fun i x hx =>
  ⟨(hb.cell (p := ⟨b, o + i, none⟩) (World.block_lt_of_cell? w _ (h i x hx).1)).trans (h i x hx).1, (h i x hx).2.keep hb⟩
def flat : List Pc → List UInt8
  | [] => []
  | x :: xs => x.bs ++ flat xs
theorem flat_append (xs ys : List Pc) : flat (xs ++ ys) = flat xs ++ flat ys := by
  induction xs with
  | nil => rfl
  | cons x xs ih => simp [flat, ih]
theorem flat_take {ps : List Pc} {j : Nat} {x : Pc} (h : ps[j]? = some x) : flat (ps.take (j + 1)) = flat (ps.take j) ++ x.bs := by
  obtain ⟨hj, he⟩ := List.getElem?_eq_some_iff.1 h
  rw [List.take_succ_eq_append_getElem hj, flat_append, he]
  simp [flat]
theorem flat_split (ps : List Pc) (j : Nat) : flat ps = flat (ps.take j) ++ flat (ps.drop j) := by
  rw [← flat_append, List.take_append_drop]
theorem flat_le (ps : List Pc) (j : Nat) : (flat (ps.take j)).length ≤ (flat ps).length := by
  rw [flat_split ps j, List.length_append]; omega
/-- What is laid behind k bytes. -/
def fillB (bs : List UInt8) (k : Nat) : List UInt8 := bs.take k ++ zs (bs.length - k)
theorem fillB_zero (bs : List UInt8) : fillB bs 0 = zs bs.length := by simp [fillB]
theorem fillB_all (bs : List UInt8) : fillB bs bs.length = bs := by simp [fillB, zs]
theorem fillB_len (bs : List UInt8) (k : Nat) (h : k ≤ bs.length) : (fillB bs k).length = bs.length := by simp [fillB, zs_len]; omega
theorem fillB_splice (bs : List UInt8) (k : Nat) (cs : List UInt8) (h : k + cs.length ≤ bs.length) (hc : (bs.drop k).take cs.length = cs) :
    splice ((fillB bs k).map u8v) k (cs.map u8v) = (fillB bs (k + cs.length)).map u8v := by
  have hl : ((bs.take k).map u8v).length = k := by simp; omega
  have e : bs.take (k + cs.length) = bs.take k ++ cs := by rw [List.take_add, hc]
  unfold splice fillB
  rw [e, List.map_append, List.map_append, List.map_append, List.take_append_of_le_length (by omega), List.take_of_length_le (by omega), List.drop_append, hl, List.length_map, List.drop_of_length_le (by omega), List.nil_append, List.append_assoc, show k + cs.length - k = cs.length by omega, ← List.map_drop]
  congr 3
  simp [zs]; omega
theorem flat_piece {ps : List Pc} {j : Nat} {x : Pc} (h : ps[j]? = some x) : (flat (ps.take j)).length + x.bs.length ≤ (flat ps).length ∧ ((flat ps).drop (flat (ps.take j)).length).take x.bs.length = x.bs := by
  have h1 := flat_split ps (j + 1)
  rw [flat_take h, List.append_assoc] at h1
  constructor
  · rw [h1]; simp
  · rw [h1, List.drop_left, List.take_left]

/-- Two pieces in a new row. -/
theorem pcs_two (w : World) (x y : Pc) (t : TypeId) (hx : Rd w x.p x.q x.bs) (hy : Rd w y.p y.q y.bs) : Pcs (w.alloc (.cells #[x.val, y.val] t)) w.heap.size 0 [x, y] := by
  have hA := Arr.new w [x.val, y.val] t
  intro i z hz
  rw [Nat.zero_add, hA.cell]
  match i, hz with
  | 0, hz => simp at hz; subst hz; exact ⟨rfl, hx.keep (alloc_below _ _)⟩
  | 1, hz => simp at hz; subst hz; exact ⟨rfl, hy.keep (alloc_below _ _)⟩
  | i + 2, hz => simp at hz
theorem flat_two (x y : Pc) : flat [x, y] = x.bs ++ y.bs := by simp [flat]
theorem pcs_one (w : World) (x : Pc) (t : TypeId) (hx : Rd w x.p x.q x.bs) : Pcs (w.alloc (.cells #[x.val] t)) w.heap.size 0 [x] := by
  have hA := Arr.new w [x.val] t
  intro i z hz
  rw [Nat.zero_add, hA.cell]
  match i, hz with
  | 0, hz => simp at hz; subst hz; exact ⟨rfl, hx.keep (alloc_below _ _)⟩
  | i + 1, hz => simp at hz
theorem pcs_three (w : World) (x y z : Pc) (t : TypeId) (hx : Rd w x.p x.q x.bs) (hy : Rd w y.p y.q y.bs) (hz : Rd w z.p z.q z.bs) : Pcs (w.alloc (.cells #[x.val, y.val, z.val] t)) w.heap.size 0 [x, y, z] := by
  have hA := Arr.new w [x.val, y.val, z.val] t
  intro i v hv
  rw [Nat.zero_add, hA.cell]
  match i, hv with
  | 0, hv => simp at hv; subst hv; exact ⟨rfl, hx.keep (alloc_below _ _)⟩
  | 1, hv => simp at hv; subst hv; exact ⟨rfl, hy.keep (alloc_below _ _)⟩
  | 2, hv => simp at hv; subst hv; exact ⟨rfl, hz.keep (alloc_below _ _)⟩
  | i + 3, hv => simp at hv
theorem flat_one (x : Pc) : flat [x] = x.bs := by simp [flat]
theorem flat_three (x y z : Pc) : flat [x, y, z] = x.bs ++ y.bs ++ z.bs := by simp [flat]
/-- A literal of bytes in a new row. -/
theorem rd_new (w : World) (vs : List Value) (bs : List UInt8) (t : TypeId) (n : Nat) (hv : vs = bs.map u8v) (hn : bs.length = n) (hl : n ≤ 1000) : Rd (w.alloc (.cells vs.toArray t)) (some ⟨w.heap.size, 0, none⟩) n bs := by
  have hA := Arr.new w vs t
  refine ⟨by omega, by unfold maxLen; omega, fun e => by simp at e, fun _ => ⟨_, _, rfl, fun i hi => ?_⟩⟩
  rw [Nat.zero_add, hA.cell, hv, u8v_at hi]
theorem pcs_four (w : World) (x y z v : Pc) (t : TypeId) (hx : Rd w x.p x.q x.bs) (hy : Rd w y.p y.q y.bs) (hz : Rd w z.p z.q z.bs) (hv : Rd w v.p v.q v.bs) : Pcs (w.alloc (.cells #[x.val, y.val, z.val, v.val] t)) w.heap.size 0 [x, y, z, v] := by
  have hA := Arr.new w [x.val, y.val, z.val, v.val] t
  intro i u hu
  rw [Nat.zero_add, hA.cell]
  match i, hu with
  | 0, hu => simp at hu; subst hu; exact ⟨rfl, hx.keep (alloc_below _ _)⟩
  | 1, hu => simp at hu; subst hu; exact ⟨rfl, hy.keep (alloc_below _ _)⟩
  | 2, hu => simp at hu; subst hu; exact ⟨rfl, hz.keep (alloc_below _ _)⟩
  | 3, hu => simp at hu; subst hu; exact ⟨rfl, hv.keep (alloc_below _ _)⟩
  | i + 4, hu => simp at hu
theorem u8_of (n : Nat) (h : n < 256) : u8v (UInt8.ofNat n) = .int .u8 (n : Int) := by
  unfold u8v
  rw [UInt8.toNat_ofNat', Nat.mod_eq_of_lt h]



theorem flat_four (x y z v : Pc) : flat [x, y, z, v] = x.bs ++ y.bs ++ z.bs ++ v.bs := by simp [flat]
end Go.Proofs.YthiabbgkfmopiaaGreat

