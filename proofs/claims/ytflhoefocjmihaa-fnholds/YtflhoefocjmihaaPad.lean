/- The contracts of what pads: spec.l1Copy, spec.l2Pad, impl.padded: they answer padN, in a row of their own. For at most 600 bytes. And a law of our own: append of bytes that can be read to a row of one's own. -/
import Derived.Test.YtflhoefocjmihaaSha
import Derived.Test.YtflhoefocjmihaaJoint5
import Derived.Test.YtflhoefocjmihaaArr
import Derived.Laws.AppendOwnNone
import Derived.Laws.CopyOwn
namespace Go.Proofs.Ytflhoefocjmihaa
open Go.ChangeShapes Go.WideShapes Go.ChangeAt Go.RowKit

/-- append(s, x...) where s lies in a row of its own, and x can be read. -/
theorem wpList_append_rd {w : World} {ops : Array Oper} {rest : List Oper} {o : Oper} {a : Act} {Q : Exit → Act → World → Prop} (hgd : o.guard = none) (s x : Operand)
    (ho : o.op = .call { callee := .builtin .append, args := #[s, x], argTypes := #[22, 22] })
    (B : Nat) (v : Value) (xs : List UInt8) (hs : a.eval s = v) (hown : Own w B v xs) (p : Option Addr) (q : Nat) (bs : List UInt8) (hx : a.eval x = .slice p bs.length q) (hr : Rd w p q bs)
    (hl : xs.length + bs.length ≤ 100000000) (hB : B ≤ w.heap.size)
    (h : ∀ v' w', Own w' B v' (xs ++ bs) → w.grownBy w' v.ownBlock → wpList Try.prog ops Q rest (a.put o.dst v') w') : wpList Try.prog ops Q (o :: rest) a w := by
  obtain ⟨i0, hi, hz0, hz1, hz2⟩ := info_parts info8
  obtain ⟨h1, h2, h3, h4⟩ := hr
  cases p with
  | none =>
    have hq := h3 rfl
    subst hq
    have hb : bs = [] := List.eq_nil_of_length_eq_zero (by omega)
    subst hb
    refine wpList_append_own_none hgd s x _ ho B _ i0 1 Try.underlying22 hi v xs.length _ hs hown hx ?_
    exact h v w (by rw [List.append_nil]; exact hown) (World.grownBy.refl _ _)
  | some ad =>
    refine wpList_append_own _ hgd s x _ ho B 5 i0 (.int .u8 0) 1 1 Try.underlying22 hi hz0 hz1 hz2 rfl (by decide) v xs.length (xs.map u8v) hs hown ad bs.length q (bs.map u8v) hx (by simp) ?_ (by intro u hu; obtain ⟨n, -, rfl⟩ := List.mem_map.1 hu; rfl) (by unfold maxLen; omega) (by omega) hB ?_
    · intro j u hu
      have hj : j < bs.length := by have := (List.getElem?_eq_some_iff.1 hu).1; simpa using this
      obtain ⟨b, off, e, hc⟩ := h4 (by omega)
      simp at e
      subst e
      rw [addr_add, hc j hj, ← hu, u8v_at hj]
    · intro v' w' ho' hg' _
      refine h v' w' ?_ hg'
      unfold Own
      rw [List.length_append, List.map_append]
      exact ho'
theorem Own.arr {w : World} {B g n : Nat} {bs : List UInt8} (h : Own w B (.slice (some ⟨g, 0, none⟩) n n) bs) (hn : bs.length = n) : Arr w g 5 (bs.map u8v) := by
  obtain ⟨h1, h2⟩ := h
  rcases h2 with ⟨e, -⟩ | ⟨g', cap, cur, e, hb, hg, hle, hm, hs, ht⟩
  · simp at e
  · simp at e
    obtain ⟨rfl, -, rfl⟩ := e
    have e2 : cur.toList = bs.map u8v := by
      rw [← ht, List.take_of_length_le (by simp; omega)]
    unfold Arr
    rw [hg, ← e2]
theorem Arr.own {w : World} {B g : Nat} {bs : List UInt8} (h : Arr w g 5 (bs.map u8v)) (hB : B ≤ g) (hl : bs.length ≤ 100000000) : Own w B (.slice (some ⟨g, 0, none⟩) bs.length bs.length) bs :=
  ⟨by simp, .inr ⟨g, bs.length, (bs.map u8v).toArray, rfl, hB, h, Nat.le_refl _, by unfold maxLen; omega, by simp, List.take_of_length_le (by simp)⟩⟩
theorem Rd.addr {w : World} {p : Option Addr} {q : Nat} {bs : List UInt8} (h : Rd w p q bs) (hp : 0 < bs.length) : ∃ ad, p = some ad ∧ ∀ j v, (bs.map u8v)[j]? = some v → w.cell? (ad.add j) = some v := by
  obtain ⟨b, o, rfl, hc⟩ := h.2.2.2 hp
  refine ⟨_, rfl, fun j v hv => ?_⟩
  have hj : j < bs.length := by have := (List.getElem?_eq_some_iff.1 hv).1; simpa using this
  rw [addr_add, hc j hj, ← hv, u8v_at hj]
theorem rd_one (w : World) (b : UInt8) (t : TypeId) (v : Int) (hv : v = b.toNat) : Rd (w.alloc (.cells #[.int .u8 v] t)) (some ⟨w.heap.size, 0, none⟩) 1 [b] := by
  subst hv
  refine ⟨by simp, by unfold maxLen; decide, fun e => by simp at e, fun _ => ⟨w.heap.size, 0, rfl, fun i hi => ?_⟩⟩
  have : i = 0 := by simp at hi; omega
  subst this
  rw [World.cell?_alloc_new]
  rfl
theorem none_own8 (w : World) (B : Nat) (hB : B ≤ w.heap.size) : Own (w.alloc (.cells #[] 5)) B (.slice (some ⟨w.heap.size, 0, none⟩) 0 0) [] :=
  World.ownsRow_lit (base := B) (e := 5) (size := 1) w #[] 0 hB (by unfold maxLen; decide) (by simp)

set_option maxHeartbeats 1000000 in
theorem l1Copy_c (p : Option Addr) (q : Nat) (bs : List UInt8) (w : World) (hr : Rd w p q bs) (hl : bs.length ≤ 1000000) :
    Calls Try.prog 41 #[.slice p bs.length q] w fun e w' => ∃ u, e = .returned u ∧ Own w' w.heap.size u bs ∧ Below w.heap.size w w' := by
  have hr2 := hr.keep (alloc_below w (Obj.cells #[] 5))
  have ho := none_own8 w w.heap.size (Nat.le_refl _)
  go_enter Try.func41, Try.ntmps41
  go_wp2_with (first
    | (at_builtin; refine wpList_append_rd rfl (.tmp 3) (.tmp 4) rfl w.heap.size _ [] rfl ho p q bs rfl hr2 (by simp; omega) (by simp) ?_; intro v' w' ho' hg')
    | go_in)
  have RB := (alloc_below w (Obj.cells #[] 5)).grown hg' (by simp) (fun k hk => ho.ge k hk)
  go_ret
  exact ⟨_, rfl, ho', RB⟩

def sliceLen : Value → Nat
  | .slice _ n _ => n
  | _ => 0


theorem putB_high (v n k : Nat) (h : k ≤ n) (hv : v < 256 ^ k) : putB v n = zs (n - k) ++ putB v k := by
  induction n with
  | zero => have : k = 0 := by omega
            subst this; rfl
  | succ n ih =>
    by_cases hk : k = n + 1
    · subst hk; simp [zs]
    · have hle : k ≤ n := by omega
      have h2 : v < 256 ^ n := Nat.lt_of_lt_of_le hv (Nat.pow_le_pow_right (by decide) hle)
      rw [putB, Nat.div_eq_of_lt h2, ih hle, show n + 1 - k = (n - k) + 1 by omega]
      simp [zs, List.replicate_succ]

/-- What the program has laid: the bytes, 128, zeros, and the lowest k bytes of the length. -/
def padRow (bs : List UInt8) (k : Nat) : List UInt8 := bs ++ 128 :: (zs (gap bs.length + 8 - k) ++ putB (8 * bs.length) k)
theorem padRow_len (bs : List UInt8) (k : Nat) (h : k ≤ 8) : (padRow bs k).length = (bs.length + 72) / 64 * 64 := by
  rw [← padN_len64, padN_len]; simp [padRow, zs_len, putB_len]; omega
theorem padRow_all (bs : List UInt8) (k : Nat) (h : k ≤ 8) (hv : 8 * bs.length < 256 ^ k) : padRow bs k = padN bs := by
  unfold padRow padN
  rw [putB_high _ 8 k h hv, ← List.append_assoc (zs _), show zs (gap bs.length) ++ zs (8 - k) = zs (gap bs.length + 8 - k) by simp [zs]; omega]
theorem padRow_set (bs : List UInt8) (k : Nat) (h : k < 8) : ((padRow bs k).map u8v).set ((bs.length + 72) / 64 * 64 - 1 - k) (.int .u8 ((8 * bs.length / 256 ^ k % 256 : Nat) : Int)) = (padRow bs (k + 1)).map u8v := by
  have hl := padRow_len bs k (by omega)
  have e0 : (padRow bs k).map u8v = (bs ++ [128]).map u8v ++ tailed (8 * bs.length) (gap bs.length + 8) k := by
    simp [padRow, tailed, zs, u8v]
  have e1 : (padRow bs (k + 1)).map u8v = (bs ++ [128]).map u8v ++ tailed (8 * bs.length) (gap bs.length + 8) (k + 1) := by
    simp [padRow, tailed, zs, u8v]
  have hg := padN_len bs
  rw [padN_len64] at hg
  rw [e0, e1, List.set_append_right _ _ (by simp; omega), ← tailed_set _ _ k (by omega)]
  congr 2
  simp; omega

/-- Behind the copy. -/
def padZero (bs : List UInt8) : List UInt8 := bs ++ 0 :: zs (gap bs.length + 8)
theorem padStart {w : World} {g : Nat} {t : TypeId} {N : Nat} {bs : List UInt8} (h : Hid (w.heap[g]? = some (.cells (splice ((zs N).map u8v) 0 (bs.map u8v)).toArray t (0, 0)))) (hN : N = bs.length + 9 + gap bs.length) : Arr w g t ((padZero bs).map u8v) := by
  have e : splice ((zs N).map u8v) 0 (bs.map u8v) = (padZero bs).map u8v := by
    subst hN
    simp only [splice, List.take_zero, List.nil_append, Nat.zero_add, List.length_map, padZero, List.map_append, zs, ← List.map_drop, List.drop_replicate]
    rw [show bs.length + 9 + gap bs.length - bs.length = (gap bs.length + 8) + 1 by omega, List.replicate_succ]
  have h2 := h.out
  rw [e] at h2
  exact h2
theorem padStart_at (bs : List UInt8) : ((padZero bs).map u8v)[bs.length]? = some (.int .u8 0) := by
  simp [padZero, u8v]
theorem padStart_set (bs : List UInt8) : ((padZero bs).map u8v).set bs.length (.int .u8 128) = (padRow bs 0).map u8v := by
  unfold padZero padRow
  rw [List.map_append, List.set_append_right _ _ (by simp), List.length_map, Nat.sub_self, List.map_cons, List.set_cons_zero]
  simp [putB, u8v]

end Go.Proofs.Ytflhoefocjmihaa

