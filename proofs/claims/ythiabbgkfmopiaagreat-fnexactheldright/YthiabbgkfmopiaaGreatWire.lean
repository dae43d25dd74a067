/- Chapter 6 as plain functions on messages and bytes, with no program in it: a message's fault and bytes (faultM, packN, packAll), messages read from bytes (unpackR), blocks' bytes (blksN), blocks read from bytes (splitR); that each is read back from the other. No conditions but those in each line. -/
import Derived.Test.YthiabbgkfmopiaaGreatJoint2
namespace Go.Proofs.YthiabbgkfmopiaaGreat
open Go.RowKit

def faultW (k : Int) (n : Nat) : Int := if inB k 0 255 then (if n ≤ 160 then 0 else 2) else 3
def packW (k : Int) (b : List UInt8) : List UInt8 := mark8 k :: (putB b.length 3 ++ b)
theorem packW_len (k : Int) (b : List UInt8) : (packW k b).length = b.length + 4 := by simp [packW, putB_len]; omega
def packAll (l : List (Int × List UInt8)) : List UInt8 := l.flatMap fun a => packW a.1 a.2
theorem packAll_append (l r : List (Int × List UInt8)) : packAll (l ++ r) = packAll l ++ packAll r := by simp [packAll]
theorem packAll_one (a : Int × List UInt8) : packAll [a] = packW a.1 a.2 := by simp [packAll]
theorem packAll_cons (a : Int × List UInt8) (l : List (Int × List UInt8)) : packAll (a :: l) = packW a.1 a.2 ++ packAll l := by simp [packAll]
theorem packAll_take {l : List (Int × List UInt8)} {k : Nat} {a : Int × List UInt8} (h : l[k]? = some a) : packAll (l.take (k + 1)) = packAll (l.take k) ++ packW a.1 a.2 := by
  rw [List.take_add_one, h, packAll_append]; simp [packAll]
theorem packAll_le (l : List (Int × List UInt8)) (k : Nat) : (packAll (l.take k)).length ≤ (packAll l).length := by
  conv => rhs; rw [← List.take_append_drop k l, packAll_append, List.length_append]
  omega
def firstF : List (Int × List UInt8) → Int
  | [] => 0
  | a :: l => if faultW a.1 a.2.length = 0 then firstF l else faultW a.1 a.2.length
theorem firstF_at {l : List (Int × List UInt8)} {k : Nat} {a : Int × List UInt8} (h : l[k]? = some a) (hz : ∀ (j : Nat) (b : Int × List UInt8), j < k → l[j]? = some b → faultW b.1 b.2.length = 0) (hn : ¬ faultW a.1 a.2.length = 0) : firstF l = faultW a.1 a.2.length := by
  induction l generalizing k with
  | nil => simp at h
  | cons b l ih =>
    cases k with
    | zero => simp at h; subst h; rw [firstF, if_neg hn]
    | succ k =>
      rw [firstF, if_pos (hz 0 b (by omega) rfl)]
      exact ih (by simpa using h) fun j c hj hc => hz (j + 1) c (by omega) (by simpa using hc)
theorem firstF_zero {l : List (Int × List UInt8)} : (∀ (j : Nat) (b : Int × List UInt8), l[j]? = some b → faultW b.1 b.2.length = 0) → firstF l = 0 := by
  induction l with
  | nil => intro _; rfl
  | cons b l ih => intro h; rw [firstF, if_pos (h 0 b rfl)]; exact ih fun j c hc => h (j + 1) c (by simpa using hc)
theorem firstF_all {l : List (Int × List UInt8)} (h : firstF l = 0) : ∀ a ∈ l, faultW a.1 a.2.length = 0 := by
  induction l with
  | nil => intro a ha; cases ha
  | cons b l ih =>
    unfold firstF at h
    split at h
    · rename_i h1
      intro a ha
      rcases List.mem_cons.1 ha with rfl | h2
      · exact h1
      · exact ih h a h2
    · rename_i h1; exact absurd h h1
def psC (l : List (Int × List UInt8)) : Int := if l.length ≤ 12 then (if firstF l = 0 then (if (packAll l).length ≤ 600 then 0 else 2) else firstF l) else 2
def psL (l : List (Int × List UInt8)) : List UInt8 := if psC l = 0 then packAll l else []
theorem faultW_cases (k : Int) (n : Nat) : faultW k n = 0 ∨ faultW k n = 2 ∨ faultW k n = 3 := by
  unfold faultW; split
  · split
    · exact .inl rfl
    · exact .inr (.inl rfl)
  · exact .inr (.inr rfl)
theorem faultW_zero {k : Int} {n : Nat} (h : faultW k n = 0) : inB k 0 255 = true ∧ n ≤ 160 := by
  unfold faultW at h
  split at h
  · rename_i h1
    split at h
    · rename_i h2; exact ⟨h1, h2⟩
    · cases h
  · cases h
theorem psC_zero {l : List (Int × List UInt8)} (h : psC l = 0) : l.length ≤ 12 ∧ firstF l = 0 ∧ (packAll l).length ≤ 600 := by
  unfold psC at h
  split at h
  · rename_i h1
    split at h
    · rename_i h2
      split at h
      · rename_i h3; exact ⟨h1, h2, h3⟩
      · cases h
    · rename_i h2; exact absurd h h2
  · cases h
theorem psL_len (l : List (Int × List UInt8)) : (psL l).length ≤ 1048576 := by
  unfold psL; split
  · rename_i h; have := (psC_zero h).2.2; omega
  · simp

/-- How many bytes a message's body has, as its four bytes at a place tell. -/
def lenAt (data : List UInt8) (at_ : Nat) : Nat := getB ((data.drop (at_ + 1)).take 3)
def bodyAt (data : List UInt8) (at_ : Nat) : List UInt8 := (data.drop (at_ + 4)).take (lenAt data at_)
def msgAt (data : List UInt8) (at_ : Nat) : Int × List UInt8 := (at8 data at_, bodyAt data at_)
/-- Messages read from a place on, behind those that are read already: code, place, messages. -/
def unpackR (data : List UInt8) (at_ : Nat) (out : List (Int × List UInt8)) : Int × Int × List (Int × List UInt8) :=
  if at_ < data.length then
    if data.length - at_ < 4 then (5, at_, [])
    else if 160 < lenAt data at_ ∨ 12 ≤ out.length then (2, at_, [])
    else if data.length - at_ - 4 < lenAt data at_ then (5, at_, [])
    else unpackR data (at_ + 4 + lenAt data at_) (out ++ [msgAt data at_])
  else (0, 0, out)
termination_by data.length - at_
def umC (data : List UInt8) : Int × Int × List (Int × List UInt8) := if data.length ≤ 600 then unpackR data 0 [] else (2, 0, [])

theorem unpackR_end {data : List UInt8} {at_ : Nat} {out : List (Int × List UInt8)} (h : ¬ at_ < data.length) : unpackR data at_ out = (0, 0, out) := by rw [unpackR, if_neg h]
theorem unpackR_short {data : List UInt8} {at_ : Nat} {out : List (Int × List UInt8)} (h : at_ < data.length) (h1 : data.length - at_ < 4) : unpackR data at_ out = (5, (at_ : Int), []) := by rw [unpackR, if_pos h, if_pos h1]
theorem unpackR_many {data : List UInt8} {at_ : Nat} {out : List (Int × List UInt8)} (h : at_ < data.length) (h1 : ¬ data.length - at_ < 4) (h2 : 160 < lenAt data at_ ∨ 12 ≤ out.length) : unpackR data at_ out = (2, (at_ : Int), []) := by rw [unpackR, if_pos h, if_neg h1, if_pos h2]
theorem unpackR_less {data : List UInt8} {at_ : Nat} {out : List (Int × List UInt8)} (h : at_ < data.length) (h1 : ¬ data.length - at_ < 4) (h2 : ¬ (160 < lenAt data at_ ∨ 12 ≤ out.length)) (h3 : data.length - at_ - 4 < lenAt data at_) : unpackR data at_ out = (5, (at_ : Int), []) := by rw [unpackR, if_pos h, if_neg h1, if_neg h2, if_pos h3]
theorem unpackR_next {data : List UInt8} {at_ : Nat} {out : List (Int × List UInt8)} (h : at_ < data.length) (h1 : ¬ data.length - at_ < 4) (h2 : ¬ (160 < lenAt data at_ ∨ 12 ≤ out.length)) (h3 : ¬ data.length - at_ - 4 < lenAt data at_) : unpackR data at_ out = unpackR data (at_ + 4 + lenAt data at_) (out ++ [msgAt data at_]) := by
  conv => lhs; rw [unpackR, if_pos h, if_neg h1, if_neg h2, if_neg h3]

theorem getB_put3 (v : Nat) (h : v < 16777216) : getB (putB v 3) = v := by
  have e4 : putB v 3 = [UInt8.ofNat (v / 65536 % 256), UInt8.ofNat (v / 256 % 256), UInt8.ofNat (v / 1 % 256)] := rfl
  rw [e4]
  simp only [getB, List.foldl_cons, List.foldl_nil, UInt8.toNat_ofNat']
  omega
/-- What stands behind a beginning. -/
theorem drop_past {α : Type} (xs ys : List α) (n : Nat) : (xs ++ ys).drop (xs.length + n) = ys.drop n := by
  rw [← List.drop_drop, List.drop_left]
theorem lenAt_pack (pre rest : List UInt8) (k : Int) (b : List UInt8) (hb : b.length ≤ 160) : lenAt (pre ++ (packW k b ++ rest)) pre.length = b.length := by
  unfold lenAt packW
  rw [drop_past, List.cons_append, List.drop_succ_cons, List.drop_zero, List.append_assoc, List.take_append_of_le_length (by rw [putB_len]; exact Nat.le_refl _), List.take_of_length_le (by rw [putB_len]; exact Nat.le_refl _), getB_put3 _ (by omega)]
theorem bodyAt_pack (pre rest : List UInt8) (k : Int) (b : List UInt8) (hb : b.length ≤ 160) : bodyAt (pre ++ (packW k b ++ rest)) pre.length = b := by
  unfold bodyAt
  rw [lenAt_pack pre rest k b hb, drop_past]
  unfold packW
  have e := drop_past (putB b.length 3) (b ++ rest) 0
  rw [putB_len, List.drop_zero] at e
  rw [List.cons_append, List.drop_succ_cons, List.append_assoc, e]
  exact List.take_left' rfl
theorem at8_pack (pre rest : List UInt8) (k : Int) (b : List UInt8) (hk : inB k 0 255 = true) : at8 (pre ++ (packW k b ++ rest)) pre.length = k := by
  unfold at8 packW
  rw [List.getD_eq_getElem?_getD, List.getElem?_append_right (Nat.le_refl _), Nat.sub_self, List.cons_append]
  simp only [List.getElem?_cons_zero, Option.getD_some]
  rw [mark8_nat]
  simp [inB] at hk
  omega
/-- Messages are read back from their bytes. -/
theorem unpack_pack : ∀ (l : List (Int × List UInt8)) (pre : List UInt8) (out : List (Int × List UInt8)), (∀ a ∈ l, faultW a.1 a.2.length = 0) → out.length + l.length ≤ 12 → unpackR (pre ++ packAll l) pre.length out = (0, 0, out ++ l)
  | [], pre, out, _, _ => by rw [unpackR_end (by simp [packAll]), List.append_nil]
  | a :: l, pre, out, hf, hl => by
    obtain ⟨hk, hb⟩ := faultW_zero (hf a List.mem_cons_self)
    have hlen : (pre ++ packAll (a :: l)).length = pre.length + (a.2.length + 4) + (packAll l).length := by rw [packAll_cons, List.length_append, List.length_append, packW_len]; omega
    have e1 : lenAt (pre ++ packAll (a :: l)) pre.length = a.2.length := by rw [packAll_cons]; exact lenAt_pack pre _ a.1 a.2 hb
    have e2 : msgAt (pre ++ packAll (a :: l)) pre.length = a := by
      unfold msgAt
      rw [packAll_cons, at8_pack pre _ a.1 a.2 hk, bodyAt_pack pre _ a.1 a.2 hb]
    simp only [List.length_cons] at hl
    rw [unpackR_next (by rw [hlen]; omega) (by rw [hlen]; omega) (by rw [e1]; omega) (by rw [hlen, e1]; omega), e1, e2]
    have h := unpack_pack l (pre ++ packW a.1 a.2) (out ++ [a]) (fun b hb => hf b (List.mem_cons_of_mem _ hb)) (by rw [List.length_append, List.length_singleton]; omega)
    rw [List.append_assoc, ← packAll_cons, List.length_append, packW_len, show pre.length + (a.2.length + 4) = pre.length + 4 + a.2.length by omega, List.append_assoc] at h
    exact h
theorem putB_getB3 (bs : List UInt8) (h : bs.length = 3) : putB (getB bs) 3 = bs := by
  match bs, h with
  | [a, b, c], _ =>
    have ha := a.toNat_lt
    have hb := b.toNat_lt
    have hc := c.toNat_lt
    have e4 : putB (getB [a, b, c]) 3 = [UInt8.ofNat (getB [a, b, c] / 65536 % 256), UInt8.ofNat (getB [a, b, c] / 256 % 256), UInt8.ofNat (getB [a, b, c] / 1 % 256)] := rfl
    have e5 : getB [a, b, c] = (a.toNat * 256 + b.toNat) * 256 + c.toNat := by simp [getB]
    rw [e4, e5]
    have u : ∀ (x : UInt8) (n : Nat), n = x.toNat → UInt8.ofNat n = x := fun x n hn => by rw [hn]; exact UInt8.ofNat_toNat
    rw [u a _ (by omega), u b _ (by omega), u c _ (by omega)]
theorem packW_at {data : List UInt8} {at_ : Nat} (h1 : ¬ data.length - at_ < 4) (h3 : ¬ data.length - at_ - 4 < lenAt data at_) (h : at_ < data.length) : packW (msgAt data at_).1 (msgAt data at_).2 = (data.drop at_).take (4 + lenAt data at_) := by
  have hb : (bodyAt data at_).length = lenAt data at_ := by unfold bodyAt; rw [List.length_take, List.length_drop]; omega
  have h3' : ((data.drop (at_ + 1)).take 3).length = 3 := by rw [List.length_take, List.length_drop]; omega
  unfold packW msgAt
  simp only
  rw [hb]
  have e1 : putB (lenAt data at_) 3 = (data.drop (at_ + 1)).take 3 := by unfold lenAt; exact putB_getB3 _ h3'
  rw [e1]
  unfold bodyAt
  have e2 : mark8 (at8 data at_) = data[at_] := by
    unfold mark8
    rw [at8_get h]
    have := data[at_].toNat_lt
    rw [show (((data[at_].toNat : Nat) : Int) % 256).toNat = data[at_].toNat by omega, UInt8.ofNat_toNat]
  rw [e2]
  have e3 : data.drop at_ = data[at_] :: data.drop (at_ + 1) := List.drop_eq_getElem_cons h
  rw [e3, show 4 + lenAt data at_ = (3 + lenAt data at_) + 1 by omega, List.take_succ_cons, List.take_add, List.drop_drop]
theorem packAll_msg {data : List UInt8} {at_ : Nat} (h1 : ¬ data.length - at_ < 4) (h3 : ¬ data.length - at_ - 4 < lenAt data at_) (h : at_ < data.length) (out : List (Int × List UInt8)) (ho : packAll out = data.take at_) : packAll (out ++ [msgAt data at_]) = data.take (at_ + 4 + lenAt data at_) := by
  rw [packAll_append, packAll_one, packW_at h1 h3 h, ho, Nat.add_assoc]
  exact (List.take_add (i := at_) (j := 4 + lenAt data at_) (l := data)).symm
/-- Bytes that are read as messages are theirs, and these have no fault. -/
theorem pack_unpack (data : List UInt8) : ∀ (m at_ : Nat) (out : List (Int × List UInt8)) (r : Int × Int × List (Int × List UInt8)), data.length - at_ ≤ m → at_ ≤ data.length → packAll out = data.take at_ → out.length ≤ 12 → (∀ a ∈ out, faultW a.1 a.2.length = 0) → unpackR data at_ out = r → r.1 = 0 → packAll r.2.2 = data ∧ r.2.2.length ≤ 12 ∧ ∀ a ∈ r.2.2, faultW a.1 a.2.length = 0
  | 0, at_, out, r, hm, hle, ho, hl, hf, hr, hz => by
    rw [unpackR_end (by omega)] at hr
    subst hr
    exact ⟨by rw [ho]; exact List.take_of_length_le (by omega), hl, hf⟩
  | m + 1, at_, out, r, hm, hle, ho, hl, hf, hr, hz => by
    by_cases h : at_ < data.length
    · by_cases h1 : data.length - at_ < 4
      · rw [unpackR_short h h1] at hr; subst hr; cases hz
      · by_cases h2 : 160 < lenAt data at_ ∨ 12 ≤ out.length
        · rw [unpackR_many h h1 h2] at hr; subst hr; cases hz
        · by_cases h3 : data.length - at_ - 4 < lenAt data at_
          · rw [unpackR_less h h1 h2 h3] at hr; subst hr; cases hz
          · rw [unpackR_next h h1 h2 h3] at hr
            refine pack_unpack data m _ _ r (by omega) (by omega) (packAll_msg h1 h3 h out ho) (by rw [List.length_append, List.length_singleton]; omega) (fun a ha => ?_) hr hz
            rcases List.mem_append.1 ha with h4 | h4
            · exact hf a h4
            · rw [List.mem_singleton.1 h4]
              have hb : (bodyAt data at_).length = lenAt data at_ := by unfold bodyAt; rw [List.length_take, List.length_drop]; omega
              have hk : inB (at8 data at_) 0 255 = true := inB_true (at8_lo _ _) (at8_hi _ _)
              show faultW (at8 data at_) (bodyAt data at_).length = 0
              rw [hb, faultW, if_pos hk, if_pos (by omega)]
    · rw [unpackR_end h] at hr
      subst hr
      exact ⟨by rw [ho]; exact List.take_of_length_le (by omega), hl, hf⟩

/-- A block's bytes; blocks'. -/
def blkW (b : List UInt8) : List UInt8 := mark8 (b.length : Int) :: b
def blksN (l : List (List UInt8)) : List UInt8 := l.flatMap blkW
theorem blkW_len (b : List UInt8) : (blkW b).length = b.length + 1 := by simp [blkW]
theorem blksN_append (l r : List (List UInt8)) : blksN (l ++ r) = blksN l ++ blksN r := by simp [blksN]
theorem blksN_cons (b : List UInt8) (l : List (List UInt8)) : blksN (b :: l) = blkW b ++ blksN l := by simp [blksN]
theorem blksN_one (b : List UInt8) : blksN [b] = blkW b := by simp [blksN]
theorem blksN_take {l : List (List UInt8)} {k : Nat} {b : List UInt8} (h : l[k]? = some b) : blksN (l.take (k + 1)) = blksN (l.take k) ++ blkW b := by
  rw [List.take_add_one, h, blksN_append]; simp [blksN]
theorem blksN_le (l : List (List UInt8)) (k : Nat) : (blksN (l.take k)).length ≤ (blksN l).length := by
  conv => rhs; rw [← List.take_append_drop k l, blksN_append, List.length_append]
  omega
def okBl (l : List (List UInt8)) : Bool := l.all fun b => decide (b.length ≤ 120)
def pbC (l : List (List UInt8)) : Int := if l.length ≤ 8 ∧ okBl l = true ∧ (blksN l).length ≤ 160 then 0 else 2
def pbL (l : List (List UInt8)) : List UInt8 := if pbC l = 0 then blksN l else []
theorem pbC_zero {l : List (List UInt8)} (h : pbC l = 0) : l.length ≤ 8 ∧ okBl l = true ∧ (blksN l).length ≤ 160 := by
  unfold pbC at h
  split at h
  · assumption
  · cases h
theorem pbL_len (l : List (List UInt8)) : (pbL l).length ≤ 1048576 := by
  unfold pbL; split
  · rename_i h; have := (pbC_zero h).2.2; omega
  · simp
theorem okBl_at {l : List (List UInt8)} (h : okBl l = true) {b : List UInt8} (hb : b ∈ l) : b.length ≤ 120 := by
  have := (List.all_eq_true.1 h) b hb
  simpa using this
theorem okBl_of {l : List (List UInt8)} (h : ∀ (j : Nat) (b : List UInt8), l[j]? = some b → b.length ≤ 120) : okBl l = true := by
  rw [okBl, List.all_eq_true]
  intro b hb
  obtain ⟨i, hi, rfl⟩ := List.mem_iff_getElem.1 hb
  simpa using h i _ (by simp [hi])
theorem okBl_not {l : List (List UInt8)} {j : Nat} {b : List UInt8} (h : l[j]? = some b) (hb : ¬ b.length ≤ 120) : okBl l = false := by
  rw [okBl, List.all_eq_false]
  exact ⟨b, List.mem_of_getElem? h, by simpa using hb⟩
def numAt (data : List UInt8) (at_ : Nat) : Nat := (data.getD at_ 0).toNat
def blkAt (data : List UInt8) (at_ : Nat) : List UInt8 := (data.drop (at_ + 1)).take (numAt data at_)
def splitR (data : List UInt8) (at_ : Nat) (out : List (List UInt8)) : Option (List (List UInt8)) :=
  if at_ < data.length then
    if 120 < numAt data at_ ∨ 8 ≤ out.length ∨ data.length < at_ + 1 + numAt data at_ then none
    else splitR data (at_ + 1 + numAt data at_) (out ++ [blkAt data at_])
  else some out
termination_by data.length - at_
theorem splitR_end {data : List UInt8} {at_ : Nat} {out : List (List UInt8)} (h : ¬ at_ < data.length) : splitR data at_ out = some out := by rw [splitR, if_neg h]
theorem splitR_none {data : List UInt8} {at_ : Nat} {out : List (List UInt8)} (h : at_ < data.length) (h2 : 120 < numAt data at_ ∨ 8 ≤ out.length ∨ data.length < at_ + 1 + numAt data at_) : splitR data at_ out = none := by rw [splitR, if_pos h, if_pos h2]
theorem splitR_next {data : List UInt8} {at_ : Nat} {out : List (List UInt8)} (h : at_ < data.length) (h2 : ¬ (120 < numAt data at_ ∨ 8 ≤ out.length ∨ data.length < at_ + 1 + numAt data at_)) : splitR data at_ out = splitR data (at_ + 1 + numAt data at_) (out ++ [blkAt data at_]) := by
  conv => lhs; rw [splitR, if_pos h, if_neg h2]
def ubC (data : List UInt8) : Int := if data.length ≤ 160 then (if (splitR data 0 []).isSome then 0 else 5) else 2
def ubL (data : List UInt8) : List (List UInt8) := if data.length ≤ 160 then (splitR data 0 []).getD [] else []

theorem numAt_blk (pre rest b : List UInt8) (hb : b.length ≤ 120) : numAt (pre ++ (blkW b ++ rest)) pre.length = b.length := by
  unfold numAt blkW
  rw [List.getD_eq_getElem?_getD, List.getElem?_append_right (Nat.le_refl _), Nat.sub_self, List.cons_append]
  simp only [List.getElem?_cons_zero, Option.getD_some]
  have := mark8_nat (b.length : Int)
  omega
theorem blkAt_blk (pre rest b : List UInt8) (hb : b.length ≤ 120) : blkAt (pre ++ (blkW b ++ rest)) pre.length = b := by
  unfold blkAt
  rw [numAt_blk pre rest b hb, drop_past]
  unfold blkW
  rw [List.cons_append, List.drop_succ_cons, List.drop_zero]
  exact List.take_left' rfl
/-- Blocks are read back from their bytes. -/
theorem split_pack : ∀ (l : List (List UInt8)) (pre : List UInt8) (out : List (List UInt8)), (∀ b ∈ l, b.length ≤ 120) → out.length + l.length ≤ 8 → splitR (pre ++ blksN l) pre.length out = some (out ++ l)
  | [], pre, out, _, _ => by rw [splitR_end (by simp [blksN]), List.append_nil]
  | b :: l, pre, out, hf, hl => by
    have hb := hf b List.mem_cons_self
    have hlen : (pre ++ blksN (b :: l)).length = pre.length + (b.length + 1) + (blksN l).length := by rw [blksN_cons, List.length_append, List.length_append, blkW_len]; omega
    have e1 : numAt (pre ++ blksN (b :: l)) pre.length = b.length := by rw [blksN_cons]; exact numAt_blk pre _ b hb
    have e2 : blkAt (pre ++ blksN (b :: l)) pre.length = b := by rw [blksN_cons]; exact blkAt_blk pre _ b hb
    simp only [List.length_cons] at hl
    rw [splitR_next (by rw [hlen]; omega) (by rw [hlen, e1]; omega), e1, e2]
    have h := split_pack l (pre ++ blkW b) (out ++ [b]) (fun c hc => hf c (List.mem_cons_of_mem _ hc)) (by rw [List.length_append, List.length_singleton]; omega)
    rw [List.append_assoc, ← blksN_cons, List.length_append, blkW_len, show pre.length + (b.length + 1) = pre.length + 1 + b.length by omega, List.append_assoc] at h
    exact h
theorem blkW_at {data : List UInt8} {at_ : Nat} (h : at_ < data.length) (h3 : ¬ data.length < at_ + 1 + numAt data at_) : blkW (blkAt data at_) = (data.drop at_).take (1 + numAt data at_) := by
  have hb : (blkAt data at_).length = numAt data at_ := by unfold blkAt; rw [List.length_take, List.length_drop]; omega
  unfold blkW
  rw [hb]
  have e2 : mark8 ((numAt data at_ : Nat) : Int) = data[at_] := by
    unfold mark8 numAt
    have e : data.getD at_ 0 = data[at_] := by simp [h]
    rw [e]
    have := data[at_].toNat_lt
    rw [show (((data[at_].toNat : Nat) : Int) % 256).toNat = data[at_].toNat by omega, UInt8.ofNat_toNat]
  rw [e2]
  unfold blkAt
  have e3 : data.drop at_ = data[at_] :: data.drop (at_ + 1) := List.drop_eq_getElem_cons h
  rw [e3, Nat.add_comm 1, List.take_succ_cons]
/-- Bytes that are read as blocks are theirs. -/
theorem pack_split (data : List UInt8) : ∀ (m at_ : Nat) (out r : List (List UInt8)), data.length - at_ ≤ m → at_ ≤ data.length → blksN out = data.take at_ → out.length ≤ 8 → (∀ b ∈ out, b.length ≤ 120) → splitR data at_ out = some r → blksN r = data ∧ r.length ≤ 8 ∧ ∀ b ∈ r, b.length ≤ 120
  | 0, at_, out, r, hm, hle, ho, hl, hf, hr => by
    rw [splitR_end (by omega)] at hr
    cases hr
    exact ⟨by rw [ho]; exact List.take_of_length_le (by omega), hl, hf⟩
  | m + 1, at_, out, r, hm, hle, ho, hl, hf, hr => by
    by_cases h : at_ < data.length
    · by_cases h2 : 120 < numAt data at_ ∨ 8 ≤ out.length ∨ data.length < at_ + 1 + numAt data at_
      · rw [splitR_none h h2] at hr; cases hr
      · rw [splitR_next h h2] at hr
        refine pack_split data m _ _ r (by omega) (by omega) ?_ (by rw [List.length_append, List.length_singleton]; omega) (fun b hb => ?_) hr
        · rw [blksN_append, blksN_one, blkW_at h (by omega), ho, Nat.add_assoc]
          exact (List.take_add (i := at_) (j := 1 + numAt data at_) (l := data)).symm
        · rcases List.mem_append.1 hb with h4 | h4
          · exact hf b h4
          · rw [List.mem_singleton.1 h4]
            unfold blkAt
            rw [List.length_take]
            omega
    · rw [splitR_end h] at hr
      cases hr
      exact ⟨by rw [ho]; exact List.take_of_length_le (by omega), hl, hf⟩
end Go.Proofs.YthiabbgkfmopiaaGreat

