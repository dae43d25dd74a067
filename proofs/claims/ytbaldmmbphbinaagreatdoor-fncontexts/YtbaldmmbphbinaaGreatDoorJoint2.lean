/- Chapter 6 as plain functions on messages and bytes, with no program in it: a message's fault and bytes (faultM, packN, packAll), messages read from bytes (unpackR), blocks' bytes (blksN), blocks read from bytes (splitR); that each is read back from the other. No conditions but those in each line. -/
import Derived.Test.YtbaldmmbphbinaaGreatDoorJoint1
namespace Go.Proofs.YtbaldmmbphbinaaGreatDoor
open Go.RowKit

def faultW (k : Int) (n : Nat) : Int := if inB k 0 255 then (if n ≤ 160 then 0 else 2) else 3
def packW (k : Int) (b : List UInt8) : List UInt8 := mark8 k :: (putB b.length 3 ++ b)
theorem packW_len (k : Int) (b : List UInt8) : (packW k b).length = b.length + 4 := by simp [packW, putB_len]; omega
def packAll (l : List (Int × List UInt8)) : List UInt8 := l.flatMap fun a => packW a.1 a.2
theorem packAll_append (l r : List (Int × List UInt8)) : packAll (l ++ r) = packAll l ++ packAll r := by simp [packAll]
theorem packAll_one (a : Int × List UInt8) : packAll [a] = packW a.1 a.2 := by simp [packAll]
theorem packAll_cons (a : Int × List UInt8) (l : List (Int × List UInt8)) : packAll (a :: l) = packW a.1 a.2 ++ packAll l := by simp [packAll]
theorem packAll_take {l : List (Int × List UInt8)} {k : Nat} {a : Int × List UInt8} (h : l[k]? = some a) : packAll (l.take (k + 1)) = packAll (l.take k) ++ packW a.1 a.2 := by
  rw [List.take_add_one, h, packAll_append]; simp [packAll]
theorem packAll_le (l : List (Int × List UInt8)) (k : Nat) : (packAll (l.take k)).length ≤ (packAll l).length := by
  conv => rhs; rw [← List.take_append_drop k l, packAll_append, List.length_append]
  omega
def firstF : List (Int × List UInt8) → Int
  | [] => 0
  | a :: l => if faultW a.1 a.2.length = 0 then firstF l else faultW a.1 a.2.length
theorem firstF_at {l : List (Int × List UInt8)} {k : Nat} {a : Int × List UInt8} (h : l[k]? = some a) (hz : ∀ (j : Nat) (b : Int × List UInt8), j < k → l[j]? = some b → faultW b.1 b.2.length = 0) (hn : ¬ faultW a.1 a.2.length = 0) : firstF l = faultW a.1 a.2.length := by
  induction l generalizing k with
  | nil => simp at h
  | cons b l ih =>
    cases k with
    | zero => simp at h; subst h; rw [firstF, if_neg hn]
    | succ k =>
      rw [firstF, if_pos (hz 0 b (by omega) rfl)]
      exact ih (by simpa using h) fun j c hj hc => hz (j + 1) c (by omega) (by simpa using hc)
theorem firstF_zero {l : List (Int × List UInt8)} : (∀ (j : Nat) (b : Int × List UInt8), l[j]? = some b → faultW b.1 b.2.length = 0) → firstF l = 0 := by
  induction l with
  | nil => intro _; rfl
  | cons b l ih => intro h; rw [firstF, if_pos (h 0 b rfl)]; exact ih fun j c hc => h (j + 1) c (by simpa using hc)
theorem firstF_all {l : List (Int × List UInt8)} (h : firstF l = 0) : ∀ a ∈ l, faultW a.1 a.2.length = 0 := by
  induction l with
  | nil => intro a ha; cases ha
  | cons b l ih =>
    unfold firstF at h
    split at h
    · rename_i h1
      intro a ha
      rcases List.mem_cons.1 ha with rfl | h2
      · exact h1
      · exact ih h a h2
    · rename_i h1; exact absurd h h1
def psC (l : List (Int × List UInt8)) : Int := if l.length ≤ 12 then (if firstF l = 0 then (if (packAll l).length ≤ 600 then 0 else 2) else firstF l) else 2
def psL (l : List (Int × List UInt8)) : List UInt8 := if psC l = 0 then packAll l else []
theorem faultW_cases (k : Int) (n : Nat) : faultW k n = 0 ∨ faultW k n = 2 ∨ faultW k n = 3 := by
  unfold faultW; split
  · split
    · exact .inl rfl
    · exact .inr (.inl rfl)
  · exact .inr (.inr rfl)
theorem faultW_zero {k : Int} {n : Nat} (h : faultW k n = 0) : inB k 0 255 = true ∧ n ≤ 160 := by
  unfold faultW at h
  split at h
  · rename_i h1
    split at h
    · rename_i h2; exact ⟨h1, h2⟩
    · cases h
  · cases h
theorem psC_zero {l : List (Int × List UInt8)} (h : psC l = 0) : l.length ≤ 12 ∧ firstF l = 0 ∧ (packAll l).length ≤ 600 := by
  unfold psC at h
  split at h
  · rename_i h1
    split at h
    · rename_i h2
      split at h
      · rename_i h3; exact ⟨h1, h2, h3⟩
      · cases h
    · rename_i h2; exact absurd h h2
  · cases h
theorem psL_len (l : List (Int × List UInt8)) : (psL l).length ≤ 1048576 := by
  unfold psL; split
  · rename_i h; have := (psC_zero h).2.2; omega
  · simp

/-- How many bytes a message's body has, as its four bytes at a place tell. -/
def lenAt (data : List UInt8) (at_ : Nat) : Nat := getB ((data.drop (at_ + 1)).take 3)
def bodyAt (data : List UInt8) (at_ : Nat) : List UInt8 := (data.drop (at_ + 4)).take (lenAt data at_)
def msgAt (data : List UInt8) (at_ : Nat) : Int × List UInt8 := (at8 data at_, bodyAt data at_)
/-- Messages read from a place on, behind those that are read already: code, place, messages. -/
def unpackR (data : List UInt8) (at_ : Nat) (out : List (Int × List UInt8)) : Int × Int × List (Int × List UInt8) :=
  if at_ < data.length then
    if data.length - at_ < 4 then (5, at_, [])
    else if 160 < lenAt data at_ ∨ 12 ≤ out.length then (2, at_, [])
    else if data.length - at_ - 4 < lenAt data at_ then (5, at_, [])
    else unpackR data (at_ + 4 + lenAt data at_) (out ++ [msgAt data at_])
  else (0, 0, out)
termination_by data.length - at_
def umC (data : List UInt8) : Int × Int × List (Int × List UInt8) := if data.length ≤ 600 then unpackR data 0 [] else (2, 0, [])

theorem unpackR_end {data : List UInt8} {at_ : Nat} {out : List (Int × List UInt8)} (h : ¬ at_ < data.length) : unpackR data at_ out = (0, 0, out) := by rw [unpackR, if_neg h]
theorem unpackR_short {data : List UInt8} {at_ : Nat} {out : List (Int × List UInt8)} (h : at_ < data.length) (h1 : data.length - at_ < 4) : unpackR data at_ out = (5, (at_ : Int), []) := by rw [unpackR, if_pos h, if_pos h1]
theorem unpackR_many {data : List UInt8} {at_ : Nat} {out : List (Int × List UInt8)} (h : at_ < data.length) (h1 : ¬ data.length - at_ < 4) (h2 : 160 < lenAt data at_ ∨ 12 ≤ out.length) : unpackR data at_ out = (2, (at_ : Int), []) := by rw [unpackR, if_pos h, if_neg h1, if_pos h2]
theorem unpackR_less {data : List UInt8} {at_ : Nat} {out : List (Int × List UInt8)} (h : at_ < data.length) (h1 : ¬ data.length - at_ < 4) (h2 : ¬ (160 < lenAt data at_ ∨ 12 ≤ out.length)) (h3 : data.length - at_ - 4 < lenAt data at_) : unpackR data at_ out = (5, (at_ : Int), []) := by rw [unpackR, if_pos h, if_neg h1, if_neg h2, if_pos h3]
theorem unpackR_next {data : List UInt8} {at_ : Nat} {out : List (Int × List UInt8)} (h : at_ < data.length) (h1 : ¬ data.length - at_ < 4) (h2 : ¬ (160 < lenAt data at_ ∨ 12 ≤ out.length)) (h3 : ¬ data.length - at_ - 4 < lenAt data at_) : unpackR data at_ out = unpackR data (at_ + 4 + lenAt data at_) (out ++ [msgAt data at_]) := by
  conv => lhs; rw [unpackR, if_pos h, if_neg h1, if_neg h2, if_neg h3]

theorem getB_put3 (v : Nat) (h : v < 16777216) : getB (putB v 3) = v := by
  have e4 : putB v 3 = [UInt8.ofNat (v / 65536 % 256), UInt8.ofNat (v / 256 % 256), UInt8.ofNat (v / 1 % 256)] := rfl
  rw [e4]
  simp only [getB, List.foldl_cons, List.foldl_nil, UInt8.toNat_ofNat']
  omega
/-- What stands behind a beginning. -/
theorem drop_past {α : Type} (xs ys : List α) (n : Nat) : (xs ++ ys).drop (xs.length + n) = ys.drop n := by
  rw [← List.drop_drop, List.drop_left]
theorem lenAt_pack (pre rest : List UInt8) (k : Int) (b : List UInt8) (hb : b.length ≤ 160) : lenAt (pre ++ (packW k b ++ rest)) pre.length = b.length := by
  unfold lenAt packW
  rw [drop_past, List.cons_append, List.drop_succ_cons, List.drop_zero, List.append_assoc, List.take_append_of_le_length (by rw [putB_len]; exact Nat.le_refl _), List.take_of_length_le (by rw [putB_len]; exact Nat.le_refl _), getB_put3 _ (by omega)]
theorem bodyAt_pack (pre rest : List UInt8) (k : Int) (b : List UInt8) (hb : b.length ≤ 160) : bodyAt (pre ++ (packW k b ++ rest)) pre.length = b := by
  unfold bodyAt
  rw [lenAt_pack pre rest k b hb, drop_past]
  unfold packW
  have e := drop_past (putB b.length 3) (b ++ rest) 0
  rw [putB_len, List.drop_zero] at e
  rw [List.cons_append, List.drop_succ_cons, List.append_assoc, e]
  exact List.take_left' rfl
theorem at8_pack (pre rest : List UInt8) (k : Int) (b : List UInt8) (hk : inB k 0 255 = true) : at8 (pre ++ (packW k b ++ rest)) pre.length = k := by
  unfold at8 packW
  rw [List.getD_eq_getElem?_getD, List.getElem?_append_right (Nat.le_refl _), Nat.sub_self, List.cons_append]
  simp only [List.getElem?_cons_zero, Option.getD_some]
  rw [mark8_nat]
  simp [inB] at hk
  omega
/-- Messages are read back from their bytes. -/
theorem unpack_pack : ∀ (l : List (Int × List UInt8)) (pre : List UInt8) (out : List (Int × List UInt8)), (∀ a ∈ l, faultW a.1 a.2.length = 0) → out.length + l.length ≤ 12 → unpackR (pre ++ packAll l) pre.length out = (0, 0, out ++ l)
  | [], pre, out, _, _ => by rw [unpackR_end (by simp [packAll]), List.append_nil]
  | a :: l, pre, out, hf, hl => by
    obtain ⟨hk, hb⟩ := faultW_zero (hf a List.mem_cons_self)
    have hlen : (pre ++ packAll (a :: l)).length = pre.length + (a.2.length + 4) + (packAll l).length := by rw [packAll_cons, List.length_append, List.length_append, packW_len]; omega
    have e1 : lenAt (pre ++ packAll (a :: l)) pre.length = a.2.length := by rw [packAll_cons]; exact lenAt_pack pre _ a.1 a.2 hb
    have e2 : msgAt (pre ++ packAll (a :: l)) pre.length = a := by
      unfold msgAt
      rw [packAll_cons, at8_pack pre _ a.1 a.2 hk, bodyAt_pack pre _ a.1 a.2 hb]
    simp only [List.length_cons] at hl
    rw [unpackR_next (by rw [hlen]; omega) (by rw [hlen]; omega) (by rw [e1]; omega) (by rw [hlen, e1]; omega), e1, e2]
    have h := unpack_pack l (pre ++ packW a.1 a.2) (out ++ [a]) (fun b hb => hf b (List.mem_cons_of_mem _ hb)) (by rw [List.length_append, List.length_singleton]; omega)
    rw [List.append_assoc, ← packAll_cons, List.length_append, packW_len, show pre.length + (a.2.length + 4) = pre.length + 4 + a.2.length by omega, List.append_assoc] at h
    exact h
theorem putB_getB3 (bs : List UInt8) (h : bs.length = 3) : putB (getB bs) 3 = bs := by
  match bs, h with
  | [a, b, c], _ =>
    have ha := a.toNat_lt
    have hb := b.toNat_lt
    have hc := c.toNat_lt
    have e4 : putB (getB [a, b, c]) 3 = [UInt8.ofNat (getB [a, b, c] / 65536 % 256), UInt8.ofNat (getB [a, b, c] / 256 % 256), UInt8.ofNat (getB [a, b, c] / 1 % 256)] := rfl
    have e5 : getB [a, b, c] = (a.toNat * 256 + b.toNat) * 256 + c.toNat := by simp [getB]
    rw [e4, e5]
    have u : ∀ (x : UInt8) (n : Nat), n = x.toNat → UInt8.ofNat n = x := fun x n hn => by rw [hn]; exact UInt8.ofNat_toNat
    rw [u a _ (by omega), u b _ (by omega), u c _ (by omega)]
theorem packW_at {data : List UInt8} {at_ : Nat} (h1 : ¬ data.length - at_ < 4) (h3 : ¬ data.length - at_ - 4 < lenAt data at_) (h : at_ < data.length) : packW (msgAt data at_).1 (msgAt data at_).2 = (data.drop at_).take (4 + lenAt data at_) := by
  have hb : (bodyAt data at_).length = lenAt data at_ := by unfold bodyAt; rw [List.length_take, List.length_drop]; omega
  have h3' : ((data.drop (at_ + 1)).take 3).length = 3 := by rw [List.length_take, List.length_drop]; omega
  unfold packW msgAt
  simp only
  rw [hb]
  have e1 : putB (lenAt data at_) 3 = (data.drop (at_ + 1)).take 3 := by unfold lenAt; exact putB_getB3 _ h3'
  rw [e1]
  unfold bodyAt
  have e2 : mark8 (at8 data at_) = data[at_] := by
    unfold mark8
    rw [at8_get h]
    have := data[at_].toNat_lt
    rw [show (((data[at_].toNat : Nat) : Int) % 256).toNat = data[at_].toNat by omega, UInt8.ofNat_toNat]
  rw [e2]
  have e3 : data.drop at_ = data[at_] :: data.drop (at_ + 1) := List.drop_eq_getElem_cons h
  rw [e3, show 4 + lenAt data at_ = (3 + lenAt data at_) + 1 by omega, List.take_succ_cons, List.take_add, List.drop_drop]
theorem packAll_msg {data : List UInt8} {at_ : Nat} (h1 : ¬ data.length - at_ < 4) (h3 : ¬ data.length - at_ - 4 < lenAt data at_) (h : at_ < data.length) (out : List (Int × List UInt8)) (ho : packAll out = data.take at_) : packAll (out ++ [msgAt data at_]) = data.take (at_ + 4 + lenAt data at_) := by
  rw [packAll_append, packAll_one, packW_at h1 h3 h, ho, Nat.add_assoc]
  exact (List.take_add (i := at_) (j := 4 + lenAt data at_) (l := data)).symm
/-- Bytes that are read as messages are theirs, and these have no fault. -/
theorem pack_unpack (data : List UInt8) : ∀ (m at_ : Nat) (out : List (Int × List UInt8)) (r : Int × Int × List (Int × List UInt8)), data.length - at_ ≤ m → at_ ≤ data.length → packAll out = data.take at_ → out.length ≤ 12 → (∀ a ∈ out, faultW a.1 a.2.length = 0) → unpackR data at_ out = r → r.1 = 0 → packAll r.2.2 = data ∧ r.2.2.length ≤ 12 ∧ ∀ a ∈ r.2.2, faultW a.1 a.2.length = 0
  | 0, at_, out, r, hm, hle, ho, hl, hf, hr, hz => by
    rw [unpackR_end (by omega)] at hr
    subst hr
    exact ⟨by rw [ho]; exact List.take_of_length_le (by omega), hl, hf⟩
  | m + 1, at_, out, r, hm, hle, ho, hl, hf, hr, hz => by
    by_cases h : at_ < data.length
    · by_cases h1 : data.length - at_ < 4
      · rw [unpackR_short h h1] at hr; subst hr; cases hz
      · by_cases h2 : 160 < lenAt data at_ ∨ 12 ≤ out.length
        · rw [unpackR_many h h1 h2] at hr; subst hr; cases hz
        · by_cases h3 : data.length - at_ - 4 < lenAt data at_
          · rw [unpackR_less h h1 h2 h3] at hr; subst hr; cases hz
          · rw [unpackR_next h h1 h2 h3] at hr
            refine pack_unpack data m _ _ r (by omega) (by omega) (packAll_msg h1 h3 h out ho) (by rw [List.length_append, List.length_singleton]; omega) (fun a ha => ?_) hr hz
            rcases List.mem_append.1 ha with h4 | h4
            · exact hf a h4
            · rw [List.mem_singleton.1 h4]
              have hb : (bodyAt data at_).length = lenAt data at_ := by unfold bodyAt; rw [List.length_take, List.length_drop]; omega
              have hk : inB (at8 data at_) 0 255 = true := inB_true (at8_lo _ _) (at8_hi _ _)
              show faultW (at8 data at_) (bodyAt data at_).length = 0
              rw [hb, faultW, if_pos hk, if_pos (by omega)]
    · rw [unpackR_end h] at hr
      subst hr
      exact ⟨by rw [ho]; exact List.take_of_length_le (by omega), hl, hf⟩

/-- A block's bytes; blocks'. -/
def blkW (b : List UInt8) : List UInt8 := mark8 (b.length : Int) :: b
def blksN (l : List (List UInt8)) : List UInt8 := l.flatMap blkW
theorem blkW_len (b : List UInt8) : (blkW b).length = b.length + 1 := by simp [blkW]
theorem blksN_append (l r : List (List UInt8)) : blksN (l ++ r) = blksN l ++ blksN r := by simp [blksN]
theorem blksN_cons (b : List UInt8) (l : List (List UInt8)) : blksN (b :: l) = blkW b ++ blksN l := by simp [blksN]
theorem blksN_one (b : List UInt8) : blksN [b] = blkW b := by simp [blksN]
theorem blksN_take {l : List (List UInt8)} {k : Nat} {b : List UInt8} (h : l[k]? = some b) : blksN (l.take (k + 1)) = blksN (l.take k) ++ blkW b := by
  rw [List.take_add_one, h, blksN_append]; simp [blksN]
theorem blksN_le (l : List (List UInt8)) (k : Nat) : (blksN (l.take k)).length ≤ (blksN l).length := by
  conv => rhs; rw [← List.take_append_drop k l, blksN_append, List.length_append]
  omega
def okBl (l : List (List UInt8)) : Bool := l.all fun b => decide (b.length ≤ 120)
def pbC (l : List (List UInt8)) : Int := if l.length ≤ 8 ∧ okBl l = true ∧ (blksN l).length ≤ 160 then 0 else 2
def pbL (l : List (List UInt8)) : List UInt8 := if pbC l = 0 then blksN l else []
theorem pbC_zero {l : List (List UInt8)} (h : pbC l = 0) : l.length ≤ 8 ∧ okBl l = true ∧ (blksN l).length ≤ 160 := by
  unfold pbC at h
  split at h
  · assumption
  · cases h
theorem pbL_len (l : List (List UInt8)) : (pbL l).length ≤ 1048576 := by
  unfold pbL; split
  · rename_i h; have := (pbC_zero h).2.2; omega
  · simp
theorem okBl_at {l : List (List UInt8)} (h : okBl l = true) {b : List UInt8} (hb : b ∈ l) : b.length ≤ 120 := by
  have := (List.all_eq_true.1 h) b hb
  simpa using this
theorem okBl_of {l : List (List UInt8)} (h : ∀ (j : Nat) (b : List UInt8), l[j]? = some b → b.length ≤ 120) : okBl l = true := by
  rw [okBl, List.all_eq_true]
  intro b hb
  obtain ⟨i, hi, rfl⟩ := List.mem_iff_getElem.1 hb
  simpa using h i _ (by simp [hi])
theorem okBl_not {l : List (List UInt8)} {j : Nat} {b : List UInt8} (h : l[j]? = some b) (hb : ¬ b.length ≤ 120) : okBl l = false := by
  rw [okBl, List.all_eq_false]
  exact ⟨b, List.mem_of_getElem? h, by simpa using hb⟩
def numAt (data : List UInt8) (at_ : Nat) : Nat := (data.getD at_ 0).toNat
def blkAt (data : List UInt8) (at_ : Nat) : List UInt8 := (data.drop (at_ + 1)).take (numAt data at_)
def splitR (data : List UInt8) (at_ : Nat) (out : List (List UInt8)) : Option (List (List UInt8)) :=
  if at_ < data.length then
    if 120 < numAt data at_ ∨ 8 ≤ out.length ∨ data.length < at_ + 1 + numAt data at_ then none
    else splitR data (at_ + 1 + numAt data at_) (out ++ [blkAt data at_])
  else some out
termination_by data.length - at_
theorem splitR_end {data : List UInt8} {at_ : Nat} {out : List (List UInt8)} (h : ¬ at_ < data.length) : splitR data at_ out = some out := by rw [splitR, if_neg h]
theorem splitR_none {data : List UInt8} {at_ : Nat} {out : List (List UInt8)} (h : at_ < data.length) (h2 : 120 < numAt data at_ ∨ 8 ≤ out.length ∨ data.length < at_ + 1 + numAt data at_) : splitR data at_ out = none := by rw [splitR, if_pos h, if_pos h2]
theorem splitR_next {data : List UInt8} {at_ : Nat} {out : List (List UInt8)} (h : at_ < data.length) (h2 : ¬ (120 < numAt data at_ ∨ 8 ≤ out.length ∨ data.length < at_ + 1 + numAt data at_)) : splitR data at_ out = splitR data (at_ + 1 + numAt data at_) (out ++ [blkAt data at_]) := by
  conv => lhs; rw [splitR, if_pos h, if_neg h2]
def ubC (data : List UInt8) : Int := if data.length ≤ 160 then (if (splitR data 0 []).isSome then 0 else 5) else 2
def ubL (data : List UInt8) : List (List UInt8) := if data.length ≤ 160 then (splitR data 0 []).getD [] else []

theorem numAt_blk (pre rest b : List UInt8) (hb : b.length ≤ 120) : numAt (pre ++ (blkW b ++ rest)) pre.length = b.length := by
  unfold numAt blkW
  rw [List.getD_eq_getElem?_getD, List.getElem?_append_right (Nat.le_refl _), Nat.sub_self, List.cons_append]
  simp only [List.getElem?_cons_zero, Option.getD_some]
  have := mark8_nat (b.length : Int)
  omega
theorem blkAt_blk (pre rest b : List UInt8) (hb : b.length ≤ 120) : blkAt (pre ++ (blkW b ++ rest)) pre.length = b := by
  unfold blkAt
  rw [numAt_blk pre rest b hb, drop_past]
  unfold blkW
  rw [List.cons_append, List.drop_succ_cons, List.drop_zero]
  exact List.take_left' rfl
/-- Blocks are read back from their bytes. -/
theorem split_pack : ∀ (l : List (List UInt8)) (pre : List UInt8) (out : List (List UInt8)), (∀ b ∈ l, b.length ≤ 120) → out.length + l.length ≤ 8 → splitR (pre ++ blksN l) pre.length out = some (out ++ l)
  | [], pre, out, _, _ => by rw [splitR_end (by simp [blksN]), List.append_nil]
  | b :: l, pre, out, hf, hl => by
    have hb := hf b List.mem_cons_self
    have hlen : (pre ++ blksN (b :: l)).length = pre.length + (b.length + 1) + (blksN l).length := by rw [blksN_cons, List.length_append, List.length_append, blkW_len]; omega
    have e1 : numAt (pre ++ blksN (b :: l)) pre.length = b.length := by rw [blksN_cons]; exact numAt_blk pre _ b hb
    have e2 : blkAt (pre ++ blksN (b :: l)) pre.length = b := by rw [blksN_cons]; exact blkAt_blk pre _ b hb
    simp only [List.length_cons] at hl
    rw [splitR_next (by rw [hlen]; omega) (by rw [hlen, e1]; omega), e1, e2]
    have h := split_pack l (pre ++ blkW b) (out ++ [b]) (fun c hc => hf c (List.mem_cons_of_mem _ hc)) (by rw [List.length_append, List.length_singleton]; omega)
    rw [List.append_assoc, ← blksN_cons, List.length_append, blkW_len, show pre.length + (b.length + 1) = pre.length + 1 + b.length by omega, List.append_assoc] at h
    exact h
theorem blkW_at {data : List UInt8} {at_ : Nat} (h : at_ < data.length) (h3 : ¬ data.length < at_ + 1 + numAt data at_) : blkW (blkAt data at_) = (data.drop at_).take (1 + numAt data at_) := by
  have hb : (blkAt data at_).length = numAt data at_ := by unfold blkAt; rw [List.length_take, List.length_drop]; omega
  unfold blkW
  rw [hb]
  have e2 : mark8 ((numAt data at_ : Nat) : Int) = data[at_] := by
    unfold mark8 numAt
    have e : data.getD at_ 0 = data[at_] := by simp [h]
    rw [e]
    have := data[at_].toNat_lt
    rw [show (((data[at_].toNat : Nat) : Int) % 256).toNat = data[at_].toNat by omega, UInt8.ofNat_toNat]
  rw [e2]
  unfold blkAt
  have e3 : data.drop at_ = data[at_] :: data.drop (at_ + 1) := List.drop_eq_getElem_cons h
  rw [e3, Nat.add_comm 1, List.take_succ_cons]
/-- Bytes that are read as blocks are theirs. -/
theorem pack_split (data : List UInt8) : ∀ (m at_ : Nat) (out r : List (List UInt8)), data.length - at_ ≤ m → at_ ≤ data.length → blksN out = data.take at_ → out.length ≤ 8 → (∀ b ∈ out, b.length ≤ 120) → splitR data at_ out = some r → blksN r = data ∧ r.length ≤ 8 ∧ ∀ b ∈ r, b.length ≤ 120
  | 0, at_, out, r, hm, hle, ho, hl, hf, hr => by
    rw [splitR_end (by omega)] at hr
    cases hr
    exact ⟨by rw [ho]; exact List.take_of_length_le (by omega), hl, hf⟩
  | m + 1, at_, out, r, hm, hle, ho, hl, hf, hr => by
    by_cases h : at_ < data.length
    · by_cases h2 : 120 < numAt data at_ ∨ 8 ≤ out.length ∨ data.length < at_ + 1 + numAt data at_
      · rw [splitR_none h h2] at hr; cases hr
      · rw [splitR_next h h2] at hr
        refine pack_split data m _ _ r (by omega) (by omega) ?_ (by rw [List.length_append, List.length_singleton]; omega) (fun b hb => ?_) hr
        · rw [blksN_append, blksN_one, blkW_at h (by omega), ho, Nat.add_assoc]
          exact (List.take_add (i := at_) (j := 1 + numAt data at_) (l := data)).symm
        · rcases List.mem_append.1 hb with h4 | h4
          · exact hf b h4
          · rw [List.mem_singleton.1 h4]
            unfold blkAt
            rw [List.length_take]
            omega
    · rw [splitR_end h] at hr
      cases hr
      exact ⟨by rw [ho]; exact List.take_of_length_le (by omega), hl, hf⟩
end Go.Proofs.YtbaldmmbphbinaaGreatDoor

/- Chapter 2 as plain functions on numbers and bytes, with no program in it: a round (roundN), the words of a block (spreadN), what is padded (padN), the digest (digestN); their bounds and lengths. No conditions but those in each line. -/
namespace Go.Proofs.YtbaldmmbphbinaaGreatDoor
open Go.RowKit

/-- Eight words. -/
structure S8 where
  a : Nat
  b : Nat
  c : Nat
  d : Nat
  e : Nat
  f : Nat
  g : Nat
  h : Nat
def S8.list (s : S8) : List Nat := [s.a, s.b, s.c, s.d, s.e, s.f, s.g, s.h]
def S8.ok (s : S8) : Prop := s.a < 4294967296 ∧ s.b < 4294967296 ∧ s.c < 4294967296 ∧ s.d < 4294967296 ∧ s.e < 4294967296 ∧ s.f < 4294967296 ∧ s.g < 4294967296 ∧ s.h < 4294967296

def rot3 (x i j k : Nat) : Nat := rotN x i ^^^ rotN x j ^^^ rotN x k
def sh2 (x i j k : Nat) : Nat := rotN x i ^^^ rotN x j ^^^ (x / 2 ^ k)
def chN (e f g : Nat) : Nat := (e &&& f) ^^^ ((4294967295 - e) &&& g)
def majN (a b c : Nat) : Nat := (a &&& b) ^^^ (a &&& c) ^^^ (b &&& c)
def t1N (s : S8) (word key : Nat) : Nat := (s.h + rot3 s.e 6 11 25 + chN s.e s.f s.g + key + word) % 4294967296
def t2N (s : S8) : Nat := (rot3 s.a 2 13 22 + majN s.a s.b s.c) % 4294967296
def roundN (s : S8) (word key : Nat) : S8 :=
  ⟨(t1N s word key + t2N s) % 4294967296, s.a, s.b, s.c, (s.d + t1N s word key) % 4294967296, s.e, s.f, s.g⟩

theorem xor_lt32 {a b : Nat} (h : a < 4294967296) (k : b < 4294967296) : a ^^^ b < 4294967296 := Nat.xor_lt_two_pow (n := 32) h k
theorem and_lt32 {a b : Nat} (h : a < 4294967296) : a &&& b < 4294967296 := Nat.lt_of_le_of_lt Nat.and_le_left h
theorem rot3_lt {x i j k : Nat} (h : x < 4294967296) (hi : i ≤ 32) (hj : j ≤ 32) (hk : k ≤ 32) : rot3 x i j k < 4294967296 :=
  xor_lt32 (xor_lt32 (rotN_lt x i h hi) (rotN_lt x j h hj)) (rotN_lt x k h hk)
theorem sh2_lt {x i j k : Nat} (h : x < 4294967296) (hi : i ≤ 32) (hj : j ≤ 32) : sh2 x i j k < 4294967296 :=
  xor_lt32 (xor_lt32 (rotN_lt x i h hi) (rotN_lt x j h hj)) (Nat.lt_of_le_of_lt (Nat.div_le_self _ _) h)
theorem chN_lt {e f g : Nat} (h : e < 4294967296) : chN e f g < 4294967296 := xor_lt32 (and_lt32 h) (and_lt32 (by omega))
theorem majN_lt {a b c : Nat} (h : a < 4294967296) (k : b < 4294967296) : majN a b c < 4294967296 := xor_lt32 (xor_lt32 (and_lt32 h) (and_lt32 h)) (and_lt32 k)
theorem mod32_lt (x : Nat) : x % 4294967296 < 4294967296 := Nat.mod_lt _ (by decide)
theorem roundN_ok {s : S8} {word key : Nat} (h : s.ok) : (roundN s word key).ok :=
  ⟨mod32_lt _, h.1, h.2.1, h.2.2.1, mod32_lt _, h.2.2.2.2.1, h.2.2.2.2.2.1, h.2.2.2.2.2.2.1⟩

/-- The first sixteen words of a block are its bytes. -/
def word4 (bs : List UInt8) (i : Nat) : Nat := getB ((bs.drop (4 * i)).take 4)
theorem word4_lt (bs : List UInt8) (i : Nat) : word4 bs i < 4294967296 :=
  Nat.lt_of_lt_of_le (getB_lt _) (Nat.le_trans (Nat.pow_le_pow_right (by decide) (List.length_take_le 4 _)) (by decide))
def first16 (bs : List UInt8) : List Nat := (List.range 16).map (word4 bs)
def nextW (ws : List Nat) : Nat := (sh2 (ws.getD (ws.length - 2) 0) 17 19 10 + ws.getD (ws.length - 7) 0 + sh2 (ws.getD (ws.length - 15) 0) 7 18 3 + ws.getD (ws.length - 16) 0) % 4294967296
def moreW (ws : List Nat) : Nat → List Nat
  | 0 => ws
  | k + 1 => moreW ws k ++ [nextW (moreW ws k)]
def spreadN (bs : List UInt8) : List Nat := moreW (first16 bs) 48
theorem moreW_len (ws : List Nat) (k : Nat) : (moreW ws k).length = ws.length + k := by
  induction k with
  | zero => rfl
  | succ k ih => simp [moreW, ih]; omega
theorem first16_len (bs : List UInt8) : (first16 bs).length = 16 := by simp [first16]
theorem spreadN_len (bs : List UInt8) : (spreadN bs).length = 64 := by rw [spreadN, moreW_len, first16_len]
def Words (ws : List Nat) : Prop := ∀ x ∈ ws, x < 4294967296
theorem Words.getD {ws : List Nat} (h : Words ws) (i : Nat) : ws.getD i 0 < 4294967296 := by
  rw [List.getD_eq_getElem?_getD]
  cases e : ws[i]? with
  | none => simp
  | some x => simpa using h x (List.mem_of_getElem? e)
theorem Words.append {a b : List Nat} (h : Words a) (k : Words b) : Words (a ++ b) := fun x hx => (List.mem_append.1 hx).elim (h x) (k x)
theorem first16_ok (bs : List UInt8) : Words (first16 bs) := fun x hx => by
  obtain ⟨i, -, rfl⟩ := List.mem_map.1 hx; exact word4_lt bs i
theorem moreW_ok {ws : List Nat} (h : Words ws) (k : Nat) : Words (moreW ws k) := by
  induction k with
  | zero => exact h
  | succ k ih => exact ih.append (fun x hx => by rw [List.mem_singleton.1 hx]; exact mod32_lt _)
theorem spreadN_ok (bs : List UInt8) : Words (spreadN bs) := moreW_ok (first16_ok bs) 48

/-- What is padded. -/
def gap (n : Nat) : Nat := (119 - n % 64) % 64
def padN (bs : List UInt8) : List UInt8 := bs ++ 128 :: (zs (gap bs.length) ++ putB (8 * bs.length) 8)
theorem padN_len (bs : List UInt8) : (padN bs).length = bs.length + 9 + gap bs.length := by simp [padN, zs_len, putB_len]; omega
theorem padN_len64 (bs : List UInt8) : (padN bs).length = (bs.length + 72) / 64 * 64 := by rw [padN_len]; unfold gap; omega

def keysN : List Nat := [0x428a2f98, 0x71374491, 0xb5c0fbcf, 0xe9b5dba5, 0x3956c25b, 0x59f111f1, 0x923f82a4, 0xab1c5ed5, 0xd807aa98, 0x12835b01, 0x243185be, 0x550c7dc3, 0x72be5d74, 0x80deb1fe, 0x9bdc06a7, 0xc19bf174, 0xe49b69c1, 0xefbe4786, 0x0fc19dc6, 0x240ca1cc, 0x2de92c6f, 0x4a7484aa, 0x5cb0a9dc, 0x76f988da, 0x983e5152, 0xa831c66d, 0xb00327c8, 0xbf597fc7, 0xc6e00bf3, 0xd5a79147, 0x06ca6351, 0x14292967, 0x27b70a85, 0x2e1b2138, 0x4d2c6dfc, 0x53380d13, 0x650a7354, 0x766a0abb, 0x81c2c92e, 0x92722c85, 0xa2bfe8a1, 0xa81a664b, 0xc24b8b70, 0xc76c51a3, 0xd192e819, 0xd6990624, 0xf40e3585, 0x106aa070, 0x19a4c116, 0x1e376c08, 0x2748774c, 0x34b0bcb5, 0x391c0cb3, 0x4ed8aa4a, 0x5b9cca4f, 0x682e6ff3, 0x748f82ee, 0x78a5636f, 0x84c87814, 0x8cc70208, 0x90befffa, 0xa4506ceb, 0xbef9a3f7, 0xc67178f2]
def startN : S8 := ⟨0x6a09e667, 0xbb67ae85, 0x3c6ef372, 0xa54ff53a, 0x510e527f, 0x9b05688c, 0x1f83d9ab, 0x5be0cd19⟩
theorem startN_ok : startN.ok := by unfold S8.ok startN; decide
theorem keysN_ok : Words keysN := by unfold Words keysN; decide

/-- So many rounds over a block's words. -/
def roundsN (ws : List Nat) (s : S8) : Nat → S8
  | 0 => s
  | k + 1 => roundN (roundsN ws s k) (ws.getD k 0) (keysN.getD k 0)
theorem roundsN_ok (ws : List Nat) {s : S8} (h : s.ok) (k : Nat) : (roundsN ws s k).ok := by
  induction k with
  | zero => exact h
  | succ k ih => exact roundN_ok ih
def addS (s t : S8) : S8 := ⟨(s.a + t.a) % 4294967296, (s.b + t.b) % 4294967296, (s.c + t.c) % 4294967296, (s.d + t.d) % 4294967296, (s.e + t.e) % 4294967296, (s.f + t.f) % 4294967296, (s.g + t.g) % 4294967296, (s.h + t.h) % 4294967296⟩
theorem addS_ok (s t : S8) : (addS s t).ok := ⟨mod32_lt _, mod32_lt _, mod32_lt _, mod32_lt _, mod32_lt _, mod32_lt _, mod32_lt _, mod32_lt _⟩
def blockN (s : S8) (bs : List UInt8) : S8 := addS s (roundsN (spreadN bs) s 64)
def blocksN (bs : List UInt8) : Nat → S8
  | 0 => startN
  | k + 1 => blockN (blocksN bs k) ((bs.drop (64 * k)).take 64)
theorem blocksN_ok (bs : List UInt8) (k : Nat) : (blocksN bs k).ok := by
  cases k with
  | zero => exact startN_ok
  | succ k => exact addS_ok _ _
def stateB (s : S8) : List UInt8 := putB s.a 4 ++ putB s.b 4 ++ putB s.c 4 ++ putB s.d 4 ++ putB s.e 4 ++ putB s.f 4 ++ putB s.g 4 ++ putB s.h 4
theorem stateB_len (s : S8) : (stateB s).length = 32 := by simp [stateB, putB_len]
def digestN (bs : List UInt8) : List UInt8 := stateB (blocksN (padN bs) ((bs.length + 72) / 64))
theorem digestN_len (bs : List UInt8) : (digestN bs).length = 32 := stateB_len _

/-- Numbers in memory: words in int64, words in uint32. -/
def i64v (n : Nat) : Value := .int .i64 (n : Int)
def u32v (n : Nat) : Value := .int .u32 (n : Int)
def S8.i64 (s : S8) : Array Value := #[.int .i64 (s.a : Int), .int .i64 (s.b : Int), .int .i64 (s.c : Int), .int .i64 (s.d : Int), .int .i64 (s.e : Int), .int .i64 (s.f : Int), .int .i64 (s.g : Int), .int .i64 (s.h : Int)]
def S8.u32 (s : S8) : Array Value := #[.int .u32 (s.a : Int), .int .u32 (s.b : Int), .int .u32 (s.c : Int), .int .u32 (s.d : Int), .int .u32 (s.e : Int), .int .u32 (s.f : Int), .int .u32 (s.g : Int), .int .u32 (s.h : Int)]

end Go.Proofs.YtbaldmmbphbinaaGreatDoor

/- Chapter 3 as plain functions on bytes, with no program in it: a key's block (blockK), the mac (macN), what is extracted (extractN), what is expanded (expandN), a label's bytes (labelB); their lengths. No conditions but those in each line. -/
namespace Go.Proofs.YtbaldmmbphbinaaGreatDoor
open Go.RowKit

def blockK (key : List UInt8) (x : UInt8) : List UInt8 := (key ++ zs (64 - key.length)).map (· ^^^ x)
theorem blockK_len {key : List UInt8} (x : UInt8) (h : key.length ≤ 64) : (blockK key x).length = 64 := by simp [blockK, zs_len]; omega
def macN (key data : List UInt8) : List UInt8 := digestN (blockK key 92 ++ digestN (blockK key 54 ++ data))
theorem macN_len (key data : List UInt8) : (macN key data).length = 32 := digestN_len _
/-- A key with zeros behind it is the same key. -/
theorem blockK_zeros (key : List UInt8) (n : Nat) (x : UInt8) (h : key.length + n ≤ 64) : blockK (key ++ zs n) x = blockK key x := by
  unfold blockK
  rw [List.length_append, zs_len, List.append_assoc]
  congr 2
  rw [show zs n ++ zs (64 - (key.length + n)) = zs (64 - key.length) by unfold zs; rw [List.replicate_append_replicate]; congr 1; omega]
theorem macN_zeros (key data : List UInt8) (n : Nat) (h : key.length + n ≤ 64) : macN (key ++ zs n) data = macN key data := by
  unfold macN
  rw [blockK_zeros key n _ h, blockK_zeros key n _ h]
def saltN (salt : List UInt8) : List UInt8 := if salt.length = 0 then zs 32 else salt
theorem saltN_len (salt : List UInt8) (h : salt.length ≤ 64) : (saltN salt).length ≤ 64 := by
  unfold saltN; split
  · rw [zs_len]; decide
  · exact h
def extractN (salt data : List UInt8) : List UInt8 := macN (saltN salt) data
theorem extractN_len (salt data : List UInt8) : (extractN salt data).length = 32 := macN_len _ _
theorem extractN_eq (salt data : List UInt8) : extractN salt data = macN salt data := by
  unfold extractN saltN
  split
  · rename_i h
    have e : salt = [] := List.eq_nil_of_length_eq_zero h
    subst e
    exact macN_zeros [] data 32 (by decide)
  · rfl

/-- t i, and all up to it. -/
def lastN (key info : List UInt8) : Nat → List UInt8
  | 0 => []
  | i + 1 => macN key (lastN key info i ++ info ++ [UInt8.ofNat (i + 1)])
def outN (key info : List UInt8) : Nat → List UInt8
  | 0 => []
  | i + 1 => outN key info i ++ lastN key info (i + 1)
theorem lastN_len (key info : List UInt8) (i : Nat) : (lastN key info i).length ≤ 32 := by
  cases i with
  | zero => simp [lastN]
  | succ i => exact Nat.le_of_eq (macN_len _ _)
theorem lastN_succ (key info : List UInt8) (i : Nat) : lastN key info (i + 1) = macN key (lastN key info i ++ info ++ [UInt8.ofNat (i + 1)]) := rfl
theorem outN_len (key info : List UInt8) (i : Nat) : (outN key info i).length = 32 * i := by
  induction i with
  | zero => rfl
  | succ i ih => rw [outN, List.length_append, ih, lastN_succ, macN_len]; omega
def expandN (key info : List UInt8) (n : Nat) : List UInt8 := (outN key info ((n + 31) / 32)).take n
theorem expandN_len (key info : List UInt8) (n : Nat) : (expandN key info n).length = n := by
  rw [expandN, List.length_take, outN_len]; omega
theorem outN_take (key info : List UInt8) (i j : Nat) (h : i ≤ j) : (outN key info j).take (32 * i) = outN key info i := by
  induction j with
  | zero => have : i = 0 := by omega
            subst this; rfl
  | succ j ih =>
    by_cases e : i = j + 1
    · subst e; rw [List.take_of_length_le (by rw [outN_len]; exact Nat.le_refl _)]
    · rw [outN, List.take_append_of_le_length (by rw [outN_len]; omega)]; exact ih (by omega)
/-- A shorter key is the beginning of a longer one. -/
theorem expandN_take (key info : List UInt8) (m n : Nat) (h : m ≤ n) : (expandN key info n).take m = expandN key info m := by
  unfold expandN
  rw [List.take_take, Nat.min_eq_left h, ← outN_take key info ((m + 31) / 32) ((n + 31) / 32) (by omega), List.take_take, Nat.min_eq_left (by omega)]

/-- A label: 1 to 40 bytes of 32 to 126. -/
def labelOk (l : List UInt8) : Bool := l.all (fun b => decide (32 ≤ b.toNat) && decide (b.toNat ≤ 126)) && decide (1 ≤ l.length) && decide (l.length ≤ 40)
def tls13 : List UInt8 := [116, 108, 115, 49, 51, 32]
def labelB (l ctx : List UInt8) (n : Nat) : List UInt8 := putB n 2 ++ UInt8.ofNat (6 + l.length) :: (tls13 ++ l ++ UInt8.ofNat ctx.length :: ctx)
theorem labelB_len (l ctx : List UInt8) (n : Nat) : (labelB l ctx n).length = l.length + ctx.length + 10 := by simp [labelB, putB_len, tls13]; omega
end Go.Proofs.YtbaldmmbphbinaaGreatDoor

/- Whole numbers (int64) in memory, with no program in it: 'RdI': a slice of int64 that can be read; 'OwnI': one that lies in a row of its own, from block B on. What keeps them. No conditions but those in each line. -/
namespace Go.Proofs.YtbaldmmbphbinaaGreatDoor
open Go.RowKit

def i64z (z : Int) : Value := .int .i64 z
def atI (l : List Int) (i : Nat) : Int := l.getD i 0
theorem atI_get {l : List Int} {i : Nat} (h : i < l.length) : atI l i = l[i] := by simp [atI, h]
theorem i64z_at {l : List Int} {i : Nat} (h : i < l.length) : (l.map i64z)[i]? = some (.int .i64 (atI l i)) := by simp [i64z, atI, h]

def RdI (w : World) (a : Option Addr) (cap : Nat) (l : List Int) : Prop :=
  l.length ≤ cap ∧ cap ≤ maxLen ∧ (a = none → cap = 0) ∧ (0 < l.length → ∃ b o, a = some ⟨b, o, none⟩ ∧ ∀ i, i < l.length → w.cell? ⟨b, o + i, none⟩ = some (.int .i64 (atI l i)))

def OwnI (w : World) (B : Nat) (v : Value) (l : List Int) : Prop := w.ownsRow B 2 1 v l.length (l.map i64z)

theorem OwnI.rd {w : World} {B : Nat} {v : Value} {l : List Int} (h : OwnI w B v l) : ∃ a cap, v = .slice a l.length cap ∧ RdI w a cap l := by
  have h0 := h
  rcases h.2 with ⟨rfl, hn⟩ | ⟨g, cap, cur, rfl, hb, hg, hle, hm, hs, ht⟩
  · exact ⟨none, 0, by rw [hn], by omega, by simp [maxLen], fun _ => rfl, fun hp => by omega⟩
  · refine ⟨_, cap, rfl, hle, hm, fun hh => by simp at hh, fun _ => ⟨g, 0, rfl, fun i hi => ?_⟩⟩
    have := World.ownsRow.cellAt h0 i (by omega)
    rw [Nat.zero_add, this, i64z_at hi]

theorem RdI.keep {w w' : World} {a : Option Addr} {cap : Nat} {l : List Int} (h : RdI w a cap l) (hb : Below w.heap.size w w') : RdI w' a cap l := by
  obtain ⟨h1, h2, h3, h4⟩ := h
  refine ⟨h1, h2, h3, fun hp => ?_⟩
  obtain ⟨b, o, rfl, hc⟩ := h4 hp
  refine ⟨b, o, rfl, fun i hi => ?_⟩
  have hi' := hc i hi
  rw [hb.cell (p := ⟨b, o + i, none⟩) (World.block_lt_of_cell? w _ hi'), hi']

theorem OwnI.keep {w w' : World} {B N : Nat} {v : Value} {l : List Int} (h : OwnI w B v l) (hb : Below N w w') (hn : ∀ k, v.ownBlock = some k → k < N) : OwnI w' B v l := by
  obtain ⟨h1, h2⟩ := h
  refine ⟨h1, ?_⟩
  rcases h2 with h2 | ⟨g, cap, cur, rfl, hg, hh, r⟩
  · exact .inl h2
  · exact .inr ⟨g, cap, cur, rfl, hg, (hb.block g (hn g rfl)).trans hh, r⟩

theorem OwnI.stay {w w' : World} {B : Nat} {v : Value} {l : List Int} (h : OwnI w B v l) (hb : Below w.heap.size w w') : OwnI w' B v l :=
  h.keep hb (fun k hk => (World.ownsRow.lt h k hk).2)

theorem OwnI.set {w : World} {B : Nat} {v : Value} {l : List Int} (h : OwnI w B v l) {a : Addr} (ha : a.block < B) (u : Value) : OwnI (w.setCell a u) B v l :=
  ownsRow_setCell_below h ha u

theorem OwnI.lower {w : World} {B B' : Nat} {v : Value} {l : List Int} (h : OwnI w B v l) (hb : B' ≤ B) : OwnI w B' v l := by
  obtain ⟨h1, h2⟩ := h
  refine ⟨h1, ?_⟩
  rcases h2 with h2 | ⟨g, cap, cur, rfl, hg, r⟩
  · exact .inl h2
  · exact .inr ⟨g, cap, cur, rfl, by omega, r⟩

theorem OwnI.lt {w : World} {B : Nat} {v : Value} {l : List Int} (h : OwnI w B v l) : ∀ k, v.ownBlock = some k → k < w.heap.size := fun k hk => (World.ownsRow.lt h k hk).2
theorem OwnI.ge {w : World} {B : Nat} {v : Value} {l : List Int} (h : OwnI w B v l) : ∀ k, v.ownBlock = some k → B ≤ k := fun k hk => (World.ownsRow.lt h k hk).1
theorem RdI.own {w : World} {B : Nat} {a : Option Addr} {n cap : Nat} {l : List Int} (h : OwnI w B (.slice a n cap) l) : RdI w a cap l := by
  obtain ⟨a', cap', e, hr⟩ := h.rd
  simp only [Value.slice.injEq] at e
  obtain ⟨rfl, -, rfl⟩ := e
  exact hr
theorem OwnI.other {w w' : World} {B : Nat} {v : Value} {l : List Int} {row : Option Nat} (h : OwnI w B v l) (hg : w.grownBy w' row) (hne : ∀ k, v.ownBlock = some k → row ≠ some k) : OwnI w' B v l := by
  obtain ⟨h1, h2⟩ := h
  refine ⟨h1, ?_⟩
  rcases h2 with h2 | ⟨g, cap, cur, rfl, hb, hh, r⟩
  · exact .inl h2
  · exact .inr ⟨g, cap, cur, rfl, hb, (hg.block g (Array.getElem?_eq_some_iff.1 hh).1 (fun e => hne g rfl e.symm)).trans hh, r⟩
theorem OwnI_nil (w : World) (B : Nat) : OwnI w B (.slice none 0 0) [] := World.ownsRow_nil _ _ _ _

def partI (l : List Int) (n k : Nat) : List Value := (l.take k).map i64z ++ List.replicate (n - k) (.int .i64 0)
theorem partI_zero (l : List Int) (n : Nat) : partI l n 0 = List.replicate n (.int .i64 0) := by simp [partI]
theorem partI_all (l : List Int) : partI l l.length l.length = l.map i64z := by simp [partI]
theorem partI_set (l : List Int) (k : Nat) (h : k < l.length) : (partI l l.length k).set k (.int .i64 (atI l k)) = partI l l.length (k + 1) := by
  have e : i64z l[k] = .int .i64 (atI l k) := by rw [atI_get h]; rfl
  have hl : ((l.take k).map i64z).length = k := by simp; omega
  unfold partI
  rw [List.set_append_right _ _ (by omega), hl, Nat.sub_self, List.take_succ_eq_append_getElem h, List.map_append, List.append_assoc]
  congr 1
  rw [show l.length - k = (l.length - (k + 1)) + 1 by omega, List.replicate_succ, List.set_cons_zero, ← e]
  rfl
theorem partI_at (l : List Int) (k : Nat) (h : k < l.length) : (partI l l.length k)[k]? = some (.int .i64 0) := by
  have hl : ((l.take k).map i64z).length = k := by simp; omega
  unfold partI
  rw [List.getElem?_append_right (by omega), hl, Nat.sub_self, List.getElem?_replicate, if_pos (by omega)]
theorem replicate_madeI (n : Nat) : (madeCells (Value.cells (.int .i64 0)) (n * 1)).toList = List.replicate n (.int .i64 0) := by
  rw [Nat.mul_one]; exact toList_madeCells_one _ n

/-- The marks that the laws lay: k, k + 1, .. -/
def marksI (k : Nat) (n : Nat) : List Int := (List.range n).map (fun i : Nat => (k : Int) + (i : Int))
theorem marksI_len (k n : Nat) : (marksI k n).length = n := by simp [marksI]
theorem atI_marks {k n i : Nat} (h : i < n) : atI (marksI k n) i = (k : Int) + i := by
  rw [atI_get (by rw [marksI_len]; exact h)]
  simp [marksI]
def markedI (l : List Int) (k j : Nat) : List Int := (marksI k l.length).take j ++ l.drop j
theorem markedI_len (l : List Int) (k j : Nat) (h : j ≤ l.length) : (markedI l k j).length = l.length := by simp [markedI, marksI_len]; omega
theorem markedI_zero (l : List Int) (k : Nat) : markedI l k 0 = l := by simp [markedI]
theorem markedI_all (l : List Int) (k : Nat) : markedI l k l.length = marksI k l.length := by
  simp only [markedI, List.drop_length, List.append_nil]
  exact List.take_of_length_le (by rw [marksI_len]; exact Nat.le_refl _)
theorem markedI_set (l : List Int) (k j : Nat) (h : j < l.length) : ((markedI l k j).map i64z).set j (.int .i64 ((k : Int) + j)) = (markedI l k (j + 1)).map i64z := by
  have hm : j < (marksI k l.length).length := by rw [marksI_len]; exact h
  have e : i64z (marksI k l.length)[j] = .int .i64 ((k : Int) + j) := by rw [← atI_marks h, atI_get hm]; rfl
  have hl : (((marksI k l.length).take j).map i64z).length = j := by simp [marksI_len]; omega
  unfold markedI
  rw [List.map_append, List.set_append_right _ _ (by omega), hl, Nat.sub_self, List.take_succ_eq_append_getElem hm, List.append_assoc, List.map_append]
  congr 1
  rw [List.drop_eq_getElem_cons h, List.map_cons, List.set_cons_zero, ← e]
  simp

/-- What the row's step tells of a slice of int64 that came in. -/
theorem rdI_of {w : World} {a : Option Addr} {len cap : Nat} {l : List Int} (h : (a = none ∧ len = 0 ∧ cap = 0 ∧ l = []) ∨
    ∃ x, a = some x ∧ len ≤ cap ∧ cap ≤ maxLen ∧ l.length = cap ∧ (∀ i, i < l.length → w.cell? (x.add i) = some (.int .i64 (l.getD i 0))) ∧ ∀ n ∈ l, (Lit.int .i64 n).wf = true) :
    ∃ bs : List Int, len = bs.length ∧ RdI w a cap bs := by
  rcases h with ⟨rfl, rfl, rfl, rfl⟩ | ⟨x, rfl, hl, hm, hz, hc, hw⟩
  · exact ⟨[], rfl, by simp, by simp [maxLen], fun _ => rfl, fun hp => by simp at hp⟩
  · refine ⟨l.take len, by simp; omega, by simp; omega, hm, fun hh => by simp at hh, fun hp => ?_⟩
    have hp' : 0 < l.length := by simp at hp; omega
    obtain ⟨b, o, rfl, hc'⟩ := ints_at hc hp'
    refine ⟨b, o, rfl, fun i hi => ?_⟩
    have hi' : i < len ∧ i < l.length := by simp at hi; omega
    rw [hc' i hi'.2, atI_get hi]
    simp [hi'.2]

end Go.Proofs.YtbaldmmbphbinaaGreatDoor

