/- The contracts of the words of a block: spec.l2Spread and impl.spread answer spreadN of 64 bytes. What was there stays. -/
import Derived.Test.YthfjnmkplifcmaaMixR
import Derived.Test.YthfjnmkplifcmaaJoint4
import Derived.BigRegion
import Derived.Test.YthfjnmkplifcmaaTail
import Derived.Deep.RegionWith
namespace Go.Proofs.Ythfjnmkplifcmaa
open Go.ChangeShapes Go.WideShapes Go.ChangeAt Go.RowKit

/-- Words, then zeros, 64 in all. -/
def fill64 (f : Nat → Value) (z : Value) (ws : List Nat) : List Value := ws.map f ++ List.replicate (64 - ws.length) z
theorem fill64_at (f : Nat → Value) (z : Value) {ws : List Nat} {i : Nat} (h : i < ws.length) : (fill64 f z ws)[i]? = some (f (ws.getD i 0)) := by
  unfold fill64
  rw [List.getElem?_append_left (by simpa using h)]
  simp [h]
theorem fill64_zero (f : Nat → Value) (z : Value) {ws : List Nat} {i : Nat} (h : ws.length ≤ i) (h2 : i < 64) : (fill64 f z ws)[i]? = some z := by
  unfold fill64
  rw [List.getElem?_append_right (by simpa using h), List.getElem?_replicate, if_pos (by simp; omega)]
theorem fill64_set (f : Nat → Value) (z : Value) (ws : List Nat) (x : Nat) (h : ws.length < 64) : (fill64 f z ws).set ws.length (f x) = fill64 f z (ws ++ [x]) := by
  unfold fill64
  rw [List.set_append_right _ _ (by simp), List.length_map, Nat.sub_self, show 64 - ws.length = (64 - (ws ++ [x]).length) + 1 by simp; omega, List.replicate_succ, List.set_cons_zero, List.map_append, List.append_assoc]
  rfl
theorem fill64_all (f : Nat → Value) (z : Value) {ws : List Nat} (h : ws.length = 64) : fill64 f z ws = ws.map f := by simp [fill64, h]
theorem fill64_len (f : Nat → Value) (z : Value) {ws : List Nat} (h : ws.length ≤ 64) : (fill64 f z ws).length = 64 := by simp [fill64]; omega

/-- The first words of a block, one more each round. -/
def firstK (bs : List UInt8) (k : Nat) : List Nat := (List.range k).map (word4 bs)
theorem firstK_len (bs : List UInt8) (k : Nat) : (firstK bs k).length = k := by simp [firstK]
theorem firstK_succ (bs : List UInt8) (k : Nat) : firstK bs (k + 1) = firstK bs k ++ [word4 bs k] := by simp [firstK, List.range_succ]
theorem firstK_all (bs : List UInt8) : firstK bs 16 = first16 bs := rfl

/-- The words that the program has gathered behind k bytes. -/
def accN (bs : List UInt8) (k j : Nat) : Nat := getB (((bs.take k).drop (4 * j)).take 4)
def accW (bs : List UInt8) (k : Nat) : List Value := (List.range 64).map (fun j => u32v (accN bs k j))
theorem accW_len (bs : List UInt8) (k : Nat) : (accW bs k).length = 64 := by simp [accW]
theorem accW_at (bs : List UInt8) (k : Nat) {j : Nat} (h : j < 64) : (accW bs k)[j]? = some (.int .u32 (accN bs k j : Nat)) := by simp [accW, u32v, h]
theorem accN_other (bs : List UInt8) (k j : Nat) (hk : k < bs.length) (h : j ≠ k / 4) : accN bs (k + 1) j = accN bs k j := by
  unfold accN
  congr 1
  by_cases h1 : k < 4 * j
  · rw [List.drop_eq_nil_of_le (by simp; omega), List.drop_eq_nil_of_le (by simp; omega)]
  · have h2 : 4 * j + 4 ≤ k := by omega
    rw [List.take_succ_eq_append_getElem hk, List.drop_append_of_le_length (by simp; omega), List.take_append_of_le_length (by simp; omega)]
theorem accN_same (bs : List UInt8) (k : Nat) (hk : k < bs.length) : ((accN bs (k + 1) (k / 4) : Nat) : Int) = (accN bs k (k / 4) : Int) * 256 + at8 bs k := by
  unfold accN
  have e1 : ((bs.take k).drop (4 * (k / 4)) ++ [bs[k]]).take 4 = (bs.take k).drop (4 * (k / 4)) ++ [bs[k]] := List.take_of_length_le (by simp; omega)
  have e2 : ((bs.take k).drop (4 * (k / 4))).take 4 = (bs.take k).drop (4 * (k / 4)) := List.take_of_length_le (by simp; omega)
  rw [List.take_succ_eq_append_getElem hk, List.drop_append_of_le_length (by simp; omega), e1, e2, getB_snoc, at8_get hk]
  omega
theorem accN_lt (bs : List UInt8) (k : Nat) : accN bs k (k / 4) < 16777216 := by
  unfold accN
  refine Nat.lt_of_lt_of_le (getB_lt _) (Nat.le_trans (Nat.pow_le_pow_right (by decide) (show _ ≤ 3 by simp; omega)) (by decide))
theorem accW_set (bs : List UInt8) (k : Nat) (hk : k < bs.length) : (accW bs k).set (k / 4) (.int .u32 ((accN bs k (k / 4) : Int) * 256 + at8 bs k)) = accW bs (k + 1) := by
  rw [← accN_same bs k hk]
  apply List.ext_getElem?
  intro i
  rw [List.getElem?_set]
  by_cases h : k / 4 = i
  · subst h
    by_cases h2 : k / 4 < 64
    · rw [accW_at bs (k + 1) h2]; simp [accW_len, h2]
    · simp [accW, h2]
  · rw [if_neg h]
    by_cases h2 : i < 64
    · rw [accW_at bs k h2, accW_at bs (k + 1) h2, accN_other bs k i hk (fun e => h e.symm)]
    · simp [accW, h2]
theorem accW_zero (bs : List UInt8) : accW bs 0 = zU := by
  apply List.ext_getElem?
  intro i
  by_cases h : i < 64
  · rw [accW_at bs 0 h, zU, List.getElem?_replicate, if_pos h]; simp [accN, getB]
  · rw [List.getElem?_eq_none (by rw [accW_len]; omega), List.getElem?_eq_none (by rw [zU_len]; omega)]
theorem accW_all (bs : List UInt8) (hl : bs.length = 64) : accW bs 64 = fill64 u32v (.int .u32 0) (first16 bs) := by
  apply List.ext_getElem?
  intro i
  by_cases h : i < 64
  · rw [accW_at bs 64 h]
    by_cases h2 : i < 16
    · rw [fill64_at _ _ (by rw [first16_len]; exact h2)]
      simp [u32v, accN, first16, word4, h2, List.take_of_length_le (Nat.le_of_eq hl)]
    · rw [fill64_zero _ _ (by rw [first16_len]; omega) h]
      have e : accN bs 64 i = 0 := by
        unfold accN
        rw [List.drop_eq_nil_of_le (by simp; omega)]; rfl
      rw [e]; rfl
  · rw [List.getElem?_eq_none (by rw [accW_len]; omega), List.getElem?_eq_none (by rw [fill64_len _ _ (by rw [first16_len]; omega)]; omega)]

end Go.Proofs.Ythfjnmkplifcmaa

