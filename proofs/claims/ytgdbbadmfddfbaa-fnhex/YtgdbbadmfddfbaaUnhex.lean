/- Bytes read back from their digits, with no program in it. -/
import Derived.Test.YtgdbbadmfddfbaaHex
namespace Go.Proofs.Ytgdbbadmfddfbaa
open Go.RowKit

/-- A digit's value; -1: it is none. -/
def dv (c : Int) : Int := if 48 ≤ c ∧ c ≤ 57 then c - 48 else if 97 ≤ c ∧ c ≤ 102 then c - 87 else -1
theorem dv_lo (c : Int) : -1 ≤ dv c := by unfold dv; split <;> (try split) <;> omega
theorem dv_hi (c : Int) : dv c ≤ 15 := by unfold dv; split <;> (try split) <;> omega
theorem dv_num {c : Int} (h : 48 ≤ c ∧ c ≤ 57) : dv c = c - 48 := by simp [dv, h]
theorem dv_let {c : Int} (h : 97 ≤ c ∧ c ≤ 102) : dv c = c - 87 := by unfold dv; rw [if_neg (by omega), if_pos h]
theorem dv_no {c : Int} (h : ¬ (48 ≤ c ∧ c ≤ 57)) (h' : ¬ (97 ≤ c ∧ c ≤ 102)) : dv c = -1 := by unfold dv; rw [if_neg h, if_neg h']
def okB (l : List UInt8) (j : Nat) : Bool := decide (0 ≤ dv (at8 l (2 * j)) ∧ 0 ≤ dv (at8 l (2 * j + 1)))
def byteAt (l : List UInt8) (j : Nat) : UInt8 := UInt8.ofNat (16 * dv (at8 l (2 * j)) + dv (at8 l (2 * j + 1))).toNat
def outTo (l : List UInt8) (k : Nat) : List UInt8 := (List.range k).map (byteAt l)
def allOk (l : List UInt8) (k : Nat) : Bool := (List.range k).all (okB l)
theorem outTo_len (l : List UInt8) (k : Nat) : (outTo l k).length = k := by simp [outTo]
theorem outTo_succ (l : List UInt8) (k : Nat) : outTo l (k + 1) = outTo l k ++ [byteAt l k] := by simp [outTo, List.range_succ]
theorem allOk_succ (l : List UInt8) (k : Nat) : allOk l (k + 1) = (allOk l k && okB l k) := by simp [allOk, List.range_succ]
theorem allOk_of_lt {l : List UInt8} {k j : Nat} (h : j < k) (ho : okB l j = false) : allOk l k = false := by
  simp only [allOk, List.all_eq_false, List.mem_range]
  exact ⟨j, h, by simp [ho]⟩
theorem byteAt_val {l : List UInt8} {j : Nat} (h : okB l j = true) : ((byteAt l j).toNat : Int) = 16 * dv (at8 l (2 * j)) + dv (at8 l (2 * j + 1)) := by
  have h1 := of_decide_eq_true h
  have h2 := dv_hi (at8 l (2 * j))
  have h3 := dv_hi (at8 l (2 * j + 1))
  unfold byteAt
  rw [UInt8.toNat_ofNat']
  omega

def bohOk (l : List UInt8) : Bool := decide (l.length ≤ 1200) && decide (l.length % 2 = 0) && allOk l (l.length / 2)
def bohCode (l : List UInt8) : Int := if l.length ≤ 1200 then (if bohOk l then 0 else 5) else 2
def bohBytes (l : List UInt8) : List UInt8 := if bohOk l then outTo l (l.length / 2) else []
theorem bohBytes_len (l : List UInt8) : (bohBytes l).length ≤ 600 := by
  unfold bohBytes
  split
  · rename_i h
    simp only [bohOk, Bool.and_eq_true, decide_eq_true_eq] at h
    rw [outTo_len]; omega
  · simp

theorem bohOk_all {l : List UInt8} {k : Nat} (hl : l.length ≤ 1200) (h : 2 * k = l.length) (ha : allOk l k = true) : bohOk l = true ∧ bohBytes l = outTo l k := by
  have e : l.length / 2 = k := by omega
  have h1 : bohOk l = true := by simp only [bohOk, e, ha, Bool.and_true, Bool.and_eq_true, decide_eq_true_eq]; omega
  exact ⟨h1, by simp [bohBytes, h1, e]⟩
theorem bohOk_odd {l : List UInt8} (h : l.length % 2 = 1) : bohOk l = false ∧ bohBytes l = [] := by
  have h1 : bohOk l = false := by simp [bohOk, h]
  exact ⟨h1, by simp [bohBytes, h1]⟩
theorem bohOk_bad {l : List UInt8} {k : Nat} (h : 2 * k + 1 < l.length) (ho : okB l k = false) : bohOk l = false ∧ bohBytes l = [] := by
  have h1 : bohOk l = false := by
    simp only [bohOk]
    rw [allOk_of_lt (show k < l.length / 2 by omega) ho, Bool.and_false]
  exact ⟨h1, by simp [bohBytes, h1]⟩
theorem okB_no1 {l : List UInt8} {k : Nat} (h : ¬ 0 ≤ dv (at8 l (2 * k))) : okB l k = false := by simp [okB]; omega
theorem okB_no2 {l : List UInt8} {k : Nat} (h : ¬ 0 ≤ dv (at8 l (2 * k + 1))) : okB l k = false := by simp [okB]; omega
theorem okB_yes {l : List UInt8} {k : Nat} (h : 0 ≤ dv (at8 l (2 * k))) (h' : 0 ≤ dv (at8 l (2 * k + 1))) : okB l k = true := by simp [okB, h, h']
/-- The program lays the second digit into the first one's four bits. -/
theorem or4 (a b : Int) (h0 : 0 ≤ a) (h1 : a ≤ 15) (h2 : 0 ≤ b) (h3 : b ≤ 15) : bits .or .u8 (a * 16) b = 16 * a + b := by
  obtain ⟨a, rfl⟩ := Int.eq_ofNat_of_zero_le h0
  obtain ⟨b, rfl⟩ := Int.eq_ofNat_of_zero_le h2
  have hb : b < 2 ^ 4 := by omega
  rw [show ((a : Int) * 16) = ((a * 16 : Nat) : Int) by omega, u8_or_nat _ _ (by omega) (by omega), show a * 16 = a <<< 4 by rw [Nat.shiftLeft_eq], ← Nat.shiftLeft_add_eq_or_of_lt hb, Nat.shiftLeft_eq]
  omega

end Go.Proofs.Ytgdbbadmfddfbaa
