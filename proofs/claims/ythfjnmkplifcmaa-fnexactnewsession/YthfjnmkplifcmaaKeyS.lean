/- The contracts of chapter 3's functions in the specification, at every argument: code and bytes. -/
import Derived.Test.YthfjnmkplifcmaaJoint7
namespace Go.Proofs.Ythfjnmkplifcmaa
open Go.ChangeShapes Go.WideShapes Go.ChangeAt Go.RowKit

def keyB (key : List UInt8) : Bool := decide (key.length ≤ 64)
def dataB (data : List UInt8) : Bool := decide (data.length ≤ 500)

def macOk (key data : List UInt8) : Bool := keyB key && dataB data
def macC (key data : List UInt8) : Int := if macOk key data then 0 else 2
def macL (key data : List UInt8) : List UInt8 := if macOk key data then macN key data else []
theorem macL_len (key data : List UInt8) : (macL key data).length ≤ 1048576 := by
  unfold macL; split
  · rw [macN_len]; decide
  · simp
def extL (salt data : List UInt8) : List UInt8 := if macOk salt data then extractN salt data else []
theorem extL_len (key data : List UInt8) : (extL key data).length ≤ 1048576 := by
  unfold extL; split
  · rw [extractN_len]; decide
  · simp



def infoB (info : List UInt8) : Bool := decide (info.length ≤ 300)
def expC (key info : List UInt8) (n : Int) : Int := if keyB key && infoB info then (if inB n 0 255 then 0 else 3) else 2
def expL (key info : List UInt8) (n : Int) : List UInt8 := if keyB key && infoB info && inB n 0 255 then expandN key info n.toNat else []
theorem nat255 {n : Int} (h : inB n 0 255 = true) : ∃ m : Nat, n = m ∧ m ≤ 255 := by
  simp [inB] at h
  exact ⟨n.toNat, by omega, by omega⟩
theorem expL_len (key info : List UInt8) (n : Int) : (expL key info n).length ≤ 1048576 := by
  unfold expL; split
  · rename_i h
    simp only [Bool.and_eq_true] at h
    obtain ⟨m, rfl, hm⟩ := nat255 h.2
    rw [expandN_len]; omega
  · simp
def labL (l ctx : List UInt8) (n : Int) : List UInt8 := if labelC l ctx n = 0 then labelB l ctx n.toNat else []
theorem labelC_zero {l ctx : List UInt8} {n : Int} (h : labelC l ctx n = 0) : labelOk l = true ∧ ctx.length ≤ 100 ∧ inB n 0 255 = true := by
  unfold labelC at h
  split at h
  · rename_i h1
    split at h
    · rename_i h2
      split at h
      · rename_i h3
        exact ⟨h1, h2, h3⟩
      · cases h
    · cases h
  · cases h
theorem labL_len (l ctx : List UInt8) (n : Int) : (labL l ctx n).length ≤ 1048576 := by
  unfold labL; split
  · rename_i h
    have h1 := labelOk_len (labelC_zero h).1
    have h2 := (labelC_zero h).2.1
    rw [labelB_len]; omega
  · simp
def elC (key l ctx : List UInt8) (n : Int) : Int := if keyB key then labelC l ctx n else 2
def elL (key l ctx : List UInt8) (n : Int) : List UInt8 := if elC key l ctx n = 0 then expLabN key l ctx n.toNat else []
theorem elC_zero {key l ctx : List UInt8} {n : Int} (h : elC key l ctx n = 0) : keyB key = true ∧ labelC l ctx n = 0 := by
  unfold elC at h
  split at h
  · rename_i h1
    exact ⟨h1, h⟩
  · cases h
theorem elL_len (key l ctx : List UInt8) (n : Int) : (elL key l ctx n).length ≤ 1048576 := by
  unfold elL; split
  · rename_i h
    obtain ⟨m, rfl, hm⟩ := nat255 (labelC_zero (elC_zero h).2).2.2
    rw [expLabN, expandN_len]; omega
  · simp
def dkC (key l data : List UInt8) : Int := if keyB key then (if labelOk l then (if dataB data then 0 else 2) else 5) else 2
def dkL (key l data : List UInt8) : List UInt8 := if keyB key && labelOk l && dataB data then deriveN key l data else []
theorem dkL_len (key l data : List UInt8) : (dkL key l data).length ≤ 1048576 := by
  unfold dkL; split
  · rw [deriveN, expLabN, expandN_len]; decide
  · simp

end Go.Proofs.Ythfjnmkplifcmaa

