/- The contracts of chapter 3's functions in the specification, at every argument: code and bytes. -/
import Derived.Test.YtflhoefocjmihaaJoint12
namespace Go.Proofs.Ytflhoefocjmihaa
open Go.ChangeShapes Go.WideShapes Go.ChangeAt Go.RowKit

def keyB (key : List UInt8) : Bool := decide (key.length ≤ 64)
def dataB (data : List UInt8) : Bool := decide (data.length ≤ 500)

def macOk (key data : List UInt8) : Bool := keyB key && dataB data
def macC (key data : List UInt8) : Int := if macOk key data then 0 else 2
def macL (key data : List UInt8) : List UInt8 := if macOk key data then macN key data else []
theorem macL_len (key data : List UInt8) : (macL key data).length ≤ 1048576 := by
  unfold macL; split
  · rw [macN_len]; decide
  · simp
def extL (salt data : List UInt8) : List UInt8 := if macOk salt data then extractN salt data else []
theorem extL_len (key data : List UInt8) : (extL key data).length ≤ 1048576 := by
  unfold extL; split
  · rw [extractN_len]; decide
  · simp



def infoB (info : List UInt8) : Bool := decide (info.length ≤ 300)
def expC (key info : List UInt8) (n : Int) : Int := if keyB key && infoB info then (if inB n 0 255 then 0 else 3) else 2
def expL (key info : List UInt8) (n : Int) : List UInt8 := if keyB key && infoB info && inB n 0 255 then expandN key info n.toNat else []
theorem nat255 {n : Int} (h : inB n 0 255 = true) : ∃ m : Nat, n = m ∧ m ≤ 255 := by
  simp [inB] at h
  exact ⟨n.toNat, by omega, by omega⟩
theorem expL_len (key info : List UInt8) (n : Int) : (expL key info n).length ≤ 1048576 := by
  unfold expL; split
  · rename_i h
    simp only [Bool.and_eq_true] at h
    obtain ⟨m, rfl, hm⟩ := nat255 h.2
    rw [expandN_len]; omega
  · simp
def labL (l ctx : List UInt8) (n : Int) : List UInt8 := if labelC l ctx n = 0 then labelB l ctx n.toNat else []
theorem labelC_zero {l ctx : List UInt8} {n : Int} (h : labelC l ctx n = 0) : labelOk l = true ∧ ctx.length ≤ 100 ∧ inB n 0 255 = true := by
  unfold labelC at h
  split at h
  · rename_i h1
    split at h
    · rename_i h2
      split at h
      · rename_i h3
        exact ⟨h1, h2, h3⟩
      · cases h
    · cases h
  · cases h
theorem labL_len (l ctx : List UInt8) (n : Int) : (labL l ctx n).length ≤ 1048576 := by
  unfold labL; split
  · rename_i h
    have h1 := labelOk_len (labelC_zero h).1
    have h2 := (labelC_zero h).2.1
    rw [labelB_len]; omega
  · simp
def elC (key l ctx : List UInt8) (n : Int) : Int := if keyB key then labelC l ctx n else 2
def elL (key l ctx : List UInt8) (n : Int) : List UInt8 := if elC key l ctx n = 0 then expLabN key l ctx n.toNat else []
theorem elC_zero {key l ctx : List UInt8} {n : Int} (h : elC key l ctx n = 0) : keyB key = true ∧ labelC l ctx n = 0 := by
  unfold elC at h
  split at h
  · rename_i h1
    exact ⟨h1, h⟩
  · cases h
theorem elL_len (key l ctx : List UInt8) (n : Int) : (elL key l ctx n).length ≤ 1048576 := by
  unfold elL; split
  · rename_i h
    obtain ⟨m, rfl, hm⟩ := nat255 (labelC_zero (elC_zero h).2).2.2
    rw [expLabN, expandN_len]; omega
  · simp
def dkC (key l data : List UInt8) : Int := if keyB key then (if labelOk l then (if dataB data then 0 else 2) else 5) else 2
def dkL (key l data : List UInt8) : List UInt8 := if keyB key && labelOk l && dataB data then deriveN key l data else []
theorem dkL_len (key l data : List UInt8) : (dkL key l data).length ≤ 1048576 := by
  unfold dkL; split
  · rw [deriveN, expLabN, expandN_len]; decide
  · simp

end Go.Proofs.Ytflhoefocjmihaa

/- Chapter 7 as plain functions on bytes, with no program in it: the secrets of a schedule (earlyN, handN, masterN, trafN), what is exported (exportN), their lengths, the codes of the functions at every argument. No conditions but those in each line. -/
namespace Go.Proofs.Ytflhoefocjmihaa
open Go.RowKit

def derivedB : List UInt8 := [100, 101, 114, 105, 118, 101, 100]
def exporterB : List UInt8 := [101, 120, 112, 111, 114, 116, 101, 114]
def cApB : List UInt8 := [99, 32, 97, 112, 32, 116, 114, 97, 102, 102, 105, 99]
def sApB : List UInt8 := [115, 32, 97, 112, 32, 116, 114, 97, 102, 102, 105, 99]
def expMB : List UInt8 := [101, 120, 112, 32, 109, 97, 115, 116, 101, 114]
def resMB : List UInt8 := [114, 101, 115, 32, 109, 97, 115, 116, 101, 114]
theorem derived_str : (⟨#[100, 101, 114, 105, 118, 101, 100]⟩ : ByteArray) = strB derivedB := rfl
theorem exporter_str : (⟨#[101, 120, 112, 111, 114, 116, 101, 114]⟩ : ByteArray) = strB exporterB := rfl
theorem cAp_str : (⟨#[99, 32, 97, 112, 32, 116, 114, 97, 102, 102, 105, 99]⟩ : ByteArray) = strB cApB := rfl
theorem sAp_str : (⟨#[115, 32, 97, 112, 32, 116, 114, 97, 102, 102, 105, 99]⟩ : ByteArray) = strB sApB := rfl
theorem expM_str : (⟨#[101, 120, 112, 32, 109, 97, 115, 116, 101, 114]⟩ : ByteArray) = strB expMB := rfl
theorem resM_str : (⟨#[114, 101, 115, 32, 109, 97, 115, 116, 101, 114]⟩ : ByteArray) = strB resMB := rfl

def pskN (psk : List UInt8) : List UInt8 := if psk.length = 0 then zs 32 else psk
def earlyN (psk : List UInt8) : List UInt8 := extractN [] (pskN psk)
def handN (early shared : List UInt8) : List UInt8 := extractN (deriveN early derivedB []) shared
def masterN (hand : List UInt8) : List UInt8 := extractN (deriveN hand derivedB []) (zs 32)
def trafN (secret l digest : List UInt8) : List UInt8 := expLabN secret l digest 32
def exportN (exporter l ctx : List UInt8) (n : Nat) : List UInt8 := expLabN (deriveN exporter l []) exporterB (digestN ctx) n
theorem earlyN_len (psk : List UInt8) : (earlyN psk).length = 32 := extractN_len _ _
theorem handN_len (early shared : List UInt8) : (handN early shared).length = 32 := extractN_len _ _
theorem masterN_len (hand : List UInt8) : (masterN hand).length = 32 := extractN_len _ _
theorem expLabN_len (key l ctx : List UInt8) (n : Nat) : (expLabN key l ctx n).length = n := expandN_len _ _ _
theorem trafN_len (secret l digest : List UInt8) : (trafN secret l digest).length = 32 := expLabN_len _ _ _ _
theorem deriveN_len (key l data : List UInt8) : (deriveN key l data).length = 32 := expLabN_len _ _ _ _
theorem exportN_len (exporter l ctx : List UInt8) (n : Nat) : (exportN exporter l ctx n).length = n := expLabN_len _ _ _ _

def is32 (s : List UInt8) : Bool := decide (s.length = 32)
def esC (psk : List UInt8) : Int := if psk.length ≤ 64 then 0 else 2
def esL (psk : List UInt8) : List UInt8 := if esC psk = 0 then earlyN psk else []
def hsC (early shared : List UInt8) : Int := if is32 early then (if shared.length ≤ 64 then 0 else 2) else 1
def hsL (early shared : List UInt8) : List UInt8 := if hsC early shared = 0 then handN early shared else []
def msC (hand : List UInt8) : Int := if is32 hand then 0 else 1
def msL (hand : List UInt8) : List UInt8 := if msC hand = 0 then masterN hand else []
def tfC (secret l digest : List UInt8) : Int := if is32 secret && is32 digest then (if labelOk l then 0 else 5) else 1
def tfL (secret l digest : List UInt8) : List UInt8 := if tfC secret l digest = 0 then trafN secret l digest else []
def scC (master digest : List UInt8) : Int := if is32 master && is32 digest then 0 else 1
def scL (master digest l : List UInt8) : List UInt8 := if scC master digest = 0 then trafN master l digest else []
def exC (exporter l ctx : List UInt8) (n : Int) : Int := if is32 exporter then labelC l ctx n else 1
def exL (exporter l ctx : List UInt8) (n : Int) : List UInt8 := if exC exporter l ctx n = 0 then exportN exporter l ctx n.toNat else []
theorem esL_len (psk : List UInt8) : (esL psk).length ≤ 1048576 := by unfold esL; split; rw [earlyN_len]; decide; simp
theorem hsL_len (early shared : List UInt8) : (hsL early shared).length ≤ 1048576 := by unfold hsL; split; rw [handN_len]; decide; simp
theorem msL_len (hand : List UInt8) : (msL hand).length ≤ 1048576 := by unfold msL; split; rw [masterN_len]; decide; simp
theorem tfL_len (secret l digest : List UInt8) : (tfL secret l digest).length ≤ 1048576 := by unfold tfL; split; rw [trafN_len]; decide; simp
theorem scL_len (master digest l : List UInt8) : (scL master digest l).length ≤ 32 := by unfold scL; split; rw [trafN_len]; exact Nat.le_refl _; simp
theorem labelC_bound {l ctx : List UInt8} {n : Int} (h : labelC l ctx n = 0) : labelOk l = true ∧ ctx.length ≤ 100 ∧ inB n 0 255 = true := labelC_zero h
theorem exC_zero {exporter l ctx : List UInt8} {n : Int} (h : exC exporter l ctx n = 0) : is32 exporter = true ∧ labelC l ctx n = 0 := by
  unfold exC at h
  split at h
  · rename_i h1; exact ⟨h1, h⟩
  · cases h
theorem exL_len (exporter l ctx : List UInt8) (n : Int) : (exL exporter l ctx n).length ≤ 1048576 := by
  unfold exL; split
  · rename_i h
    obtain ⟨m, rfl, hm⟩ := nat255 (labelC_zero (exC_zero h).2).2.2
    rw [exportN_len]; simp; omega
  · simp
end Go.Proofs.Ytflhoefocjmihaa

