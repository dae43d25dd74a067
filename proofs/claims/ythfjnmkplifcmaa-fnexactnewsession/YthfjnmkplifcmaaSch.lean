/- Chapter 7 as plain functions on bytes, with no program in it: the secrets of a schedule (earlyN, handN, masterN, trafN), what is exported (exportN), their lengths, the codes of the functions at every argument. No conditions but those in each line. -/
import Derived.Test.YthfjnmkplifcmaaJoint7
import Derived.Test.YthfjnmkplifcmaaKeyS
namespace Go.Proofs.Ythfjnmkplifcmaa
open Go.RowKit

def derivedB : List UInt8 := [100, 101, 114, 105, 118, 101, 100]
def exporterB : List UInt8 := [101, 120, 112, 111, 114, 116, 101, 114]
def cApB : List UInt8 := [99, 32, 97, 112, 32, 116, 114, 97, 102, 102, 105, 99]
def sApB : List UInt8 := [115, 32, 97, 112, 32, 116, 114, 97, 102, 102, 105, 99]
def expMB : List UInt8 := [101, 120, 112, 32, 109, 97, 115, 116, 101, 114]
def resMB : List UInt8 := [114, 101, 115, 32, 109, 97, 115, 116, 101, 114]
theorem derived_str : (⟨#[100, 101, 114, 105, 118, 101, 100]⟩ : ByteArray) = strB derivedB := rfl
theorem exporter_str : (⟨#[101, 120, 112, 111, 114, 116, 101, 114]⟩ : ByteArray) = strB exporterB := rfl
theorem cAp_str : (⟨#[99, 32, 97, 112, 32, 116, 114, 97, 102, 102, 105, 99]⟩ : ByteArray) = strB cApB := rfl
theorem sAp_str : (⟨#[115, 32, 97, 112, 32, 116, 114, 97, 102, 102, 105, 99]⟩ : ByteArray) = strB sApB := rfl
theorem expM_str : (⟨#[101, 120, 112, 32, 109, 97, 115, 116, 101, 114]⟩ : ByteArray) = strB expMB := rfl
theorem resM_str : (⟨#[114, 101, 115, 32, 109, 97, 115, 116, 101, 114]⟩ : ByteArray) = strB resMB := rfl

def pskN (psk : List UInt8) : List UInt8 := if psk.length = 0 then zs 32 else psk
def earlyN (psk : List UInt8) : List UInt8 := extractN [] (pskN psk)
def handN (early shared : List UInt8) : List UInt8 := extractN (deriveN early derivedB []) shared
def masterN (hand : List UInt8) : List UInt8 := extractN (deriveN hand derivedB []) (zs 32)
def trafN (secret l digest : List UInt8) : List UInt8 := expLabN secret l digest 32
def exportN (exporter l ctx : List UInt8) (n : Nat) : List UInt8 := expLabN (deriveN exporter l []) exporterB (digestN ctx) n
theorem earlyN_len (psk : List UInt8) : (earlyN psk).length = 32 := extractN_len _ _
theorem handN_len (early shared : List UInt8) : (handN early shared).length = 32 := extractN_len _ _
theorem masterN_len (hand : List UInt8) : (masterN hand).length = 32 := extractN_len _ _
theorem expLabN_len (key l ctx : List UInt8) (n : Nat) : (expLabN key l ctx n).length = n := expandN_len _ _ _
theorem trafN_len (secret l digest : List UInt8) : (trafN secret l digest).length = 32 := expLabN_len _ _ _ _
theorem deriveN_len (key l data : List UInt8) : (deriveN key l data).length = 32 := expLabN_len _ _ _ _
theorem exportN_len (exporter l ctx : List UInt8) (n : Nat) : (exportN exporter l ctx n).length = n := expLabN_len _ _ _ _

def is32 (s : List UInt8) : Bool := decide (s.length = 32)
def esC (psk : List UInt8) : Int := if psk.length ≤ 64 then 0 else 2
def esL (psk : List UInt8) : List UInt8 := if esC psk = 0 then earlyN psk else []
def hsC (early shared : List UInt8) : Int := if is32 early then (if shared.length ≤ 64 then 0 else 2) else 1
def hsL (early shared : List UInt8) : List UInt8 := if hsC early shared = 0 then handN early shared else []
def msC (hand : List UInt8) : Int := if is32 hand then 0 else 1
def msL (hand : List UInt8) : List UInt8 := if msC hand = 0 then masterN hand else []
def tfC (secret l digest : List UInt8) : Int := if is32 secret && is32 digest then (if labelOk l then 0 else 5) else 1
def tfL (secret l digest : List UInt8) : List UInt8 := if tfC secret l digest = 0 then trafN secret l digest else []
def scC (master digest : List UInt8) : Int := if is32 master && is32 digest then 0 else 1
def scL (master digest l : List UInt8) : List UInt8 := if scC master digest = 0 then trafN master l digest else []
def exC (exporter l ctx : List UInt8) (n : Int) : Int := if is32 exporter then labelC l ctx n else 1
def exL (exporter l ctx : List UInt8) (n : Int) : List UInt8 := if exC exporter l ctx n = 0 then exportN exporter l ctx n.toNat else []
theorem esL_len (psk : List UInt8) : (esL psk).length ≤ 1048576 := by unfold esL; split; rw [earlyN_len]; decide; simp
theorem hsL_len (early shared : List UInt8) : (hsL early shared).length ≤ 1048576 := by unfold hsL; split; rw [handN_len]; decide; simp
theorem msL_len (hand : List UInt8) : (msL hand).length ≤ 1048576 := by unfold msL; split; rw [masterN_len]; decide; simp
theorem tfL_len (secret l digest : List UInt8) : (tfL secret l digest).length ≤ 1048576 := by unfold tfL; split; rw [trafN_len]; decide; simp
theorem scL_len (master digest l : List UInt8) : (scL master digest l).length ≤ 32 := by unfold scL; split; rw [trafN_len]; exact Nat.le_refl _; simp
theorem labelC_bound {l ctx : List UInt8} {n : Int} (h : labelC l ctx n = 0) : labelOk l = true ∧ ctx.length ≤ 100 ∧ inB n 0 255 = true := labelC_zero h
theorem exC_zero {exporter l ctx : List UInt8} {n : Int} (h : exC exporter l ctx n = 0) : is32 exporter = true ∧ labelC l ctx n = 0 := by
  unfold exC at h
  split at h
  · rename_i h1; exact ⟨h1, h⟩
  · cases h
theorem exL_len (exporter l ctx : List UInt8) (n : Int) : (exL exporter l ctx n).length ≤ 1048576 := by
  unfold exL; split
  · rename_i h
    obtain ⟨m, rfl, hm⟩ := nat255 (labelC_zero (exC_zero h).2).2.2
    rw [exportN_len]; simp; omega
  · simp
end Go.Proofs.Ythfjnmkplifcmaa

