/- The contracts of the macs in the specification: spec.l3Block, spec.l3Mac, spec.l3Extract, spec.l3Expand: blockK, macN, extractN, expandN, each in a row of its own. For keys of at most 64 bytes. What was there stays. -/
import Derived.Test.YtdbpnibcblelbaaGreatDoorJoint2
import Derived.Test.YtdbpnibcblelbaaGreatDoorJoint14
import Derived.Test.YtdbpnibcblelbaaGreatDoorJoint3
namespace Go.Proofs.YtdbpnibcblelbaaGreatDoor
open Go.ChangeShapes Go.WideShapes Go.ChangeAt Go.RowKit
theorem u8_xor8 (a b : UInt8) : bits .xor .u8 (a.toNat : Int) (b.toNat : Int) = ((a ^^^ b).toNat : Int) := by
  rw [u8_xor_nat _ _ a.toNat_lt b.toNat_lt, UInt8.toNat_xor]
def keyZ (key : List UInt8) : List UInt8 := key ++ zs (64 - key.length)
theorem keyZ_len {key : List UInt8} (h : key.length ≤ 64) : (keyZ key).length = 64 := by simp [keyZ, zs_len]; omega
theorem blockK_eq (key : List UInt8) (x : UInt8) : blockK key x = (keyZ key).map (· ^^^ x) := rfl
theorem keyStart {w : World} {g : Nat} {t : TypeId} {key : List UInt8} (h : Hid (w.heap[g]? = some (.cells (splice ((zs 64).map u8v) 0 (key.map u8v)).toArray t (0, 0)))) : Arr w g t ((keyZ key).map u8v) := by
  have e : splice ((zs 64).map u8v) 0 (key.map u8v) = (keyZ key).map u8v := by
    simp only [splice, List.take_zero, List.nil_append, Nat.zero_add, List.length_map, keyZ, List.map_append, zs, ← List.map_drop, List.drop_replicate]
  unfold Arr
  rw [← e]
  exact h.out
theorem Own.cut {w : World} {B : Nat} {a : Option Addr} {m cap : Nat} {bs : List UInt8} (h : Own w B (.slice a m cap) bs) (k : Nat) (hk : k ≤ bs.length) : Own w B (.slice a k cap) (bs.take k) := by
  have hl : (bs.take k).length = k := by simp; omega
  obtain ⟨h1, h2⟩ := h
  unfold Own
  rw [hl]
  refine ⟨by simp; omega, ?_⟩
  rcases h2 with ⟨e, hn⟩ | ⟨g, c, cur, e, hB, hg, hle, hm, hs, ht⟩
  · simp at e
    obtain ⟨rfl, rfl, rfl⟩ := e
    have : k = 0 := by omega
    subst this
    exact .inl ⟨rfl, rfl⟩
  · simp at e
    obtain ⟨rfl, -, rfl⟩ := e
    refine .inr ⟨g, cap, cur, rfl, hB, hg, by omega, hm, hs, ?_⟩
    rw [Nat.mul_one] at ht ⊢
    rw [List.map_take, ← ht, List.take_take, Nat.min_eq_left hk]
end Go.Proofs.YtdbpnibcblelbaaGreatDoor
/- The contracts of labels in the specification: spec.l3Label, spec.l3LabelBytes, spec.l3LabelFault, spec.l3ExpandLabel, spec.l3Derive. What was there stays. -/
namespace Go.Proofs.YtdbpnibcblelbaaGreatDoor
open Go.ChangeShapes Go.WideShapes Go.ChangeAt Go.RowKit
def charOk (b : UInt8) : Bool := decide (32 ≤ b.toNat) && decide (b.toNat ≤ 126)
theorem labelOk_eq (l : List UInt8) : labelOk l = (l.all charOk && inB (l.length : Int) 1 40) := by
  unfold labelOk charOk inB
  rw [Bool.and_assoc]
  congr 1
  simp only [decide_eq_decide.2 (show 1 ≤ l.length ↔ (1 : Int) ≤ (l.length : Int) by omega), decide_eq_decide.2 (show l.length ≤ 40 ↔ (l.length : Int) ≤ 40 by omega), Bool.decide_and]
theorem charOk_at {l : List UInt8} {j : Nat} (h : j < l.length) : charOk l[j] = (decide (32 ≤ at8 l j) && decide (at8 l j ≤ 126)) := by
  rw [at8_get h]
  unfold charOk
  simp only [decide_eq_decide.2 (show 32 ≤ l[j].toNat ↔ (32 : Int) ≤ (l[j].toNat : Int) by omega), decide_eq_decide.2 (show l[j].toNat ≤ 126 ↔ (l[j].toNat : Int) ≤ 126 by omega)]
theorem all_take_succ {l : List UInt8} {j : Nat} (h : j < l.length) : (l.take (j + 1)).all charOk = ((l.take j).all charOk && charOk l[j]) := by
  rw [List.take_succ_eq_append_getElem h, List.all_append]
  simp
theorem all_of_take {l : List UInt8} {j : Nat} (h : j < l.length) (hb : charOk l[j] = false) : l.all charOk = false := by
  rw [List.all_eq_false]
  exact ⟨l[j], List.getElem_mem h, by simp [hb]⟩
def labelC (l ctx : List UInt8) (n : Int) : Int := if labelOk l then (if ctx.length ≤ 100 then (if inB n 0 255 then 0 else 3) else 2) else 5
theorem tls13_str : (⟨#[116, 108, 115, 49, 51, 32]⟩ : ByteArray) = strB tls13 := rfl
theorem labelB_eq (l ctx : List UInt8) (n : Nat) : labelB l ctx n = putB n 2 ++ [UInt8.ofNat (6 + l.length)] ++ (tls13 ++ l) ++ [UInt8.ofNat ctx.length] ++ ctx := by simp [labelB]
def expLabN (key l ctx : List UInt8) (n : Nat) : List UInt8 := expandN key (labelB l ctx n) n
def deriveN (key l data : List UInt8) : List UInt8 := expLabN key l (digestN data) 32
theorem labelOk_len {l : List UInt8} (h : labelOk l = true) : l.length ≤ 40 := by
  unfold labelOk at h
  simp only [Bool.and_eq_true, decide_eq_true_eq] at h
  exact h.2
end Go.Proofs.YtdbpnibcblelbaaGreatDoor
/- The contracts of chapter 3's functions in the specification, at every argument: code and bytes. -/
namespace Go.Proofs.YtdbpnibcblelbaaGreatDoor
open Go.ChangeShapes Go.WideShapes Go.ChangeAt Go.RowKit
def keyB (key : List UInt8) : Bool := decide (key.length ≤ 64)
def dataB (data : List UInt8) : Bool := decide (data.length ≤ 500)
def macOk (key data : List UInt8) : Bool := keyB key && dataB data
def macC (key data : List UInt8) : Int := if macOk key data then 0 else 2
def macL (key data : List UInt8) : List UInt8 := if macOk key data then macN key data else []
def extL (salt data : List UInt8) : List UInt8 := if macOk salt data then extractN salt data else []
def infoB (info : List UInt8) : Bool := decide (info.length ≤ 300)
def expC (key info : List UInt8) (n : Int) : Int := if keyB key && infoB info then (if inB n 0 255 then 0 else 3) else 2
def expL (key info : List UInt8) (n : Int) : List UInt8 := if keyB key && infoB info && inB n 0 255 then expandN key info n.toNat else []
theorem nat255 {n : Int} (h : inB n 0 255 = true) : ∃ m : Nat, n = m ∧ m ≤ 255 := by
  simp [inB] at h
  exact ⟨n.toNat, by omega, by omega⟩
def labL (l ctx : List UInt8) (n : Int) : List UInt8 := if labelC l ctx n = 0 then labelB l ctx n.toNat else []
theorem labelC_zero {l ctx : List UInt8} {n : Int} (h : labelC l ctx n = 0) : labelOk l = true ∧ ctx.length ≤ 100 ∧ inB n 0 255 = true := by
  unfold labelC at h
  split at h
  · rename_i h1
    split at h
    · rename_i h2
      split at h
      · rename_i h3
        exact ⟨h1, h2, h3⟩
      · cases h
    · cases h
  · cases h
def elC (key l ctx : List UInt8) (n : Int) : Int := if keyB key then labelC l ctx n else 2
def elL (key l ctx : List UInt8) (n : Int) : List UInt8 := if elC key l ctx n = 0 then expLabN key l ctx n.toNat else []
def dkC (key l data : List UInt8) : Int := if keyB key then (if labelOk l then (if dataB data then 0 else 2) else 5) else 2
def dkL (key l data : List UInt8) : List UInt8 := if keyB key && labelOk l && dataB data then deriveN key l data else []
end Go.Proofs.YtdbpnibcblelbaaGreatDoor
/- Chapter 7 as plain functions on bytes, with no program in it: the secrets of a schedule (earlyN, handN, masterN, trafN), what is exported (exportN), their lengths, the codes of the functions at every argument. No conditions but those in each line. -/
namespace Go.Proofs.YtdbpnibcblelbaaGreatDoor
open Go.RowKit
def derivedB : List UInt8 := [100, 101, 114, 105, 118, 101, 100]
def exporterB : List UInt8 := [101, 120, 112, 111, 114, 116, 101, 114]
def cApB : List UInt8 := [99, 32, 97, 112, 32, 116, 114, 97, 102, 102, 105, 99]
def sApB : List UInt8 := [115, 32, 97, 112, 32, 116, 114, 97, 102, 102, 105, 99]
def expMB : List UInt8 := [101, 120, 112, 32, 109, 97, 115, 116, 101, 114]
def resMB : List UInt8 := [114, 101, 115, 32, 109, 97, 115, 116, 101, 114]
theorem derived_str : (⟨#[100, 101, 114, 105, 118, 101, 100]⟩ : ByteArray) = strB derivedB := rfl
theorem exporter_str : (⟨#[101, 120, 112, 111, 114, 116, 101, 114]⟩ : ByteArray) = strB exporterB := rfl
theorem cAp_str : (⟨#[99, 32, 97, 112, 32, 116, 114, 97, 102, 102, 105, 99]⟩ : ByteArray) = strB cApB := rfl
theorem sAp_str : (⟨#[115, 32, 97, 112, 32, 116, 114, 97, 102, 102, 105, 99]⟩ : ByteArray) = strB sApB := rfl
theorem expM_str : (⟨#[101, 120, 112, 32, 109, 97, 115, 116, 101, 114]⟩ : ByteArray) = strB expMB := rfl
theorem resM_str : (⟨#[114, 101, 115, 32, 109, 97, 115, 116, 101, 114]⟩ : ByteArray) = strB resMB := rfl
def pskN (psk : List UInt8) : List UInt8 := if psk.length = 0 then zs 32 else psk
def earlyN (psk : List UInt8) : List UInt8 := extractN [] (pskN psk)
def handN (early shared : List UInt8) : List UInt8 := extractN (deriveN early derivedB []) shared
def masterN (hand : List UInt8) : List UInt8 := extractN (deriveN hand derivedB []) (zs 32)
def trafN (secret l digest : List UInt8) : List UInt8 := expLabN secret l digest 32
def exportN (exporter l ctx : List UInt8) (n : Nat) : List UInt8 := expLabN (deriveN exporter l []) exporterB (digestN ctx) n
theorem handN_len (early shared : List UInt8) : (handN early shared).length = 32 := extractN_len _ _
theorem masterN_len (hand : List UInt8) : (masterN hand).length = 32 := extractN_len _ _
theorem expLabN_len (key l ctx : List UInt8) (n : Nat) : (expLabN key l ctx n).length = n := expandN_len _ _ _
theorem trafN_len (secret l digest : List UInt8) : (trafN secret l digest).length = 32 := expLabN_len _ _ _ _
theorem deriveN_len (key l data : List UInt8) : (deriveN key l data).length = 32 := expLabN_len _ _ _ _
def is32 (s : List UInt8) : Bool := decide (s.length = 32)
def esC (psk : List UInt8) : Int := if psk.length ≤ 64 then 0 else 2
def esL (psk : List UInt8) : List UInt8 := if esC psk = 0 then earlyN psk else []
def hsC (early shared : List UInt8) : Int := if is32 early then (if shared.length ≤ 64 then 0 else 2) else 1
def hsL (early shared : List UInt8) : List UInt8 := if hsC early shared = 0 then handN early shared else []
def msC (hand : List UInt8) : Int := if is32 hand then 0 else 1
def msL (hand : List UInt8) : List UInt8 := if msC hand = 0 then masterN hand else []
def tfC (secret l digest : List UInt8) : Int := if is32 secret && is32 digest then (if labelOk l then 0 else 5) else 1
def tfL (secret l digest : List UInt8) : List UInt8 := if tfC secret l digest = 0 then trafN secret l digest else []
def scC (master digest : List UInt8) : Int := if is32 master && is32 digest then 0 else 1
def scL (master digest l : List UInt8) : List UInt8 := if scC master digest = 0 then trafN master l digest else []
def exC (exporter l ctx : List UInt8) (n : Int) : Int := if is32 exporter then labelC l ctx n else 1
def exL (exporter l ctx : List UInt8) (n : Int) : List UInt8 := if exC exporter l ctx n = 0 then exportN exporter l ctx n.toNat else []
end Go.Proofs.YtdbpnibcblelbaaGreatDoor
/- The contracts of finished values in the specification: spec.l5Finish (finN), FinishOf at every argument: code and bytes. -/
namespace Go.Proofs.YtdbpnibcblelbaaGreatDoor
open Go.ChangeShapes Go.WideShapes Go.ChangeAt Go.RowKit
def finished : List UInt8 := [102, 105, 110, 105, 115, 104, 101, 100]
theorem finished_str : (⟨#[102, 105, 110, 105, 115, 104, 101, 100]⟩ : ByteArray) = strB finished := rfl
theorem finN_eq (key digest : List UInt8) : finN key digest = macN (expLabN key finished [] 32) digest := rfl
def fnC (key digest : List UInt8) : Int := if key.length = 32 ∧ digest.length = 32 then 0 else 1
def fnL (key digest : List UInt8) : List UInt8 := if key.length = 32 ∧ digest.length = 32 then finN key digest else []
end Go.Proofs.YtdbpnibcblelbaaGreatDoor
