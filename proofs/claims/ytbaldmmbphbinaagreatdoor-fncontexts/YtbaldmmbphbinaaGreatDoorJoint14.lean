/- The contracts of labels in the specification: spec.l3Label, spec.l3LabelBytes, spec.l3LabelFault, spec.l3ExpandLabel, spec.l3Derive. What was there stays. -/
import Derived.Test.YtbaldmmbphbinaaGreatDoorJoint13
import Derived.Test.YtbaldmmbphbinaaGreatDoorJoint3
import Derived.Test.YtbaldmmbphbinaaGreatDoorJoint10
namespace Go.Proofs.YtbaldmmbphbinaaGreatDoor
open Go.ChangeShapes Go.WideShapes Go.ChangeAt Go.RowKit

def charOk (b : UInt8) : Bool := decide (32 ≤ b.toNat) && decide (b.toNat ≤ 126)
theorem labelOk_eq (l : List UInt8) : labelOk l = (l.all charOk && inB (l.length : Int) 1 40) := by
  unfold labelOk charOk inB
  rw [Bool.and_assoc]
  congr 1
  simp only [decide_eq_decide.2 (show 1 ≤ l.length ↔ (1 : Int) ≤ (l.length : Int) by omega), decide_eq_decide.2 (show l.length ≤ 40 ↔ (l.length : Int) ≤ 40 by omega), Bool.decide_and]
theorem charOk_at {l : List UInt8} {j : Nat} (h : j < l.length) : charOk l[j] = (decide (32 ≤ at8 l j) && decide (at8 l j ≤ 126)) := by
  rw [at8_get h]
  unfold charOk
  simp only [decide_eq_decide.2 (show 32 ≤ l[j].toNat ↔ (32 : Int) ≤ (l[j].toNat : Int) by omega), decide_eq_decide.2 (show l[j].toNat ≤ 126 ↔ (l[j].toNat : Int) ≤ 126 by omega)]
theorem all_take_succ {l : List UInt8} {j : Nat} (h : j < l.length) : (l.take (j + 1)).all charOk = ((l.take j).all charOk && charOk l[j]) := by
  rw [List.take_succ_eq_append_getElem h, List.all_append]
  simp
theorem all_of_take {l : List UInt8} {j : Nat} (h : j < l.length) (hb : charOk l[j] = false) : l.all charOk = false := by
  rw [List.all_eq_false]
  exact ⟨l[j], List.getElem_mem h, by simp [hb]⟩


/-- The code of a label, a context and a number. -/
def labelC (l ctx : List UInt8) (n : Int) : Int := if labelOk l then (if ctx.length ≤ 100 then (if inB n 0 255 then 0 else 3) else 2) else 5


theorem tls13_str : (⟨#[116, 108, 115, 49, 51, 32]⟩ : ByteArray) = strB tls13 := rfl
theorem labelB_eq (l ctx : List UInt8) (n : Nat) : labelB l ctx n = putB n 2 ++ [UInt8.ofNat (6 + l.length)] ++ (tls13 ++ l) ++ [UInt8.ofNat ctx.length] ++ ctx := by simp [labelB]

set_option maxRecDepth 4000 in
set_option maxHeartbeats 1000000 in
theorem l3LabelBytes_c (l : List UInt8) (p : Option Addr) (q : Nat) (ctx : List UInt8) (n : Nat) (w : World) (hr : Rd w p q ctx) (hl : l.length ≤ 40) (hl2 : ctx.length ≤ 100) (hn : n ≤ 255) :
    Calls Tryz.prog 133 #[.string (strB l), .slice p ctx.length q, .int .i64 (n : Int)] w fun e w' => ∃ u, e = .returned u ∧ Own w' w.heap.size u (labelB l ctx n) ∧ Below w.heap.size w w' := by
  have HR : Hid (Rd w p q ctx) := hr
  clear hr
  have ha := run_add (P := Tryz.prog) tls13 l (by simp [tls13]; omega)
  rw [← tls13_str] at ha
  have hlf : Hid ((tls13 ++ l).length = 6 + l.length) := by show _ = _; simp [tls13]; omega
  have hfs : (strB (tls13 ++ l)).size = 6 + l.length := by rw [strB_size, hlf.out]
  have hb := run_bytes (P := Tryz.prog) (src := 9) (dst := 22) Tryz.underlying9 Tryz.underlying22 Tryz.underlying5 (tls13 ++ l)
  have HE : Hid (labelB l ctx n = putB n 2 ++ [UInt8.ofNat (6 + l.length)] ++ (tls13 ++ l) ++ [UInt8.ofNat ctx.length] ++ ctx) := labelB_eq l ctx n
  have hv1 : Hid ((6 : Int) + (l.length : Int) = ((UInt8.ofNat (6 + l.length)).toNat : Int)) := by show _ = _; rw [UInt8.toNat_ofNat', Nat.mod_eq_of_lt (by omega)]; omega
  have hv2 : Hid ((ctx.length : Int) = ((UInt8.ofNat ctx.length).toNat : Int)) := by show _ = _; rw [UInt8.toNat_ofNat', Nat.mod_eq_of_lt (by omega)]
  generalize tls13 ++ l = f at *
  go_enter Tryz.func133, Tryz.ntmps133
  go_wp2_with fail
  refine (l1Put_i _ 2 _ (by omega) (by omega) (by decide) (by decide)).mono ?_
  rintro e w1 ⟨u1, rfl, k1, hb1⟩
  rw [Int.toNat_natCast, show (2 : Int).toNat = 2 from rfl] at k1
  obtain ⟨p1, q1, rfl, -⟩ := k1.rd
  rw [putB_len] at k1 ⊢
  have BW := hb1
  have hfm : Hid (f.length ≤ 46) := by show _ ≤ _; rw [hlf.out]; omega
  have k1' := k1.stay (alloc_below w1 (.cells #[.int .u8 ((6 : Int) + (l.length : Int))] 5))
  clear hb1
  go_wp2_with (first
    | (at_builtin; refine wpList_append_rd rfl (.tmp 12) (.tmp 16) rfl w.heap.size _ (putB n 2) rfl k1' _ 1 [UInt8.ofNat (6 + l.length)] rfl (rd_one w1 _ _ _ hv1.out) (by simp [putB_len]) (by have := BW.size; simp; omega) ?_; intro v2 w2 k2 hg2; replace BW := (Below.mk BW (.cells #[.int .u8 ((6 : Int) + (l.length : Int))] 5)).grown hg2 (by have := BW.size; simp; omega) (fun k hk => k1.ge k hk); clear hg2 k1 k1')
    | (at_builtin; refine wpList_append_rd rfl (.tmp 18) (.tmp 20) rfl w.heap.size _ (putB n 2 ++ [UInt8.ofNat (6 + l.length)]) rfl (k2.stay (bytesW_below w2 f)) _ _ f rfl (bytesW_rd w2 f (by have := hfm.out; unfold maxLen; omega)) (by have := hfm.out; simp [putB_len]; omega) (Below.step BW (bytesW_below w2 f)).size ?_; intro v3 w3 k3 hg3; replace BW := (Below.step BW (bytesW_below w2 f)).grown hg3 (Below.step BW (bytesW_below w2 f)).size (fun k hk => k2.ge k hk); clear hg3 k2; have k3' := k3.stay (alloc_below w3 (.cells #[.int .u8 (ctx.length : Int)] 5)))
    | (at_builtin; refine wpList_append_rd rfl (.tmp 21) (.tmp 25) rfl w.heap.size _ (putB n 2 ++ [UInt8.ofNat (6 + l.length)] ++ f) rfl k3' _ 1 [UInt8.ofNat ctx.length] rfl (rd_one w3 _ _ _ hv2.out) (by have := hfm.out; simp [putB_len]; omega) (by have := BW.size; simp; omega) ?_; intro v4 w4 k4 hg4; replace BW := (Below.mk BW (.cells #[.int .u8 (ctx.length : Int)] 5)).grown hg4 (by have := BW.size; simp; omega) (fun k hk => k3.ge k hk); clear hg4 k3 k3')
    | (at_builtin; refine wpList_append_rd rfl (.tmp 27) (.tmp 28) rfl w.heap.size _ (putB n 2 ++ [UInt8.ofNat (6 + l.length)] ++ f ++ [UInt8.ofNat ctx.length]) rfl k4 p q ctx rfl (HR.out.keep BW) (by have := hfm.out; simp [putB_len]; omega) BW.size ?_; intro v5 w5 k5 hg5; replace BW := BW.grown hg5 BW.size (fun k hk => k4.ge k hk); clear hg5 k4))
  go_ret
  exact ⟨_, rfl, by rw [HE.out]; exact k5, BW⟩

def expLabN (key l ctx : List UInt8) (n : Nat) : List UInt8 := expandN key (labelB l ctx n) n
def deriveN (key l data : List UInt8) : List UInt8 := expLabN key l (digestN data) 32
theorem labelOk_len {l : List UInt8} (h : labelOk l = true) : l.length ≤ 40 := by
  unfold labelOk at h
  simp only [Bool.and_eq_true, decide_eq_true_eq] at h
  exact h.2

set_option maxRecDepth 4000 in
set_option maxHeartbeats 1000000 in
theorem l3ExpandLabel_c (p p2 : Option Addr) (q q2 : Nat) (key l ctx : List UInt8) (n : Nat) (w : World) (hr : Rd w p q key) (hr2 : Rd w p2 q2 ctx) (hk : key.length ≤ 64) (hl : l.length ≤ 40) (hl2 : ctx.length ≤ 100) (hn : n ≤ 255) :
    Calls Tryz.prog 109 #[.slice p key.length q, .string (strB l), .slice p2 ctx.length q2, .int .i64 (n : Int)] w fun e w' => ∃ u, e = .returned u ∧ Own w' w.heap.size u (expLabN key l ctx n) ∧ Below w.heap.size w w' := by
  have HE : Hid (expLabN key l ctx n = expandN key (labelB l ctx n) n) := rfl
  go_enter Tryz.func109, Tryz.ntmps109
  go_wp2_with fail
  refine (l3LabelBytes_c l p2 q2 ctx n _ hr2 hl hl2 hn).mono ?_
  rintro e w1 ⟨u1, rfl, k1, hb1⟩
  obtain ⟨p1, q1, rfl, rd1⟩ := k1.rd
  have HB : Hid ((labelB l ctx n).length ≤ 400) := by show _ ≤ _; rw [labelB_len]; omega
  generalize labelB l ctx n = lb at *
  have hz := hb1.size
  clear k1
  go_wp2_with fail
  refine (l3Expand_c p p1 q q1 key lb n _ (hr.keep hb1) rd1 hk HB.out hn).mono ?_
  rintro e w2 ⟨u2, rfl, k2, hb2⟩
  go_wp2
  go_ret
  exact ⟨_, rfl, by rw [HE.out]; exact k2.lower hz, Below.step hb1 hb2⟩

set_option maxRecDepth 4000 in
set_option maxHeartbeats 1000000 in
theorem l3Derive_c (p p2 : Option Addr) (q q2 : Nat) (key l data : List UInt8) (w : World) (hr : Rd w p q key) (hr2 : Rd w p2 q2 data) (hk : key.length ≤ 64) (hl : l.length ≤ 40) (hl2 : data.length ≤ 600) :
    Calls Tryz.prog 110 #[.slice p key.length q, .string (strB l), .slice p2 data.length q2] w fun e w' => ∃ u, e = .returned u ∧ Own w' w.heap.size u (deriveN key l data) ∧ Below w.heap.size w w' := by
  have HE : Hid (deriveN key l data = expLabN key l (digestN data) 32) := rfl
  go_enter Tryz.func110, Tryz.ntmps110
  go_wp2_with fail
  refine (l2Digest_c p2 q2 data _ hr2 hl2).mono ?_
  rintro e w1 ⟨u1, rfl, k1, hb1⟩
  obtain ⟨p1, q1, rfl, rd1⟩ := k1.rd
  have HB : Hid ((digestN data).length = 32) := digestN_len data
  generalize digestN data = dg at *
  have hz := hb1.size
  clear k1
  go_wp2_with fail
  refine (l3ExpandLabel_c p p1 q q1 key l dg 32 _ (hr.keep hb1) rd1 hk hl (by rw [HB.out]; decide) (by decide)).mono ?_
  rintro e w2 ⟨u2, rfl, k2, hb2⟩
  go_wp2
  go_ret
  exact ⟨_, rfl, by rw [HE.out]; exact k2.lower hz, Below.step hb1 hb2⟩
end Go.Proofs.YtbaldmmbphbinaaGreatDoor

/- The contracts of chapter 3's functions in the specification, at every argument: code and bytes. -/
namespace Go.Proofs.YtbaldmmbphbinaaGreatDoor
open Go.ChangeShapes Go.WideShapes Go.ChangeAt Go.RowKit

def keyB (key : List UInt8) : Bool := decide (key.length ≤ 64)
def dataB (data : List UInt8) : Bool := decide (data.length ≤ 500)

def macOk (key data : List UInt8) : Bool := keyB key && dataB data
def macC (key data : List UInt8) : Int := if macOk key data then 0 else 2
def macL (key data : List UInt8) : List UInt8 := if macOk key data then macN key data else []
theorem macL_len (key data : List UInt8) : (macL key data).length ≤ 1048576 := by
  unfold macL; split
  · rw [macN_len]; decide
  · simp
def extL (salt data : List UInt8) : List UInt8 := if macOk salt data then extractN salt data else []
theorem extL_len (key data : List UInt8) : (extL key data).length ≤ 1048576 := by
  unfold extL; split
  · rw [extractN_len]; decide
  · simp



def infoB (info : List UInt8) : Bool := decide (info.length ≤ 300)
def expC (key info : List UInt8) (n : Int) : Int := if keyB key && infoB info then (if inB n 0 255 then 0 else 3) else 2
def expL (key info : List UInt8) (n : Int) : List UInt8 := if keyB key && infoB info && inB n 0 255 then expandN key info n.toNat else []
theorem nat255 {n : Int} (h : inB n 0 255 = true) : ∃ m : Nat, n = m ∧ m ≤ 255 := by
  simp [inB] at h
  exact ⟨n.toNat, by omega, by omega⟩
theorem expL_len (key info : List UInt8) (n : Int) : (expL key info n).length ≤ 1048576 := by
  unfold expL; split
  · rename_i h
    simp only [Bool.and_eq_true] at h
    obtain ⟨m, rfl, hm⟩ := nat255 h.2
    rw [expandN_len]; omega
  · simp
def labL (l ctx : List UInt8) (n : Int) : List UInt8 := if labelC l ctx n = 0 then labelB l ctx n.toNat else []
theorem labelC_zero {l ctx : List UInt8} {n : Int} (h : labelC l ctx n = 0) : labelOk l = true ∧ ctx.length ≤ 100 ∧ inB n 0 255 = true := by
  unfold labelC at h
  split at h
  · rename_i h1
    split at h
    · rename_i h2
      split at h
      · rename_i h3
        exact ⟨h1, h2, h3⟩
      · cases h
    · cases h
  · cases h
theorem labL_len (l ctx : List UInt8) (n : Int) : (labL l ctx n).length ≤ 1048576 := by
  unfold labL; split
  · rename_i h
    have h1 := labelOk_len (labelC_zero h).1
    have h2 := (labelC_zero h).2.1
    rw [labelB_len]; omega
  · simp
def elC (key l ctx : List UInt8) (n : Int) : Int := if keyB key then labelC l ctx n else 2
def elL (key l ctx : List UInt8) (n : Int) : List UInt8 := if elC key l ctx n = 0 then expLabN key l ctx n.toNat else []
theorem elC_zero {key l ctx : List UInt8} {n : Int} (h : elC key l ctx n = 0) : keyB key = true ∧ labelC l ctx n = 0 := by
  unfold elC at h
  split at h
  · rename_i h1
    exact ⟨h1, h⟩
  · cases h
theorem elL_len (key l ctx : List UInt8) (n : Int) : (elL key l ctx n).length ≤ 1048576 := by
  unfold elL; split
  · rename_i h
    obtain ⟨m, rfl, hm⟩ := nat255 (labelC_zero (elC_zero h).2).2.2
    rw [expLabN, expandN_len]; omega
  · simp
def dkC (key l data : List UInt8) : Int := if keyB key then (if labelOk l then (if dataB data then 0 else 2) else 5) else 2
def dkL (key l data : List UInt8) : List UInt8 := if keyB key && labelOk l && dataB data then deriveN key l data else []
theorem dkL_len (key l data : List UInt8) : (dkL key l data).length ≤ 1048576 := by
  unfold dkL; split
  · rw [deriveN, expLabN, expandN_len]; decide
  · simp

end Go.Proofs.YtbaldmmbphbinaaGreatDoor

/- Chapter 7 as plain functions on bytes, with no program in it: the secrets of a schedule (earlyN, handN, masterN, trafN), what is exported (exportN), their lengths, the codes of the functions at every argument. No conditions but those in each line. -/
namespace Go.Proofs.YtbaldmmbphbinaaGreatDoor
open Go.RowKit

def derivedB : List UInt8 := [100, 101, 114, 105, 118, 101, 100]
def exporterB : List UInt8 := [101, 120, 112, 111, 114, 116, 101, 114]
def cApB : List UInt8 := [99, 32, 97, 112, 32, 116, 114, 97, 102, 102, 105, 99]
def sApB : List UInt8 := [115, 32, 97, 112, 32, 116, 114, 97, 102, 102, 105, 99]
def expMB : List UInt8 := [101, 120, 112, 32, 109, 97, 115, 116, 101, 114]
def resMB : List UInt8 := [114, 101, 115, 32, 109, 97, 115, 116, 101, 114]
theorem derived_str : (⟨#[100, 101, 114, 105, 118, 101, 100]⟩ : ByteArray) = strB derivedB := rfl
theorem exporter_str : (⟨#[101, 120, 112, 111, 114, 116, 101, 114]⟩ : ByteArray) = strB exporterB := rfl
theorem cAp_str : (⟨#[99, 32, 97, 112, 32, 116, 114, 97, 102, 102, 105, 99]⟩ : ByteArray) = strB cApB := rfl
theorem sAp_str : (⟨#[115, 32, 97, 112, 32, 116, 114, 97, 102, 102, 105, 99]⟩ : ByteArray) = strB sApB := rfl
theorem expM_str : (⟨#[101, 120, 112, 32, 109, 97, 115, 116, 101, 114]⟩ : ByteArray) = strB expMB := rfl
theorem resM_str : (⟨#[114, 101, 115, 32, 109, 97, 115, 116, 101, 114]⟩ : ByteArray) = strB resMB := rfl

def pskN (psk : List UInt8) : List UInt8 := if psk.length = 0 then zs 32 else psk
def earlyN (psk : List UInt8) : List UInt8 := extractN [] (pskN psk)
def handN (early shared : List UInt8) : List UInt8 := extractN (deriveN early derivedB []) shared
def masterN (hand : List UInt8) : List UInt8 := extractN (deriveN hand derivedB []) (zs 32)
def trafN (secret l digest : List UInt8) : List UInt8 := expLabN secret l digest 32
def exportN (exporter l ctx : List UInt8) (n : Nat) : List UInt8 := expLabN (deriveN exporter l []) exporterB (digestN ctx) n
theorem earlyN_len (psk : List UInt8) : (earlyN psk).length = 32 := extractN_len _ _
theorem handN_len (early shared : List UInt8) : (handN early shared).length = 32 := extractN_len _ _
theorem masterN_len (hand : List UInt8) : (masterN hand).length = 32 := extractN_len _ _
theorem expLabN_len (key l ctx : List UInt8) (n : Nat) : (expLabN key l ctx n).length = n := expandN_len _ _ _
theorem trafN_len (secret l digest : List UInt8) : (trafN secret l digest).length = 32 := expLabN_len _ _ _ _
theorem deriveN_len (key l data : List UInt8) : (deriveN key l data).length = 32 := expLabN_len _ _ _ _
theorem exportN_len (exporter l ctx : List UInt8) (n : Nat) : (exportN exporter l ctx n).length = n := expLabN_len _ _ _ _

def is32 (s : List UInt8) : Bool := decide (s.length = 32)
def esC (psk : List UInt8) : Int := if psk.length ≤ 64 then 0 else 2
def esL (psk : List UInt8) : List UInt8 := if esC psk = 0 then earlyN psk else []
def hsC (early shared : List UInt8) : Int := if is32 early then (if shared.length ≤ 64 then 0 else 2) else 1
def hsL (early shared : List UInt8) : List UInt8 := if hsC early shared = 0 then handN early shared else []
def msC (hand : List UInt8) : Int := if is32 hand then 0 else 1
def msL (hand : List UInt8) : List UInt8 := if msC hand = 0 then masterN hand else []
def tfC (secret l digest : List UInt8) : Int := if is32 secret && is32 digest then (if labelOk l then 0 else 5) else 1
def tfL (secret l digest : List UInt8) : List UInt8 := if tfC secret l digest = 0 then trafN secret l digest else []
def scC (master digest : List UInt8) : Int := if is32 master && is32 digest then 0 else 1
def scL (master digest l : List UInt8) : List UInt8 := if scC master digest = 0 then trafN master l digest else []
def exC (exporter l ctx : List UInt8) (n : Int) : Int := if is32 exporter then labelC l ctx n else 1
def exL (exporter l ctx : List UInt8) (n : Int) : List UInt8 := if exC exporter l ctx n = 0 then exportN exporter l ctx n.toNat else []
theorem esL_len (psk : List UInt8) : (esL psk).length ≤ 1048576 := by unfold esL; split; rw [earlyN_len]; decide; simp
theorem hsL_len (early shared : List UInt8) : (hsL early shared).length ≤ 1048576 := by unfold hsL; split; rw [handN_len]; decide; simp
theorem msL_len (hand : List UInt8) : (msL hand).length ≤ 1048576 := by unfold msL; split; rw [masterN_len]; decide; simp
theorem tfL_len (secret l digest : List UInt8) : (tfL secret l digest).length ≤ 1048576 := by unfold tfL; split; rw [trafN_len]; decide; simp
theorem scL_len (master digest l : List UInt8) : (scL master digest l).length ≤ 32 := by unfold scL; split; rw [trafN_len]; exact Nat.le_refl _; simp
theorem labelC_bound {l ctx : List UInt8} {n : Int} (h : labelC l ctx n = 0) : labelOk l = true ∧ ctx.length ≤ 100 ∧ inB n 0 255 = true := labelC_zero h
theorem exC_zero {exporter l ctx : List UInt8} {n : Int} (h : exC exporter l ctx n = 0) : is32 exporter = true ∧ labelC l ctx n = 0 := by
  unfold exC at h
  split at h
  · rename_i h1; exact ⟨h1, h⟩
  · cases h
theorem exL_len (exporter l ctx : List UInt8) (n : Int) : (exL exporter l ctx n).length ≤ 1048576 := by
  unfold exL; split
  · rename_i h
    obtain ⟨m, rfl, hm⟩ := nat255 (labelC_zero (exC_zero h).2).2.2
    rw [exportN_len]; simp; omega
  · simp
end Go.Proofs.YtbaldmmbphbinaaGreatDoor

/- The contracts of labels in the program: impl.isLength, impl.isLabel, impl.LabelBytes: code and bytes. What was there stays. -/
namespace Go.Proofs.YtbaldmmbphbinaaGreatDoor
open Go.ChangeShapes Go.WideShapes Go.ChangeAt Go.RowKit

theorem put2 (m : Nat) (h : m ≤ 255) : putB m 2 = [0, UInt8.ofNat m] := by
  show [UInt8.ofNat (m / 256 ^ 1 % 256), UInt8.ofNat (m / 256 ^ 0 % 256)] = _
  rw [show m / 256 ^ 1 % 256 = 0 by omega, show m / 256 ^ 0 % 256 = m by simp; omega]
  rfl
theorem joinedLab_c (W : World) (f ctx : List UInt8) (m : Nat) (hm : m ≤ 255) (hf : f.length ≤ 46) (hc : ctx.length ≤ 100) (p2 : Option Addr) (q2 : Nat) (hr : Rd W p2 q2 ctx) :
    Calls Tryz.prog 120 #[.slice (some ⟨(bytesW W f).heap.size + 1 + 1, 0, none⟩) 4 4]
      ((((bytesW W f).alloc (.cells #[.int .u8 0, .int .u8 (m : Int), .int .u8 ((f.length : Int) % 256)] 5)).alloc (.cells #[.int .u8 (ctx.length : Int)] 5)).alloc (.cells #[.slice (some ⟨(bytesW W f).heap.size, 0, none⟩) 3 3, .slice (some ⟨W.heap.size, 0, none⟩) f.length (bytesC W f), .slice (some ⟨(bytesW W f).heap.size + 1, 0, none⟩) 1 1, .slice p2 ctx.length q2] 22))
      fun e w' => ∃ u, e = .returned u ∧ Own w' W.heap.size u (putB m 2 ++ [UInt8.ofNat f.length] ++ f ++ [UInt8.ofNat ctx.length] ++ ctx) ∧ Below W.heap.size W w' := by
  have hbW := bytesW_below W f
  have r2 := bytesW_rd W f (by unfold maxLen; omega)
  have r4 := hr.keep hbW
  generalize bytesC W f = c2 at *
  generalize bytesW W f = W1 at *
  have r1 := rd_new W1 [.int .u8 0, .int .u8 (m : Int), .int .u8 ((f.length : Int) % 256)] [0, UInt8.ofNat m, UInt8.ofNat f.length] 5 3 (by
    simp only [List.map_cons, List.map_nil]
    rw [u8_of m (by omega), u8_of f.length (by omega), show ((f.length : Int) % 256) = f.length by omega]
    rfl) rfl (by decide)
  have b1 := alloc_below W1 (.cells #[.int .u8 0, .int .u8 (m : Int), .int .u8 ((f.length : Int) % 256)] 5)
  have z1 := size_alloc W1 (.cells #[.int .u8 0, .int .u8 (m : Int), .int .u8 ((f.length : Int) % 256)] 5)
  replace r2 := r2.keep b1
  replace r4 := r4.keep b1
  have r1' : Rd (W1.alloc (.cells #[.int .u8 0, .int .u8 (m : Int), .int .u8 ((f.length : Int) % 256)] 5)) (some ⟨W1.heap.size, 0, none⟩) 3 [0, UInt8.ofNat m, UInt8.ofNat f.length] := r1
  replace hbW := Below.step hbW b1
  clear r1 b1
  generalize W1.alloc (.cells #[.int .u8 0, .int .u8 (m : Int), .int .u8 ((f.length : Int) % 256)] 5) = W2 at *
  have r3 := rd_new W2 [.int .u8 (ctx.length : Int)] [UInt8.ofNat ctx.length] 5 1 (by
    simp only [List.map_cons, List.map_nil]
    rw [u8_of ctx.length (by omega)]) rfl (by decide)
  have b2 := alloc_below W2 (.cells #[.int .u8 (ctx.length : Int)] 5)
  have z2 := size_alloc W2 (.cells #[.int .u8 (ctx.length : Int)] 5)
  replace r1' := r1'.keep b2
  replace r2 := r2.keep b2
  replace r4 := r4.keep b2
  have r3' : Rd (W2.alloc (.cells #[.int .u8 (ctx.length : Int)] 5)) (some ⟨W2.heap.size, 0, none⟩) 1 [UInt8.ofNat ctx.length] := r3
  replace hbW := Below.step hbW b2
  clear r3 b2
  generalize W2.alloc (.cells #[.int .u8 (ctx.length : Int)] 5) = W3 at *
  rw [← z1, ← z2]
  have h := joined_c [⟨some ⟨W1.heap.size, 0, none⟩, 3, [0, UInt8.ofNat m, UInt8.ofNat f.length]⟩, ⟨some ⟨W.heap.size, 0, none⟩, c2, f⟩, ⟨some ⟨W2.heap.size, 0, none⟩, 1, [UInt8.ofNat ctx.length]⟩, ⟨p2, q2, ctx⟩] W3.heap.size 0 4 _
    (pcs_four W3 ⟨some ⟨W1.heap.size, 0, none⟩, 3, [0, UInt8.ofNat m, UInt8.ofNat f.length]⟩ ⟨some ⟨W.heap.size, 0, none⟩, c2, f⟩ ⟨some ⟨W2.heap.size, 0, none⟩, 1, [UInt8.ofNat ctx.length]⟩ ⟨p2, q2, ctx⟩ 22 r1' r2 r3' r4)
    (by simp [flat]; omega) (by simp)
  have hz := hbW.size
  refine h.mono ?_
  rintro e w1 ⟨u, rfl, k, hb⟩
  refine ⟨u, rfl, ?_, Below.step hbW (Below.res hb)⟩
  rw [put2 m hm]
  have hk := k.lower (B' := W.heap.size) (by rw [size_alloc]; omega)
  simpa [flat] using hk

set_option maxHeartbeats 1000000 in
theorem isLength_c (n : Int) (w : World) : Calls Tryz.prog 174 #[.int .i64 n] w fun e w' => e = .returned (.bool (inB n 0 255)) ∧ w' = w := by
  by_cases h0 : 0 ≤ n
  · by_cases h1 : n ≤ 255
    · rw [inB_true h0 h1]
      go_enter Tryz.func174, Tryz.ntmps174
      go_wp2
      go_ret
      exact ⟨rfl, rfl⟩
    · rw [inB_false (by omega)]
      go_enter Tryz.func174, Tryz.ntmps174
      go_wp2
      go_ret
      exact ⟨rfl, rfl⟩
  · rw [inB_false (by omega)]
    go_enter Tryz.func174, Tryz.ntmps174
    go_wp2
    go_ret
    exact ⟨rfl, rfl⟩

set_option maxHeartbeats 1000000 in
theorem isLabel_c (l : List UInt8) (w : World) (hl : l.length ≤ 1048576) :
    Calls Tryz.prog 173 #[.string (strB l)] w fun e w' => e = .returned (.bool (labelOk l)) ∧ w' = w := by
  have hss := strB_size l
  by_cases hlen : inB (l.length : Int) 1 40 = true
  · have hlo : (1 : Int) ≤ l.length := by simp [inB] at hlen; omega
    have hhi : (l.length : Int) ≤ 40 := by simp [inB] at hlen; omega
    have HLB : Hid (inB (l.length : Int) 1 40 = true) := hlen
    clear hlen
    go_enter Tryz.func173, Tryz.ntmps173
    have hd1 : decide ((l.length : Int) < 1) = false := by simp; omega
    have hd2 : decide ((40 : Int) < (l.length : Int)) = false := by simp; omega
    go_wp2
    clear hd1 hd2
    go_loop [3] (fun i => ∃ j : Nat, j ≤ l.length ∧ i = .int .i64 j ∧ (l.take j).all charOk = true)
      (fun i => l.length - (intOf i).toNat)
    case atStart => exact ⟨0, Nat.zero_le _, rfl, by simp⟩
    case round =>
      obtain ⟨j, hj, rfl, hall⟩ := hrel
      by_cases hjl : j < l.length
      · have hat := strB_at l j
        have h0 := at8_lo l j
        have h1 := at8_hi l j
        have hlt : (j : Int) < (l.length : Int) := by omega
        have HC : Hid (charOk l[j] = (decide (32 ≤ at8 l j) && decide (at8 l j ≤ 126))) := charOk_at hjl
        have HS : Hid ((l.take (j + 1)).all charOk = ((l.take j).all charOk && charOk l[j])) := all_take_succ hjl
        have HF : Hid (charOk l[j] = false → labelOk l = false) := fun h => by rw [labelOk_eq, all_of_take hjl h]; rfl
        generalize at8 l j = x at *
        have HA : Hid ((l.take j).all charOk = true) := hall
        clear hall
        by_cases hx : x < 32
        · have hlab : Hid (labelOk l = false) := HF.out (by rw [HC.out]; simp; omega)
          go_wp2
          go_ret
          exact ⟨by rw [hlab.out]; rfl, rfl⟩
        · by_cases hx2 : 126 < x
          · have hlab : Hid (labelOk l = false) := HF.out (by rw [HC.out]; simp; omega)
            go_wp2
            go_ret
            exact ⟨by rw [hlab.out]; rfl, rfl⟩
          · have hnx : Hid ((l.take (j + 1)).all charOk = true) := by show _ = _; rw [HS.out, HA.out, HC.out]; simp; omega
            go_wp2
            go_round
            case rel => exact ⟨j + 1, by omega, by go_num, hnx.out⟩
            case measure => simp [intOf]; omega
      · have e : j = l.length := by omega
        subst e
        rw [List.take_length] at hall
        have HF : Hid (labelOk l = true) := by show _ = _; rw [labelOk_eq, hall, HLB.out]; rfl
        clear hall
        go_wp2
        go_ret
        exact ⟨by rw [HF.out]; rfl, rfl⟩
  · have HF : Hid (labelOk l = false) := by show _ = _; rw [labelOk_eq]; simp at hlen; rw [hlen]; simp
    rw [HF.out]
    have hlen2 : ¬ ((1 : Int) ≤ l.length ∧ (l.length : Int) ≤ 40) := by simpa [inB] using hlen
    clear hlen
    by_cases h1 : (l.length : Int) < 1
    · go_enter Tryz.func173, Tryz.ntmps173
      go_wp2
      go_ret
      exact ⟨rfl, rfl⟩
    · have h2 : (40 : Int) < l.length := by omega
      clear hlen2
      go_enter Tryz.func173, Tryz.ntmps173
      go_wp2
      go_ret
      exact ⟨rfl, rfl⟩

set_option maxRecDepth 4000 in
set_option maxHeartbeats 1000000 in
theorem labelFault_c (p2 : Option Addr) (q2 : Nat) (l ctx : List UInt8) (n : Int) (w : World) (hl : l.length ≤ 1048576) :
    Calls Tryz.prog 157 #[.string (strB l), .slice p2 ctx.length q2, .int .i64 n] w fun e w' => e = .returned (.int .i64 (labelC l ctx n)) ∧ w' = w := by
  cases h1 : labelOk l
  · rw [show labelC l ctx n = 5 by simp [labelC, h1]]
    go_enter Tryz.func157, Tryz.ntmps157
    go_wp2_with fail
    refine (isLabel_c l _ hl).mono ?_
    rintro e w' ⟨rfl, hw⟩
    subst hw
    rw [h1]
    go_wp2
    go_ret
    exact ⟨rfl, rfl⟩
  · by_cases h2 : ctx.length ≤ 100
    · cases h3 : inB n 0 255
      · rw [show labelC l ctx n = 3 by simp [labelC, h1, h2, h3]]
        go_enter Tryz.func157, Tryz.ntmps157
        go_wp2_with fail
        refine (isLabel_c l _ hl).mono ?_
        rintro e w' ⟨rfl, hw⟩
        subst hw
        rw [h1]
        go_wp2_with fail
        refine (isLength_c n _).mono ?_
        rintro e w' ⟨rfl, hw⟩
        subst hw
        rw [h3]
        go_wp2
        go_ret
        exact ⟨rfl, rfl⟩
      · rw [show labelC l ctx n = 0 by simp [labelC, h1, h2, h3]]
        go_enter Tryz.func157, Tryz.ntmps157
        go_wp2_with fail
        refine (isLabel_c l _ hl).mono ?_
        rintro e w' ⟨rfl, hw⟩
        subst hw
        rw [h1]
        go_wp2_with fail
        refine (isLength_c n _).mono ?_
        rintro e w' ⟨rfl, hw⟩
        subst hw
        rw [h3]
        go_wp2
        go_ret
        exact ⟨rfl, rfl⟩
    · rw [show labelC l ctx n = 2 by simp [labelC, h1, h2]]
      go_enter Tryz.func157, Tryz.ntmps157
      go_wp2_with fail
      refine (isLabel_c l _ hl).mono ?_
      rintro e w' ⟨rfl, hw⟩
      subst hw
      rw [h1]
      go_wp2
      go_ret
      exact ⟨rfl, rfl⟩
set_option maxRecDepth 4000 in
set_option maxHeartbeats 1000000 in
theorem implLab_s (p2 : Option Addr) (q2 : Nat) (l ctx : List UInt8) (n : Int) (w : World) (hr2 : Rd w p2 q2 ctx) (hl : l.length ≤ 1048576) :
    Calls Tryz.prog 187 #[.string (strB l), .slice p2 ctx.length q2, .int .i64 n] w fun e w' => ∃ u, e = .returned (.agg #[.int .i64 (labelC l ctx n), u]) ∧ Own w' w.heap.size u (labL l ctx n) ∧ Below w.heap.size w w' ∧ (labelC l ctx n ≠ 0 → u = .slice none 0 0) := by
  by_cases hc : labelC l ctx n = 0
  · obtain ⟨h1, h2, h3⟩ := labelC_zero hc
    have h40 := labelOk_len h1
    obtain ⟨m, rfl, hm⟩ := nat255 h3
    have K0 : Hid (∀ w, Calls Tryz.prog 157 #[.string (strB l), .slice p2 ctx.length q2, .int .i64 (m : Int)] w fun e w' => e = .returned (.int .i64 0) ∧ w' = w) := fun w => by
      have g := labelFault_c p2 q2 l ctx (m : Int) w hl
      rw [hc] at g
      exact g
    rw [show labL l ctx (m : Int) = labelB l ctx m by simp [labL, hc], hc]
    have ha := run_add (P := Tryz.prog) tls13 l (by simp [tls13]; omega)
    rw [← tls13_str] at ha
    have hlf : Hid ((tls13 ++ l).length = 6 + l.length) := by show _ = _; simp [tls13]; omega
    have hfs : (strB (tls13 ++ l)).size = 6 + l.length := by rw [strB_size, hlf.out]
    have hb := run_bytes (P := Tryz.prog) (src := 9) (dst := 22) Tryz.underlying9 Tryz.underlying22 Tryz.underlying5 (tls13 ++ l)
    have HE : Hid (labelB l ctx m = putB m 2 ++ [UInt8.ofNat (6 + l.length)] ++ (tls13 ++ l) ++ [UInt8.ofNat ctx.length] ++ ctx) := labelB_eq l ctx m
    generalize tls13 ++ l = f at *
    have HR : Hid (Rd w p2 q2 ctx) := hr2
    clear hr2 hc
    go_enter Tryz.func187, Tryz.ntmps187
    go_wp2_with fail
    refine (K0.out _).mono ?_
    rintro e w' ⟨rfl, hw⟩
    subst hw
    go_wp2_with fail
    have K := joinedLab_c (w.alloc (.cells #[.int .i64 0, .slice none 0 0] 126)) f ctx m hm (by rw [hlf.out]; omega) h2 p2 q2 (HR.out.keep (alloc_below _ _))
    rw [size_alloc] at K
    refine K.mono ?_
    rintro e w1 ⟨u, rfl, ho, hbb⟩
    have hbb' : Below (w.alloc (.cells #[.int .i64 0, .slice none 0 0] 126)).heap.size (w.alloc (.cells #[.int .i64 0, .slice none 0 0] 126)) w1 := by rw [size_alloc]; exact hbb
    obtain ⟨hd, hf⟩ := bcell hbb
    rw [hlf.out, ← HE.out] at ho
    obtain ⟨a, cap, rfl, -⟩ := ho.rd
    have hres := Below.res hbb'
    clear hbb hbb' K ha hb
    go_wp2
    refine bodyPost_ret (v := .agg #[.int .i64 0, .slice a (labelB l ctx m).length cap]) (by simp [results, Tryz.results187, go_sem, hd]) rfl ⟨_, rfl, ?_, (hres.setCell (Nat.le_refl _) _).setCell (Nat.le_refl _) _, fun h => absurd rfl h⟩
    exact ((ho.set (Nat.lt_succ_self _) _).set (Nat.lt_succ_self _) _).lower (Nat.le_succ _)
  · rw [show labL l ctx n = [] by simp [labL, hc]]
    have K0 : Hid (∀ w, Calls Tryz.prog 157 #[.string (strB l), .slice p2 ctx.length q2, .int .i64 n] w fun e w' => e = .returned (.int .i64 (labelC l ctx n)) ∧ w' = w) := fun w => labelFault_c p2 q2 l ctx n w hl
    generalize labelC l ctx n = c at *
    have cz1 : (c != 0) = true := by rw [bne_iff_ne]; exact hc
    clear hc
    go_enter Tryz.func187, Tryz.ntmps187
    go_wp2_with fail
    refine (K0.out _).mono ?_
    rintro e w' ⟨rfl, hw⟩
    subst hw
    go_wp2
    exact bodyPost_ret (v := .agg #[.int .i64 c, .slice none 0 0]) (by simp [results, Tryz.results187, go_sem]) rfl ⟨_, rfl, Own_nil _ _, (alloc_below _ _), fun _ => rfl⟩
theorem implLab_c (p2 : Option Addr) (q2 : Nat) (l ctx : List UInt8) (n : Int) (w : World) (hr2 : Rd w p2 q2 ctx) (hl : l.length ≤ 1048576) :
    Calls Tryz.prog 187 #[.string (strB l), .slice p2 ctx.length q2, .int .i64 n] w fun e w' => ∃ u, e = .returned (.agg #[.int .i64 (labelC l ctx n), u]) ∧ Own w' w.heap.size u (labL l ctx n) ∧ Below w.heap.size w w' :=
  (implLab_s p2 q2 l ctx n w hr2 hl).mono fun _ _ ⟨u, h1, h2, h3, _⟩ => ⟨u, h1, h2, h3⟩
end Go.Proofs.YtbaldmmbphbinaaGreatDoor

