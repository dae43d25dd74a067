/- The contracts of labels in the specification: spec.l3Label, spec.l3LabelBytes, spec.l3LabelFault, spec.l3ExpandLabel, spec.l3Derive. What was there stays. -/
import Derived.Test.YtflhoefocjmihaaGreatDoorMacS
import Derived.Test.YtflhoefocjmihaaGreatDoorJoint2
import Derived.Test.YtflhoefocjmihaaGreatDoorJoint4
namespace Go.Proofs.YtflhoefocjmihaaGreatDoor
open Go.ChangeShapes Go.WideShapes Go.ChangeAt Go.RowKit

def charOk (b : UInt8) : Bool := decide (32 ≤ b.toNat) && decide (b.toNat ≤ 126)
theorem labelOk_eq (l : List UInt8) : labelOk l = (l.all charOk && inB (l.length : Int) 1 40) := by
  unfold labelOk charOk inB
  rw [Bool.and_assoc]
  congr 1
  simp only [decide_eq_decide.2 (show 1 ≤ l.length ↔ (1 : Int) ≤ (l.length : Int) by omega), decide_eq_decide.2 (show l.length ≤ 40 ↔ (l.length : Int) ≤ 40 by omega), Bool.decide_and]
theorem charOk_at {l : List UInt8} {j : Nat} (h : j < l.length) : charOk l[j] = (decide (32 ≤ at8 l j) && decide (at8 l j ≤ 126)) := by
  rw [at8_get h]
  unfold charOk
  simp only [decide_eq_decide.2 (show 32 ≤ l[j].toNat ↔ (32 : Int) ≤ (l[j].toNat : Int) by omega), decide_eq_decide.2 (show l[j].toNat ≤ 126 ↔ (l[j].toNat : Int) ≤ 126 by omega)]
theorem all_take_succ {l : List UInt8} {j : Nat} (h : j < l.length) : (l.take (j + 1)).all charOk = ((l.take j).all charOk && charOk l[j]) := by
  rw [List.take_succ_eq_append_getElem h, List.all_append]
  simp
theorem all_of_take {l : List UInt8} {j : Nat} (h : j < l.length) (hb : charOk l[j] = false) : l.all charOk = false := by
  rw [List.all_eq_false]
  exact ⟨l[j], List.getElem_mem h, by simp [hb]⟩


/-- The code of a label, a context and a number. -/
def labelC (l ctx : List UInt8) (n : Int) : Int := if labelOk l then (if ctx.length ≤ 100 then (if inB n 0 255 then 0 else 3) else 2) else 5


theorem tls13_str : (⟨#[116, 108, 115, 49, 51, 32]⟩ : ByteArray) = strB tls13 := rfl
theorem labelB_eq (l ctx : List UInt8) (n : Nat) : labelB l ctx n = putB n 2 ++ [UInt8.ofNat (6 + l.length)] ++ (tls13 ++ l) ++ [UInt8.ofNat ctx.length] ++ ctx := by simp [labelB]

set_option maxRecDepth 4000 in
set_option maxHeartbeats 1000000 in
theorem l3LabelBytes_c (l : List UInt8) (p : Option Addr) (q : Nat) (ctx : List UInt8) (n : Nat) (w : World) (hr : Rd w p q ctx) (hl : l.length ≤ 40) (hl2 : ctx.length ≤ 100) (hn : n ≤ 255) :
    Calls Tryz.prog 184 #[.string (strB l), .slice p ctx.length q, .int .i64 (n : Int)] w fun e w' => ∃ u, e = .returned u ∧ Own w' w.heap.size u (labelB l ctx n) ∧ Below w.heap.size w w' := by
  have HR : Hid (Rd w p q ctx) := hr
  clear hr
  have ha := run_add (P := Tryz.prog) tls13 l (by simp [tls13]; omega)
  rw [← tls13_str] at ha
  have hlf : Hid ((tls13 ++ l).length = 6 + l.length) := by show _ = _; simp [tls13]; omega
  have hfs : (strB (tls13 ++ l)).size = 6 + l.length := by rw [strB_size, hlf.out]
  have hb := run_bytes (P := Tryz.prog) (src := 9) (dst := 22) Tryz.underlying9 Tryz.underlying22 Tryz.underlying5 (tls13 ++ l)
  have HE : Hid (labelB l ctx n = putB n 2 ++ [UInt8.ofNat (6 + l.length)] ++ (tls13 ++ l) ++ [UInt8.ofNat ctx.length] ++ ctx) := labelB_eq l ctx n
  have hv1 : Hid ((6 : Int) + (l.length : Int) = ((UInt8.ofNat (6 + l.length)).toNat : Int)) := by show _ = _; rw [UInt8.toNat_ofNat', Nat.mod_eq_of_lt (by omega)]; omega
  have hv2 : Hid ((ctx.length : Int) = ((UInt8.ofNat ctx.length).toNat : Int)) := by show _ = _; rw [UInt8.toNat_ofNat', Nat.mod_eq_of_lt (by omega)]
  generalize tls13 ++ l = f at *
  go_enter Tryz.func184, Tryz.ntmps184
  go_wp2_with fail
  refine (l1Put_i _ 2 _ (by omega) (by omega) (by decide) (by decide)).mono ?_
  rintro e w1 ⟨u1, rfl, k1, hb1⟩
  rw [Int.toNat_natCast, show (2 : Int).toNat = 2 from rfl] at k1
  obtain ⟨p1, q1, rfl, -⟩ := k1.rd
  rw [putB_len] at k1 ⊢
  have BW := hb1
  have hfm : Hid (f.length ≤ 46) := by show _ ≤ _; rw [hlf.out]; omega
  have k1' := k1.stay (alloc_below w1 (.cells #[.int .u8 ((6 : Int) + (l.length : Int))] 5))
  clear hb1
  go_wp2_with (first
    | (at_builtin; refine wpList_append_rd rfl (.tmp 12) (.tmp 16) rfl w.heap.size _ (putB n 2) rfl k1' _ 1 [UInt8.ofNat (6 + l.length)] rfl (rd_one w1 _ _ _ hv1.out) (by simp [putB_len]) (by have := BW.size; simp; omega) ?_; intro v2 w2 k2 hg2; replace BW := (Below.mk BW (.cells #[.int .u8 ((6 : Int) + (l.length : Int))] 5)).grown hg2 (by have := BW.size; simp; omega) (fun k hk => k1.ge k hk); clear hg2 k1 k1')
    | (at_builtin; refine wpList_append_rd rfl (.tmp 18) (.tmp 20) rfl w.heap.size _ (putB n 2 ++ [UInt8.ofNat (6 + l.length)]) rfl (k2.stay (bytesW_below w2 f)) _ _ f rfl (bytesW_rd w2 f (by have := hfm.out; unfold maxLen; omega)) (by have := hfm.out; simp [putB_len]; omega) (Below.step BW (bytesW_below w2 f)).size ?_; intro v3 w3 k3 hg3; replace BW := (Below.step BW (bytesW_below w2 f)).grown hg3 (Below.step BW (bytesW_below w2 f)).size (fun k hk => k2.ge k hk); clear hg3 k2; have k3' := k3.stay (alloc_below w3 (.cells #[.int .u8 (ctx.length : Int)] 5)))
    | (at_builtin; refine wpList_append_rd rfl (.tmp 21) (.tmp 25) rfl w.heap.size _ (putB n 2 ++ [UInt8.ofNat (6 + l.length)] ++ f) rfl k3' _ 1 [UInt8.ofNat ctx.length] rfl (rd_one w3 _ _ _ hv2.out) (by have := hfm.out; simp [putB_len]; omega) (by have := BW.size; simp; omega) ?_; intro v4 w4 k4 hg4; replace BW := (Below.mk BW (.cells #[.int .u8 (ctx.length : Int)] 5)).grown hg4 (by have := BW.size; simp; omega) (fun k hk => k3.ge k hk); clear hg4 k3 k3')
    | (at_builtin; refine wpList_append_rd rfl (.tmp 27) (.tmp 28) rfl w.heap.size _ (putB n 2 ++ [UInt8.ofNat (6 + l.length)] ++ f ++ [UInt8.ofNat ctx.length]) rfl k4 p q ctx rfl (HR.out.keep BW) (by have := hfm.out; simp [putB_len]; omega) BW.size ?_; intro v5 w5 k5 hg5; replace BW := BW.grown hg5 BW.size (fun k hk => k4.ge k hk); clear hg5 k4))
  go_ret
  exact ⟨_, rfl, by rw [HE.out]; exact k5, BW⟩

def expLabN (key l ctx : List UInt8) (n : Nat) : List UInt8 := expandN key (labelB l ctx n) n
def deriveN (key l data : List UInt8) : List UInt8 := expLabN key l (digestN data) 32
theorem labelOk_len {l : List UInt8} (h : labelOk l = true) : l.length ≤ 40 := by
  unfold labelOk at h
  simp only [Bool.and_eq_true, decide_eq_true_eq] at h
  exact h.2

set_option maxRecDepth 4000 in
set_option maxHeartbeats 1000000 in
theorem l3ExpandLabel_c (p p2 : Option Addr) (q q2 : Nat) (key l ctx : List UInt8) (n : Nat) (w : World) (hr : Rd w p q key) (hr2 : Rd w p2 q2 ctx) (hk : key.length ≤ 64) (hl : l.length ≤ 40) (hl2 : ctx.length ≤ 100) (hn : n ≤ 255) :
    Calls Tryz.prog 169 #[.slice p key.length q, .string (strB l), .slice p2 ctx.length q2, .int .i64 (n : Int)] w fun e w' => ∃ u, e = .returned u ∧ Own w' w.heap.size u (expLabN key l ctx n) ∧ Below w.heap.size w w' := by
  have HE : Hid (expLabN key l ctx n = expandN key (labelB l ctx n) n) := rfl
  go_enter Tryz.func169, Tryz.ntmps169
  go_wp2_with fail
  refine (l3LabelBytes_c l p2 q2 ctx n _ hr2 hl hl2 hn).mono ?_
  rintro e w1 ⟨u1, rfl, k1, hb1⟩
  obtain ⟨p1, q1, rfl, rd1⟩ := k1.rd
  have HB : Hid ((labelB l ctx n).length ≤ 400) := by show _ ≤ _; rw [labelB_len]; omega
  generalize labelB l ctx n = lb at *
  have hz := hb1.size
  clear k1
  go_wp2_with fail
  refine (l3Expand_c p p1 q q1 key lb n _ (hr.keep hb1) rd1 hk HB.out hn).mono ?_
  rintro e w2 ⟨u2, rfl, k2, hb2⟩
  go_wp2
  go_ret
  exact ⟨_, rfl, by rw [HE.out]; exact k2.lower hz, Below.step hb1 hb2⟩

set_option maxRecDepth 4000 in
set_option maxHeartbeats 1000000 in
theorem l3Derive_c (p p2 : Option Addr) (q q2 : Nat) (key l data : List UInt8) (w : World) (hr : Rd w p q key) (hr2 : Rd w p2 q2 data) (hk : key.length ≤ 64) (hl : l.length ≤ 40) (hl2 : data.length ≤ 600) :
    Calls Tryz.prog 170 #[.slice p key.length q, .string (strB l), .slice p2 data.length q2] w fun e w' => ∃ u, e = .returned u ∧ Own w' w.heap.size u (deriveN key l data) ∧ Below w.heap.size w w' := by
  have HE : Hid (deriveN key l data = expLabN key l (digestN data) 32) := rfl
  go_enter Tryz.func170, Tryz.ntmps170
  go_wp2_with fail
  refine (l2Digest_c p2 q2 data _ hr2 hl2).mono ?_
  rintro e w1 ⟨u1, rfl, k1, hb1⟩
  obtain ⟨p1, q1, rfl, rd1⟩ := k1.rd
  have HB : Hid ((digestN data).length = 32) := digestN_len data
  generalize digestN data = dg at *
  have hz := hb1.size
  clear k1
  go_wp2_with fail
  refine (l3ExpandLabel_c p p1 q q1 key l dg 32 _ (hr.keep hb1) rd1 hk hl (by rw [HB.out]; decide) (by decide)).mono ?_
  rintro e w2 ⟨u2, rfl, k2, hb2⟩
  go_wp2
  go_ret
  exact ⟨_, rfl, by rw [HE.out]; exact k2.lower hz, Below.step hb1 hb2⟩
end Go.Proofs.YtflhoefocjmihaaGreatDoor

/- The contracts of chapter 3's functions in the specification, at every argument: code and bytes. -/
namespace Go.Proofs.YtflhoefocjmihaaGreatDoor
open Go.ChangeShapes Go.WideShapes Go.ChangeAt Go.RowKit

def keyB (key : List UInt8) : Bool := decide (key.length ≤ 64)
def dataB (data : List UInt8) : Bool := decide (data.length ≤ 500)

def macOk (key data : List UInt8) : Bool := keyB key && dataB data
def macC (key data : List UInt8) : Int := if macOk key data then 0 else 2
def macL (key data : List UInt8) : List UInt8 := if macOk key data then macN key data else []
theorem macL_len (key data : List UInt8) : (macL key data).length ≤ 1048576 := by
  unfold macL; split
  · rw [macN_len]; decide
  · simp
def extL (salt data : List UInt8) : List UInt8 := if macOk salt data then extractN salt data else []
theorem extL_len (key data : List UInt8) : (extL key data).length ≤ 1048576 := by
  unfold extL; split
  · rw [extractN_len]; decide
  · simp



def infoB (info : List UInt8) : Bool := decide (info.length ≤ 300)
def expC (key info : List UInt8) (n : Int) : Int := if keyB key && infoB info then (if inB n 0 255 then 0 else 3) else 2
def expL (key info : List UInt8) (n : Int) : List UInt8 := if keyB key && infoB info && inB n 0 255 then expandN key info n.toNat else []
theorem nat255 {n : Int} (h : inB n 0 255 = true) : ∃ m : Nat, n = m ∧ m ≤ 255 := by
  simp [inB] at h
  exact ⟨n.toNat, by omega, by omega⟩
theorem expL_len (key info : List UInt8) (n : Int) : (expL key info n).length ≤ 1048576 := by
  unfold expL; split
  · rename_i h
    simp only [Bool.and_eq_true] at h
    obtain ⟨m, rfl, hm⟩ := nat255 h.2
    rw [expandN_len]; omega
  · simp
def labL (l ctx : List UInt8) (n : Int) : List UInt8 := if labelC l ctx n = 0 then labelB l ctx n.toNat else []
theorem labelC_zero {l ctx : List UInt8} {n : Int} (h : labelC l ctx n = 0) : labelOk l = true ∧ ctx.length ≤ 100 ∧ inB n 0 255 = true := by
  unfold labelC at h
  split at h
  · rename_i h1
    split at h
    · rename_i h2
      split at h
      · rename_i h3
        exact ⟨h1, h2, h3⟩
      · cases h
    · cases h
  · cases h
theorem labL_len (l ctx : List UInt8) (n : Int) : (labL l ctx n).length ≤ 1048576 := by
  unfold labL; split
  · rename_i h
    have h1 := labelOk_len (labelC_zero h).1
    have h2 := (labelC_zero h).2.1
    rw [labelB_len]; omega
  · simp
def elC (key l ctx : List UInt8) (n : Int) : Int := if keyB key then labelC l ctx n else 2
def elL (key l ctx : List UInt8) (n : Int) : List UInt8 := if elC key l ctx n = 0 then expLabN key l ctx n.toNat else []
theorem elC_zero {key l ctx : List UInt8} {n : Int} (h : elC key l ctx n = 0) : keyB key = true ∧ labelC l ctx n = 0 := by
  unfold elC at h
  split at h
  · rename_i h1
    exact ⟨h1, h⟩
  · cases h
theorem elL_len (key l ctx : List UInt8) (n : Int) : (elL key l ctx n).length ≤ 1048576 := by
  unfold elL; split
  · rename_i h
    obtain ⟨m, rfl, hm⟩ := nat255 (labelC_zero (elC_zero h).2).2.2
    rw [expLabN, expandN_len]; omega
  · simp
def dkC (key l data : List UInt8) : Int := if keyB key then (if labelOk l then (if dataB data then 0 else 2) else 5) else 2
def dkL (key l data : List UInt8) : List UInt8 := if keyB key && labelOk l && dataB data then deriveN key l data else []
theorem dkL_len (key l data : List UInt8) : (dkL key l data).length ≤ 1048576 := by
  unfold dkL; split
  · rw [deriveN, expLabN, expandN_len]; decide
  · simp

end Go.Proofs.YtflhoefocjmihaaGreatDoor

/- Chapter 7 as plain functions on bytes, with no program in it: the secrets of a schedule (earlyN, handN, masterN, trafN), what is exported (exportN), their lengths, the codes of the functions at every argument. No conditions but those in each line. -/
namespace Go.Proofs.YtflhoefocjmihaaGreatDoor
open Go.RowKit

def derivedB : List UInt8 := [100, 101, 114, 105, 118, 101, 100]
def exporterB : List UInt8 := [101, 120, 112, 111, 114, 116, 101, 114]
def cApB : List UInt8 := [99, 32, 97, 112, 32, 116, 114, 97, 102, 102, 105, 99]
def sApB : List UInt8 := [115, 32, 97, 112, 32, 116, 114, 97, 102, 102, 105, 99]
def expMB : List UInt8 := [101, 120, 112, 32, 109, 97, 115, 116, 101, 114]
def resMB : List UInt8 := [114, 101, 115, 32, 109, 97, 115, 116, 101, 114]
theorem derived_str : (⟨#[100, 101, 114, 105, 118, 101, 100]⟩ : ByteArray) = strB derivedB := rfl
theorem exporter_str : (⟨#[101, 120, 112, 111, 114, 116, 101, 114]⟩ : ByteArray) = strB exporterB := rfl
theorem cAp_str : (⟨#[99, 32, 97, 112, 32, 116, 114, 97, 102, 102, 105, 99]⟩ : ByteArray) = strB cApB := rfl
theorem sAp_str : (⟨#[115, 32, 97, 112, 32, 116, 114, 97, 102, 102, 105, 99]⟩ : ByteArray) = strB sApB := rfl
theorem expM_str : (⟨#[101, 120, 112, 32, 109, 97, 115, 116, 101, 114]⟩ : ByteArray) = strB expMB := rfl
theorem resM_str : (⟨#[114, 101, 115, 32, 109, 97, 115, 116, 101, 114]⟩ : ByteArray) = strB resMB := rfl

def pskN (psk : List UInt8) : List UInt8 := if psk.length = 0 then zs 32 else psk
def earlyN (psk : List UInt8) : List UInt8 := extractN [] (pskN psk)
def handN (early shared : List UInt8) : List UInt8 := extractN (deriveN early derivedB []) shared
def masterN (hand : List UInt8) : List UInt8 := extractN (deriveN hand derivedB []) (zs 32)
def trafN (secret l digest : List UInt8) : List UInt8 := expLabN secret l digest 32
def exportN (exporter l ctx : List UInt8) (n : Nat) : List UInt8 := expLabN (deriveN exporter l []) exporterB (digestN ctx) n
theorem earlyN_len (psk : List UInt8) : (earlyN psk).length = 32 := extractN_len _ _
theorem handN_len (early shared : List UInt8) : (handN early shared).length = 32 := extractN_len _ _
theorem masterN_len (hand : List UInt8) : (masterN hand).length = 32 := extractN_len _ _
theorem expLabN_len (key l ctx : List UInt8) (n : Nat) : (expLabN key l ctx n).length = n := expandN_len _ _ _
theorem trafN_len (secret l digest : List UInt8) : (trafN secret l digest).length = 32 := expLabN_len _ _ _ _
theorem deriveN_len (key l data : List UInt8) : (deriveN key l data).length = 32 := expLabN_len _ _ _ _
theorem exportN_len (exporter l ctx : List UInt8) (n : Nat) : (exportN exporter l ctx n).length = n := expLabN_len _ _ _ _

def is32 (s : List UInt8) : Bool := decide (s.length = 32)
def esC (psk : List UInt8) : Int := if psk.length ≤ 64 then 0 else 2
def esL (psk : List UInt8) : List UInt8 := if esC psk = 0 then earlyN psk else []
def hsC (early shared : List UInt8) : Int := if is32 early then (if shared.length ≤ 64 then 0 else 2) else 1
def hsL (early shared : List UInt8) : List UInt8 := if hsC early shared = 0 then handN early shared else []
def msC (hand : List UInt8) : Int := if is32 hand then 0 else 1
def msL (hand : List UInt8) : List UInt8 := if msC hand = 0 then masterN hand else []
def tfC (secret l digest : List UInt8) : Int := if is32 secret && is32 digest then (if labelOk l then 0 else 5) else 1
def tfL (secret l digest : List UInt8) : List UInt8 := if tfC secret l digest = 0 then trafN secret l digest else []
def scC (master digest : List UInt8) : Int := if is32 master && is32 digest then 0 else 1
def scL (master digest l : List UInt8) : List UInt8 := if scC master digest = 0 then trafN master l digest else []
def exC (exporter l ctx : List UInt8) (n : Int) : Int := if is32 exporter then labelC l ctx n else 1
def exL (exporter l ctx : List UInt8) (n : Int) : List UInt8 := if exC exporter l ctx n = 0 then exportN exporter l ctx n.toNat else []
theorem esL_len (psk : List UInt8) : (esL psk).length ≤ 1048576 := by unfold esL; split; rw [earlyN_len]; decide; simp
theorem hsL_len (early shared : List UInt8) : (hsL early shared).length ≤ 1048576 := by unfold hsL; split; rw [handN_len]; decide; simp
theorem msL_len (hand : List UInt8) : (msL hand).length ≤ 1048576 := by unfold msL; split; rw [masterN_len]; decide; simp
theorem tfL_len (secret l digest : List UInt8) : (tfL secret l digest).length ≤ 1048576 := by unfold tfL; split; rw [trafN_len]; decide; simp
theorem scL_len (master digest l : List UInt8) : (scL master digest l).length ≤ 32 := by unfold scL; split; rw [trafN_len]; exact Nat.le_refl _; simp
theorem labelC_bound {l ctx : List UInt8} {n : Int} (h : labelC l ctx n = 0) : labelOk l = true ∧ ctx.length ≤ 100 ∧ inB n 0 255 = true := labelC_zero h
theorem exC_zero {exporter l ctx : List UInt8} {n : Int} (h : exC exporter l ctx n = 0) : is32 exporter = true ∧ labelC l ctx n = 0 := by
  unfold exC at h
  split at h
  · rename_i h1; exact ⟨h1, h⟩
  · cases h
theorem exL_len (exporter l ctx : List UInt8) (n : Int) : (exL exporter l ctx n).length ≤ 1048576 := by
  unfold exL; split
  · rename_i h
    obtain ⟨m, rfl, hm⟩ := nat255 (labelC_zero (exC_zero h).2).2.2
    rw [exportN_len]; simp; omega
  · simp
end Go.Proofs.YtflhoefocjmihaaGreatDoor

