/- The contracts of chapter 3's functions in the specification, at every argument: code and bytes. -/
import Derived.Test.YtkhgimoopdnkbaaLabS
namespace Go.Proofs.Ytkhgimoopdnkbaa
open Go.ChangeShapes Go.WideShapes Go.ChangeAt Go.RowKit

def keyB (key : List UInt8) : Bool := decide (key.length ≤ 64)
def dataB (data : List UInt8) : Bool := decide (data.length ≤ 500)

def macOk (key data : List UInt8) : Bool := keyB key && dataB data
def macC (key data : List UInt8) : Int := if macOk key data then 0 else 2
def macL (key data : List UInt8) : List UInt8 := if macOk key data then macN key data else []
theorem macL_len (key data : List UInt8) : (macL key data).length ≤ 1048576 := by
  unfold macL; split
  · rw [macN_len]; decide
  · simp
def extL (salt data : List UInt8) : List UInt8 := if macOk salt data then extractN salt data else []
theorem extL_len (key data : List UInt8) : (extL key data).length ≤ 1048576 := by
  unfold extL; split
  · rw [extractN_len]; decide
  · simp



def infoB (info : List UInt8) : Bool := decide (info.length ≤ 300)
def expC (key info : List UInt8) (n : Int) : Int := if keyB key && infoB info then (if inB n 0 255 then 0 else 3) else 2
def expL (key info : List UInt8) (n : Int) : List UInt8 := if keyB key && infoB info && inB n 0 255 then expandN key info n.toNat else []
theorem nat255 {n : Int} (h : inB n 0 255 = true) : ∃ m : Nat, n = m ∧ m ≤ 255 := by
  simp [inB] at h
  exact ⟨n.toNat, by omega, by omega⟩
theorem expL_len (key info : List UInt8) (n : Int) : (expL key info n).length ≤ 1048576 := by
  unfold expL; split
  · rename_i h
    simp only [Bool.and_eq_true] at h
    obtain ⟨m, rfl, hm⟩ := nat255 h.2
    rw [expandN_len]; omega
  · simp
def labL (l ctx : List UInt8) (n : Int) : List UInt8 := if labelC l ctx n = 0 then labelB l ctx n.toNat else []
theorem labelC_zero {l ctx : List UInt8} {n : Int} (h : labelC l ctx n = 0) : labelOk l = true ∧ ctx.length ≤ 100 ∧ inB n 0 255 = true := by
  unfold labelC at h
  split at h
  · rename_i h1
    split at h
    · rename_i h2
      split at h
      · rename_i h3
        exact ⟨h1, h2, h3⟩
      · cases h
    · cases h
  · cases h
theorem labL_len (l ctx : List UInt8) (n : Int) : (labL l ctx n).length ≤ 1048576 := by
  unfold labL; split
  · rename_i h
    have h1 := labelOk_len (labelC_zero h).1
    have h2 := (labelC_zero h).2.1
    rw [labelB_len]; omega
  · simp
def elC (key l ctx : List UInt8) (n : Int) : Int := if keyB key then labelC l ctx n else 2
def elL (key l ctx : List UInt8) (n : Int) : List UInt8 := if elC key l ctx n = 0 then expLabN key l ctx n.toNat else []
theorem elC_zero {key l ctx : List UInt8} {n : Int} (h : elC key l ctx n = 0) : keyB key = true ∧ labelC l ctx n = 0 := by
  unfold elC at h
  split at h
  · rename_i h1
    exact ⟨h1, h⟩
  · cases h
theorem elL_len (key l ctx : List UInt8) (n : Int) : (elL key l ctx n).length ≤ 1048576 := by
  unfold elL; split
  · rename_i h
    obtain ⟨m, rfl, hm⟩ := nat255 (labelC_zero (elC_zero h).2).2.2
    rw [expLabN, expandN_len]; omega
  · simp
def dkC (key l data : List UInt8) : Int := if keyB key then (if labelOk l then (if dataB data then 0 else 2) else 5) else 2
def dkL (key l data : List UInt8) : List UInt8 := if keyB key && labelOk l && dataB data then deriveN key l data else []
theorem dkL_len (key l data : List UInt8) : (dkL key l data).length ≤ 1048576 := by
  unfold dkL; split
  · rw [deriveN, expLabN, expandN_len]; decide
  · simp

set_option maxRecDepth 4000 in
set_option maxHeartbeats 1000000 in
theorem specLab_s (p2 : Option Addr) (q2 : Nat) (l ctx : List UInt8) (n : Int) (w : World) (hr2 : Rd w p2 q2 ctx) (hl : l.length ≤ 1048576) :
    Calls Try.prog 4 #[.string (strB l), .slice p2 ctx.length q2, .int .i64 n] w fun e w' => ∃ u, e = .returned (.agg #[.int .i64 (labelC l ctx n), u]) ∧ Own w' w.heap.size u (labL l ctx n) ∧ Below w.heap.size w w' ∧ (labelC l ctx n ≠ 0 → u = .slice none 0 0) := by
  by_cases hc : labelC l ctx n = 0
  · obtain ⟨h1, h2, h3⟩ := labelC_zero hc
    have h40 := labelOk_len h1
    obtain ⟨m, rfl, hm⟩ := nat255 h3
    have hc0 : Hid (labelC l ctx (m : Int) = 0) := hc
    rw [show labL l ctx (m : Int) = labelB l ctx m by simp [labL, hc], hc]
    have K : Hid (∀ w, Rd w p2 q2 ctx → Calls Try.prog 13 #[.string (strB l), .slice p2 ctx.length q2, .int .i64 (m : Int)] w fun e w' => ∃ u, e = .returned u ∧ Own w' w.heap.size u (labelB l ctx m) ∧ Below w.heap.size w w') := fun w h => l3LabelBytes_c l p2 q2 ctx m w h h40 h2 hm
    clear h1 h3 hc
    go_enter Try.func4, Try.ntmps4
    go_wp2_with fail
    refine (l3LabelFault_c l p2 q2 ctx _ _ hl).mono ?_
    rintro e w' ⟨rfl, hw⟩
    subst hw
    rw [hc0.out]
    go_wp2_with fail
    refine (K.out _ (hr2.keep (alloc_below _ _))).mono ?_
    rintro e w1 ⟨u, rfl, ho, hb⟩
    obtain ⟨hd, hf⟩ := bcell hb
    rw [size_alloc] at hd hf ho
    obtain ⟨a, cap, rfl, -⟩ := ho.rd
    have hres := Below.res hb
    go_wp2
    refine bodyPost_ret (v := .agg #[.int .i64 0, .slice a (labelB l ctx m).length cap]) (by simp [results, Try.results4, go_sem, hd]) rfl ⟨_, rfl, ?_, (hres.setCell (Nat.le_refl _) _).setCell (Nat.le_refl _) _, fun h => absurd rfl h⟩
    exact ((ho.set (Nat.lt_succ_self _) _).set (Nat.lt_succ_self _) _).lower (Nat.le_succ _)
  · rw [show labL l ctx n = [] by simp [labL, hc]]
    have K : Hid (∀ w, Calls Try.prog 12 #[.string (strB l), .slice p2 ctx.length q2, .int .i64 n] w fun e w' => e = .returned (.int .i64 (labelC l ctx n)) ∧ w' = w) := fun w => l3LabelFault_c l p2 q2 ctx _ _ hl
    generalize labelC l ctx n = c at *
    have cz1 : (c != 0) = true := by rw [bne_iff_ne]; exact hc
    have hcc : Hid (c ≠ 0) := hc
    clear hc
    go_enter Try.func4, Try.ntmps4
    go_wp2_with fail
    refine (K.out _).mono ?_
    rintro e w' ⟨rfl, hw⟩
    subst hw
    go_wp2
    exact bodyPost_ret (v := .agg #[.int .i64 c, .slice none 0 0]) (by simp [results, Try.results4, go_sem]) rfl ⟨_, rfl, Own_nil _ _, alloc_below _ _, fun _ => rfl⟩
theorem specLab_c (p2 : Option Addr) (q2 : Nat) (l ctx : List UInt8) (n : Int) (w : World) (hr2 : Rd w p2 q2 ctx) (hl : l.length ≤ 1048576) :
    Calls Try.prog 4 #[.string (strB l), .slice p2 ctx.length q2, .int .i64 n] w fun e w' => ∃ u, e = .returned (.agg #[.int .i64 (labelC l ctx n), u]) ∧ Own w' w.heap.size u (labL l ctx n) ∧ Below w.heap.size w w' :=
  (specLab_s p2 q2 l ctx n w hr2 hl).mono fun _ _ ⟨u, h1, h2, h3, _⟩ => ⟨u, h1, h2, h3⟩
end Go.Proofs.Ytkhgimoopdnkbaa
