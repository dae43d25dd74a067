/- The contracts of chapter 3's functions in the specification, at every argument: code and bytes. -/
import Derived.Test.YtajefbaoncmieahDoorLabS
namespace Go.Proofs.YtajefbaoncmieahDoor
open Go.ChangeShapes Go.WideShapes Go.ChangeAt Go.RowKit

def keyB (key : List UInt8) : Bool := decide (key.length ≤ 64)
def dataB (data : List UInt8) : Bool := decide (data.length ≤ 500)
set_option maxRecDepth 4000 in
set_option maxHeartbeats 400000 in
theorem l3Key_c (p : Option Addr) (q : Nat) (key : List UInt8) (w : World) : Calls Tryd.prog 26 #[.slice p key.length q] w fun e w' => e = .returned (.bool (keyB key)) ∧ w' = w := by
  have h : keyB key = decide ((key.length : Int) ≤ 64) := by unfold keyB; exact decide_eq_decide.2 (by omega)
  rw [h]
  go_enter Tryd.func26, Tryd.ntmps26
  go_wp2
  go_ret
  exact ⟨rfl, rfl⟩
set_option maxRecDepth 4000 in
set_option maxHeartbeats 400000 in
theorem l3Data_c (p : Option Addr) (q : Nat) (data : List UInt8) (w : World) : Calls Tryd.prog 27 #[.slice p data.length q] w fun e w' => e = .returned (.bool (dataB data)) ∧ w' = w := by
  have h : dataB data = decide ((data.length : Int) ≤ 500) := by unfold dataB; exact decide_eq_decide.2 (by omega)
  rw [h]
  go_enter Tryd.func27, Tryd.ntmps27
  go_wp2
  go_ret
  exact ⟨rfl, rfl⟩

def macOk (key data : List UInt8) : Bool := keyB key && dataB data
def macC (key data : List UInt8) : Int := if macOk key data then 0 else 2
def macL (key data : List UInt8) : List UInt8 := if macOk key data then macN key data else []
theorem macL_len (key data : List UInt8) : (macL key data).length ≤ 1048576 := by
  unfold macL; split
  · rw [macN_len]; decide
  · simp
def extL (salt data : List UInt8) : List UInt8 := if macOk salt data then extractN salt data else []
theorem extL_len (key data : List UInt8) : (extL key data).length ≤ 1048576 := by
  unfold extL; split
  · rw [extractN_len]; decide
  · simp

set_option maxRecDepth 4000 in
set_option maxHeartbeats 1000000 in
theorem specMac_s (p p2 : Option Addr) (q q2 : Nat) (key data : List UInt8) (w : World) (hr : Rd w p q key) (hr2 : Rd w p2 q2 data) :
    Calls Tryd.prog 17 #[.slice p key.length q, .slice p2 data.length q2] w fun e w' => ∃ u, e = .returned (.agg #[.int .i64 (macC key data), u]) ∧ Own w' w.heap.size u (macL key data) ∧ Below w.heap.size w w' ∧ (macC key data ≠ 0 → u = .slice none 0 0) := by
  cases h1 : keyB key
  · rw [show macC key data = 2 by simp [macC, macOk, h1], show macL key data = [] by simp [macL, macOk, h1]]
    go_enter Tryd.func17, Tryd.ntmps17
    go_wp2_with fail
    refine (l3Key_c p q key _).mono ?_
    rintro e w' ⟨rfl, rfl⟩
    rw [h1]
    go_wp2
    exact bodyPost_ret (v := .agg #[.int .i64 2, .slice none 0 0]) (by simp [results, Tryd.results17, go_sem]) rfl ⟨_, rfl, Own_nil _ _, alloc_below _ _, fun _ => rfl⟩
  · cases h2 : dataB data
    · rw [show macC key data = 2 by simp [macC, macOk, h1, h2], show macL key data = [] by simp [macL, macOk, h1, h2]]
      go_enter Tryd.func17, Tryd.ntmps17
      go_wp2_with fail
      refine (l3Key_c p q key _).mono ?_
      rintro e w' ⟨rfl, rfl⟩
      rw [h1]
      go_wp2_with fail
      refine (l3Data_c p2 q2 data _).mono ?_
      rintro e w' ⟨rfl, rfl⟩
      rw [h2]
      go_wp2
      exact bodyPost_ret (v := .agg #[.int .i64 2, .slice none 0 0]) (by simp [results, Tryd.results17, go_sem]) rfl ⟨_, rfl, Own_nil _ _, alloc_below _ _, fun _ => rfl⟩
    · have l1 : key.length ≤ 64 := by simpa [keyB] using h1
      have l2 : data.length ≤ 500 := by simpa [dataB] using h2
      rw [show macC key data = 0 by simp [macC, macOk, h1, h2], show macL key data = macN key data by simp [macL, macOk, h1, h2]]
      have hL : Hid ((macN key data).length = 32) := macN_len key data
      have K : Hid (∀ w, Rd w p q key → Rd w p2 q2 data → Calls Tryd.prog 28 #[.slice p key.length q, .slice p2 data.length q2] w fun e w' => ∃ u, e = .returned u ∧ Own w' w.heap.size u (macN key data) ∧ Below w.heap.size w w') := fun w h h' => l3Mac_c p p2 q q2 key data w h h' l1 (by omega)
      clear l1 l2
      go_enter Tryd.func17, Tryd.ntmps17
      go_wp2_with fail
      refine (l3Key_c p q key _).mono ?_
      rintro e w' ⟨rfl, hw⟩
      subst hw
      rw [h1]
      go_wp2_with fail
      refine (l3Data_c p2 q2 data _).mono ?_
      rintro e w' ⟨rfl, hw⟩
      subst hw
      rw [h2]
      go_wp2_with fail
      refine (K.out _ (hr.keep (alloc_below _ _)) (hr2.keep (alloc_below _ _))).mono ?_
      rintro e w1 ⟨u, rfl, ho, hb⟩
      obtain ⟨hc, hf⟩ := bcell hb
      rw [size_alloc] at hc hf ho
      obtain ⟨a, cap, rfl, -⟩ := ho.rd
      rw [hL.out] at ho ⊢
      have hres := Below.res hb
      go_wp2
      refine bodyPost_ret (v := .agg #[.int .i64 0, .slice a 32 cap]) (by simp [results, Tryd.results17, go_sem, hc]) rfl ⟨_, rfl, ?_, (hres.setCell (Nat.le_refl _) _).setCell (Nat.le_refl _) _, fun h => absurd rfl h⟩
      exact ((ho.set (Nat.lt_succ_self _) _).set (Nat.lt_succ_self _) _).lower (Nat.le_succ _)


def infoB (info : List UInt8) : Bool := decide (info.length ≤ 300)
def expC (key info : List UInt8) (n : Int) : Int := if keyB key && infoB info then (if inB n 0 255 then 0 else 3) else 2
def expL (key info : List UInt8) (n : Int) : List UInt8 := if keyB key && infoB info && inB n 0 255 then expandN key info n.toNat else []
theorem nat255 {n : Int} (h : inB n 0 255 = true) : ∃ m : Nat, n = m ∧ m ≤ 255 := by
  simp [inB] at h
  exact ⟨n.toNat, by omega, by omega⟩
theorem expL_len (key info : List UInt8) (n : Int) : (expL key info n).length ≤ 1048576 := by
  unfold expL; split
  · rename_i h
    simp only [Bool.and_eq_true] at h
    obtain ⟨m, rfl, hm⟩ := nat255 h.2
    rw [expandN_len]; omega
  · simp
def labL (l ctx : List UInt8) (n : Int) : List UInt8 := if labelC l ctx n = 0 then labelB l ctx n.toNat else []
theorem labelC_zero {l ctx : List UInt8} {n : Int} (h : labelC l ctx n = 0) : labelOk l = true ∧ ctx.length ≤ 100 ∧ inB n 0 255 = true := by
  unfold labelC at h
  split at h
  · rename_i h1
    split at h
    · rename_i h2
      split at h
      · rename_i h3
        exact ⟨h1, h2, h3⟩
      · cases h
    · cases h
  · cases h
theorem labL_len (l ctx : List UInt8) (n : Int) : (labL l ctx n).length ≤ 1048576 := by
  unfold labL; split
  · rename_i h
    have h1 := labelOk_len (labelC_zero h).1
    have h2 := (labelC_zero h).2.1
    rw [labelB_len]; omega
  · simp
def elC (key l ctx : List UInt8) (n : Int) : Int := if keyB key then labelC l ctx n else 2
def elL (key l ctx : List UInt8) (n : Int) : List UInt8 := if elC key l ctx n = 0 then expLabN key l ctx n.toNat else []
theorem elC_zero {key l ctx : List UInt8} {n : Int} (h : elC key l ctx n = 0) : keyB key = true ∧ labelC l ctx n = 0 := by
  unfold elC at h
  split at h
  · rename_i h1
    exact ⟨h1, h⟩
  · cases h
theorem elL_len (key l ctx : List UInt8) (n : Int) : (elL key l ctx n).length ≤ 1048576 := by
  unfold elL; split
  · rename_i h
    obtain ⟨m, rfl, hm⟩ := nat255 (labelC_zero (elC_zero h).2).2.2
    rw [expLabN, expandN_len]; omega
  · simp
def dkC (key l data : List UInt8) : Int := if keyB key then (if labelOk l then (if dataB data then 0 else 2) else 5) else 2
def dkL (key l data : List UInt8) : List UInt8 := if keyB key && labelOk l && dataB data then deriveN key l data else []
theorem dkL_len (key l data : List UInt8) : (dkL key l data).length ≤ 1048576 := by
  unfold dkL; split
  · rw [deriveN, expLabN, expandN_len]; decide
  · simp

theorem specMac_c (p p2 : Option Addr) (q q2 : Nat) (key data : List UInt8) (w : World) (hr : Rd w p q key) (hr2 : Rd w p2 q2 data) :
    Calls Tryd.prog 17 #[.slice p key.length q, .slice p2 data.length q2] w fun e w' => ∃ u, e = .returned (.agg #[.int .i64 (macC key data), u]) ∧ Own w' w.heap.size u (macL key data) ∧ Below w.heap.size w w' :=
  (specMac_s p p2 q q2 key data w hr hr2).mono fun _ _ ⟨u, h1, h2, h3, _⟩ => ⟨u, h1, h2, h3⟩
end Go.Proofs.YtajefbaoncmieahDoor
