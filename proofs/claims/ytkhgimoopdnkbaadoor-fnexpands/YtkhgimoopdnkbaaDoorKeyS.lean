/- The contracts of chapter 3's functions in the specification, at every argument: code and bytes. -/
import Derived.Test.YtkhgimoopdnkbaaDoorLabS
namespace Go.Proofs.YtkhgimoopdnkbaaDoor
open Go.ChangeShapes Go.WideShapes Go.ChangeAt Go.RowKit

def keyB (key : List UInt8) : Bool := decide (key.length ≤ 64)
def dataB (data : List UInt8) : Bool := decide (data.length ≤ 500)
set_option maxRecDepth 4000 in
set_option maxHeartbeats 400000 in
theorem l3Key_c (p : Option Addr) (q : Nat) (key : List UInt8) (w : World) : Calls Tryd.prog 34 #[.slice p key.length q] w fun e w' => e = .returned (.bool (keyB key)) ∧ w' = w := by
  have h : keyB key = decide ((key.length : Int) ≤ 64) := by unfold keyB; exact decide_eq_decide.2 (by omega)
  rw [h]
  go_enter Tryd.func34, Tryd.ntmps34
  go_wp2
  go_ret
  exact ⟨rfl, rfl⟩
set_option maxRecDepth 4000 in
set_option maxHeartbeats 400000 in
theorem l3Data_c (p : Option Addr) (q : Nat) (data : List UInt8) (w : World) : Calls Tryd.prog 50 #[.slice p data.length q] w fun e w' => e = .returned (.bool (dataB data)) ∧ w' = w := by
  have h : dataB data = decide ((data.length : Int) ≤ 500) := by unfold dataB; exact decide_eq_decide.2 (by omega)
  rw [h]
  go_enter Tryd.func50, Tryd.ntmps50
  go_wp2
  go_ret
  exact ⟨rfl, rfl⟩

def macOk (key data : List UInt8) : Bool := keyB key && dataB data
def macC (key data : List UInt8) : Int := if macOk key data then 0 else 2
def macL (key data : List UInt8) : List UInt8 := if macOk key data then macN key data else []
theorem macL_len (key data : List UInt8) : (macL key data).length ≤ 1048576 := by
  unfold macL; split
  · rw [macN_len]; decide
  · simp
def extL (salt data : List UInt8) : List UInt8 := if macOk salt data then extractN salt data else []
theorem extL_len (key data : List UInt8) : (extL key data).length ≤ 1048576 := by
  unfold extL; split
  · rw [extractN_len]; decide
  · simp



def infoB (info : List UInt8) : Bool := decide (info.length ≤ 300)
def expC (key info : List UInt8) (n : Int) : Int := if keyB key && infoB info then (if inB n 0 255 then 0 else 3) else 2
def expL (key info : List UInt8) (n : Int) : List UInt8 := if keyB key && infoB info && inB n 0 255 then expandN key info n.toNat else []
theorem nat255 {n : Int} (h : inB n 0 255 = true) : ∃ m : Nat, n = m ∧ m ≤ 255 := by
  simp [inB] at h
  exact ⟨n.toNat, by omega, by omega⟩
theorem expL_len (key info : List UInt8) (n : Int) : (expL key info n).length ≤ 1048576 := by
  unfold expL; split
  · rename_i h
    simp only [Bool.and_eq_true] at h
    obtain ⟨m, rfl, hm⟩ := nat255 h.2
    rw [expandN_len]; omega
  · simp
def labL (l ctx : List UInt8) (n : Int) : List UInt8 := if labelC l ctx n = 0 then labelB l ctx n.toNat else []
theorem labelC_zero {l ctx : List UInt8} {n : Int} (h : labelC l ctx n = 0) : labelOk l = true ∧ ctx.length ≤ 100 ∧ inB n 0 255 = true := by
  unfold labelC at h
  split at h
  · rename_i h1
    split at h
    · rename_i h2
      split at h
      · rename_i h3
        exact ⟨h1, h2, h3⟩
      · cases h
    · cases h
  · cases h
theorem labL_len (l ctx : List UInt8) (n : Int) : (labL l ctx n).length ≤ 1048576 := by
  unfold labL; split
  · rename_i h
    have h1 := labelOk_len (labelC_zero h).1
    have h2 := (labelC_zero h).2.1
    rw [labelB_len]; omega
  · simp
def elC (key l ctx : List UInt8) (n : Int) : Int := if keyB key then labelC l ctx n else 2
def elL (key l ctx : List UInt8) (n : Int) : List UInt8 := if elC key l ctx n = 0 then expLabN key l ctx n.toNat else []
theorem elC_zero {key l ctx : List UInt8} {n : Int} (h : elC key l ctx n = 0) : keyB key = true ∧ labelC l ctx n = 0 := by
  unfold elC at h
  split at h
  · rename_i h1
    exact ⟨h1, h⟩
  · cases h
theorem elL_len (key l ctx : List UInt8) (n : Int) : (elL key l ctx n).length ≤ 1048576 := by
  unfold elL; split
  · rename_i h
    obtain ⟨m, rfl, hm⟩ := nat255 (labelC_zero (elC_zero h).2).2.2
    rw [expLabN, expandN_len]; omega
  · simp
def dkC (key l data : List UInt8) : Int := if keyB key then (if labelOk l then (if dataB data then 0 else 2) else 5) else 2
def dkL (key l data : List UInt8) : List UInt8 := if keyB key && labelOk l && dataB data then deriveN key l data else []
theorem dkL_len (key l data : List UInt8) : (dkL key l data).length ≤ 1048576 := by
  unfold dkL; split
  · rw [deriveN, expLabN, expandN_len]; decide
  · simp

set_option maxRecDepth 4000 in
set_option maxHeartbeats 1000000 in
theorem specExpL_s (p p2 : Option Addr) (q q2 : Nat) (key l ctx : List UInt8) (n : Int) (w : World) (hr : Rd w p q key) (hr2 : Rd w p2 q2 ctx) (hl : l.length ≤ 1048576) :
    Calls Tryd.prog 11 #[.slice p key.length q, .string (strB l), .slice p2 ctx.length q2, .int .i64 n] w fun e w' => ∃ u, e = .returned (.agg #[.int .i64 (elC key l ctx n), u]) ∧ Own w' w.heap.size u (elL key l ctx n) ∧ Below w.heap.size w w' ∧ (elC key l ctx n ≠ 0 → u = .slice none 0 0) := by
  cases hk : keyB key
  · rw [show elC key l ctx n = 2 by simp [elC, hk], show elL key l ctx n = [] by simp [elL, elC, hk]]
    go_enter Tryd.func11, Tryd.ntmps11
    go_wp2_with fail
    refine (l3Key_c p q key _).mono ?_
    rintro e w' ⟨rfl, hw⟩
    subst hw
    rw [hk]
    go_wp2
    exact bodyPost_ret (v := .agg #[.int .i64 2, .slice none 0 0]) (by simp [results, Tryd.results11, go_sem]) rfl ⟨_, rfl, Own_nil _ _, alloc_below _ _, fun _ => rfl⟩
  · skip
    by_cases hc : labelC l ctx n = 0
    · obtain ⟨h1, h2, h3⟩ := labelC_zero hc
      have h40 := labelOk_len h1
      obtain ⟨m, rfl, hm⟩ := nat255 h3
      have hc0 : Hid (labelC l ctx (m : Int) = 0) := hc
      rw [show elC key l ctx (m : Int) = 0 by simp [elC, hk, hc], show elL key l ctx (m : Int) = expLabN key l ctx m by simp [elL, elC, hk, hc]]
      have K : Hid (∀ w, Rd w p q key → Rd w p2 q2 ctx → Calls Tryd.prog 36 #[.slice p key.length q, .string (strB l), .slice p2 ctx.length q2, .int .i64 (m : Int)] w fun e w' => ∃ u, e = .returned u ∧ Own w' w.heap.size u (expLabN key l ctx m) ∧ Below w.heap.size w w') := fun w h h' => l3ExpandLabel_c p p2 q q2 key l ctx m w h h' (by simpa [keyB] using hk) h40 h2 hm
      clear h1 h3 hc
      go_enter Tryd.func11, Tryd.ntmps11
      go_wp2_with fail
      refine (l3Key_c p q key _).mono ?_
      rintro e w' ⟨rfl, hw⟩
      subst hw
      rw [hk]
      go_wp2_with fail
      refine (l3LabelFault_c l p2 q2 ctx _ _ hl).mono ?_
      rintro e w' ⟨rfl, hw⟩
      subst hw
      rw [hc0.out]
      go_wp2_with fail
      refine (K.out _ (hr.keep (alloc_below _ _)) (hr2.keep (alloc_below _ _))).mono ?_
      rintro e w1 ⟨u, rfl, ho, hb⟩
      obtain ⟨hd, hf⟩ := bcell hb
      rw [size_alloc] at hd hf ho
      obtain ⟨a, cap, rfl, -⟩ := ho.rd
      have hres := Below.res hb
      go_wp2
      refine bodyPost_ret (v := .agg #[.int .i64 0, .slice a (expLabN key l ctx m).length cap]) (by simp [results, Tryd.results11, go_sem, hd]) rfl ⟨_, rfl, ?_, (hres.setCell (Nat.le_refl _) _).setCell (Nat.le_refl _) _, fun h => absurd rfl h⟩
      exact ((ho.set (Nat.lt_succ_self _) _).set (Nat.lt_succ_self _) _).lower (Nat.le_succ _)
    · rw [show elC key l ctx n = labelC l ctx n by simp [elC, hk], show elL key l ctx n = [] by simp [elL, elC, hk, hc]]
      have K : Hid (∀ w, Calls Tryd.prog 35 #[.string (strB l), .slice p2 ctx.length q2, .int .i64 n] w fun e w' => e = .returned (.int .i64 (labelC l ctx n)) ∧ w' = w) := fun w => l3LabelFault_c l p2 q2 ctx _ _ hl
      generalize labelC l ctx n = c at *
      have cz1 : (c != 0) = true := by rw [bne_iff_ne]; exact hc
      have hcc : Hid (c ≠ 0) := hc
      clear hc
      go_enter Tryd.func11, Tryd.ntmps11
      go_wp2_with fail
      refine (l3Key_c p q key _).mono ?_
      rintro e w' ⟨rfl, hw⟩
      subst hw
      rw [hk]
      go_wp2_with fail
      refine (K.out _).mono ?_
      rintro e w' ⟨rfl, hw⟩
      subst hw
      go_wp2
      exact bodyPost_ret (v := .agg #[.int .i64 c, .slice none 0 0]) (by simp [results, Tryd.results11, go_sem]) rfl ⟨_, rfl, Own_nil _ _, alloc_below _ _, fun _ => rfl⟩
set_option maxRecDepth 4000 in
set_option maxHeartbeats 1000000 in
theorem specDer_s (p p2 : Option Addr) (q q2 : Nat) (key l data : List UInt8) (w : World) (hl : l.length ≤ 1048576) (hr : Rd w p q key) (hr2 : Rd w p2 q2 data) :
    Calls Tryd.prog 28 #[.slice p key.length q, .string (strB l), .slice p2 data.length q2] w fun e w' => ∃ u, e = .returned (.agg #[.int .i64 (dkC key l data), u]) ∧ Own w' w.heap.size u (dkL key l data) ∧ Below w.heap.size w w' ∧ (dkC key l data ≠ 0 → u = .slice none 0 0) := by
  cases h1 : keyB key
  · rw [show dkC key l data = 2 by simp [dkC, h1], show dkL key l data = [] by simp [dkL, h1]]
    go_enter Tryd.func28, Tryd.ntmps28
    go_wp2_with fail
    refine (l3Key_c p q key _).mono ?_
    rintro e w' ⟨rfl, rfl⟩
    rw [h1]
    go_wp2
    exact bodyPost_ret (v := .agg #[.int .i64 2, .slice none 0 0]) (by simp [results, Tryd.results28, go_sem]) rfl ⟨_, rfl, Own_nil _ _, alloc_below _ _, fun _ => rfl⟩
  · skip
    cases h2 : labelOk l
    · rw [show dkC key l data = 5 by simp [dkC, h1, h2], show dkL key l data = [] by simp [dkL, h1, h2]]
      go_enter Tryd.func28, Tryd.ntmps28
      go_wp2_with fail
      refine (l3Key_c p q key _).mono ?_
      rintro e w' ⟨rfl, rfl⟩
      rw [h1]
      go_wp2_with fail
      refine (l3Label_c l _ hl).mono ?_
      rintro e w' ⟨rfl, rfl⟩
      rw [h2]
      go_wp2
      exact bodyPost_ret (v := .agg #[.int .i64 5, .slice none 0 0]) (by simp [results, Tryd.results28, go_sem]) rfl ⟨_, rfl, Own_nil _ _, alloc_below _ _, fun _ => rfl⟩
    · skip
      cases h3 : dataB data
      · rw [show dkC key l data = 2 by simp [dkC, h1, h2, h3], show dkL key l data = [] by simp [dkL, h1, h2, h3]]
        go_enter Tryd.func28, Tryd.ntmps28
        go_wp2_with fail
        refine (l3Key_c p q key _).mono ?_
        rintro e w' ⟨rfl, rfl⟩
        rw [h1]
        go_wp2_with fail
        refine (l3Label_c l _ hl).mono ?_
        rintro e w' ⟨rfl, rfl⟩
        rw [h2]
        go_wp2_with fail
        refine (l3Data_c p2 q2 data _).mono ?_
        rintro e w' ⟨rfl, rfl⟩
        rw [h3]
        go_wp2
        exact bodyPost_ret (v := .agg #[.int .i64 2, .slice none 0 0]) (by simp [results, Tryd.results28, go_sem]) rfl ⟨_, rfl, Own_nil _ _, alloc_below _ _, fun _ => rfl⟩
      · skip
        have l1 : key.length ≤ 64 := by simpa [keyB] using h1
        have l2 : data.length ≤ 500 := by simpa [dataB] using h3
        have h40 := labelOk_len h2
        rw [show dkC key l data = 0 by simp [dkC, h1, h2, h3], show dkL key l data = deriveN key l data by simp [dkL, h1, h2, h3]]
        have K : Hid (∀ w, Rd w p q key → Rd w p2 q2 data → Calls Tryd.prog 51 #[.slice p key.length q, .string (strB l), .slice p2 data.length q2] w fun e w' => ∃ u, e = .returned u ∧ Own w' w.heap.size u (deriveN key l data) ∧ Below w.heap.size w w') := fun w h h' => l3Derive_c p p2 q q2 key l data w h h' l1 h40 (by omega)
        go_enter Tryd.func28, Tryd.ntmps28
        go_wp2_with fail
        refine (l3Key_c p q key _).mono ?_
        rintro e w' ⟨rfl, hw⟩
        subst hw
        rw [h1]
        go_wp2_with fail
        refine (l3Label_c l _ hl).mono ?_
        rintro e w' ⟨rfl, hw⟩
        subst hw
        rw [h2]
        go_wp2_with fail
        refine (l3Data_c p2 q2 data _).mono ?_
        rintro e w' ⟨rfl, hw⟩
        subst hw
        rw [h3]
        go_wp2_with fail
        refine (K.out _ (hr.keep (alloc_below _ _)) (hr2.keep (alloc_below _ _))).mono ?_
        rintro e w1 ⟨u, rfl, ho, hb⟩
        obtain ⟨hc, hf⟩ := bcell hb
        rw [size_alloc] at hc hf ho
        obtain ⟨a, cap, rfl, -⟩ := ho.rd
        have hres := Below.res hb
        go_wp2
        refine bodyPost_ret (v := .agg #[.int .i64 0, .slice a (deriveN key l data).length cap]) (by simp [results, Tryd.results28, go_sem, hc]) rfl ⟨_, rfl, ?_, (hres.setCell (Nat.le_refl _) _).setCell (Nat.le_refl _) _, fun h => absurd rfl h⟩
        exact ((ho.set (Nat.lt_succ_self _) _).set (Nat.lt_succ_self _) _).lower (Nat.le_succ _)
theorem specExpL_c (p p2 : Option Addr) (q q2 : Nat) (key l ctx : List UInt8) (n : Int) (w : World) (hr : Rd w p q key) (hr2 : Rd w p2 q2 ctx) (hl : l.length ≤ 1048576) :
    Calls Tryd.prog 11 #[.slice p key.length q, .string (strB l), .slice p2 ctx.length q2, .int .i64 n] w fun e w' => ∃ u, e = .returned (.agg #[.int .i64 (elC key l ctx n), u]) ∧ Own w' w.heap.size u (elL key l ctx n) ∧ Below w.heap.size w w' :=
  (specExpL_s p p2 q q2 key l ctx n w hr hr2 hl).mono fun _ _ ⟨u, h1, h2, h3, _⟩ => ⟨u, h1, h2, h3⟩
theorem specDer_c (p p2 : Option Addr) (q q2 : Nat) (key l data : List UInt8) (w : World) (hr : Rd w p q key) (hr2 : Rd w p2 q2 data) (hl : l.length ≤ 1048576) :
    Calls Tryd.prog 28 #[.slice p key.length q, .string (strB l), .slice p2 data.length q2] w fun e w' => ∃ u, e = .returned (.agg #[.int .i64 (dkC key l data), u]) ∧ Own w' w.heap.size u (dkL key l data) ∧ Below w.heap.size w w' :=
  (specDer_s p p2 q q2 key l data w hl hr hr2).mono fun _ _ ⟨u, h1, h2, h3, _⟩ => ⟨u, h1, h2, h3⟩
end Go.Proofs.YtkhgimoopdnkbaaDoor
