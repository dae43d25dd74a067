/- The contracts of chapter 5's functions in the specification, at every argument: TagOf, SealBytes, OpenBytes: code and bytes. -/
import Derived.Test.YtpcgpefefklfoaaDoorSealS
namespace Go.Proofs.YtpcgpefefklfoaaDoor
open Go.ChangeShapes Go.WideShapes Go.ChangeAt Go.RowKit

def tgC (key nonce extra sealed : List UInt8) : Int := if sealC key nonce extra = 0 then (if sealed.length ≤ 220 then 0 else 2) else sealC key nonce extra
def tgL (key nonce extra sealed : List UInt8) : List UInt8 := if tgC key nonce extra sealed = 0 then tagN key nonce extra sealed else []
def slL (key nonce extra plain : List UInt8) : List UInt8 := if tgC key nonce extra plain = 0 then sealN key nonce extra plain else []
def opC (key nonce extra sealed : List UInt8) : Int := if sealC key nonce extra = 0 then openC key nonce extra sealed else sealC key nonce extra
def opL (key nonce extra sealed : List UInt8) : List UInt8 := if opC key nonce extra sealed = 0 then openL key nonce extra sealed else []
theorem tgC_zero {key nonce extra sealed : List UInt8} (h : tgC key nonce extra sealed = 0) : sealC key nonce extra = 0 ∧ sealed.length ≤ 220 := by
  unfold tgC at h
  split at h
  · rename_i h1
    split at h
    · rename_i h2
      exact ⟨h1, h2⟩
    · cases h
  · rename_i h1
    exact absurd h h1
theorem opC_zero {key nonce extra sealed : List UInt8} (h : opC key nonce extra sealed = 0) : sealC key nonce extra = 0 ∧ openC key nonce extra sealed = 0 := by
  unfold opC at h
  split at h
  · rename_i h1
    exact ⟨h1, h⟩
  · rename_i h1
    exact absurd h h1
theorem tgL_len (key nonce extra sealed : List UInt8) : (tgL key nonce extra sealed).length ≤ 1048576 := by
  unfold tgL; split
  · rw [tagN_len]; decide
  · simp
theorem slL_len (key nonce extra plain : List UInt8) : (slL key nonce extra plain).length ≤ 1048576 := by
  unfold slL; split
  · rename_i h
    have := (tgC_zero h).2
    rw [sealN_len]; omega
  · simp
theorem opL_len (key nonce extra sealed : List UInt8) : (opL key nonce extra sealed).length ≤ 1048576 := by
  unfold opL; split
  · exact openL_len _ _ _ _
  · simp

set_option maxRecDepth 4000 in
set_option maxHeartbeats 1000000 in
theorem specTg_s (p p2 p3 p4 : Option Addr) (q q2 q3 q4 : Nat) (key nonce extra data : List UInt8) (w : World) (hr : Rd w p q key) (hr2 : Rd w p2 q2 nonce) (hr3 : Rd w p3 q3 extra) (hr4 : Rd w p4 q4 data) :
    Calls Tryd.prog 30 #[.slice p key.length q, .slice p2 nonce.length q2, .slice p3 extra.length q3, .slice p4 data.length q4] w fun e w' => ∃ u, e = .returned (.agg #[.int .i64 (tgC key nonce extra data), u]) ∧ Own w' w.heap.size u (tgL key nonce extra data) ∧ Below w.heap.size w w' ∧ (tgC key nonce extra data ≠ 0 → u = .slice none 0 0) := by
  have K0 := l5Fault_c p p2 p3 q q2 q3 key nonce extra
  by_cases hc : sealC key nonce extra = 0
  · rw [hc] at K0
    obtain ⟨h1, h2, h3, -⟩ := sealC_zero hc
    by_cases hd : data.length ≤ 220
    · have hs : tgC key nonce extra data = 0 := by simp [tgC, hc, hd]
      rw [show tgL key nonce extra data = tagN key nonce extra data by simp [tgL, hs], hs]
      have K : Hid (∀ w, Rd w p q key → Rd w p2 q2 nonce → Rd w p3 q3 extra → Rd w p4 q4 data → Calls Tryd.prog 54 #[.slice p key.length q, .slice p2 nonce.length q2, .slice p3 extra.length q3, .slice p4 data.length q4] w fun e w' => ∃ u, e = .returned u ∧ Own w' w.heap.size u (tagN key nonce extra data) ∧ Below w.heap.size w w') := fun w a b c d => (l5Tag_c p p2 p3 p4 q q2 q3 q4 key nonce extra data w a b c d (by omega) (by omega) h3 (by omega)).mono fun _ _ ⟨x, y, e, k, hb⟩ => ⟨_, e, k, hb⟩
      clear h1 h2 h3 hc hs
      go_enter Tryd.func30, Tryd.ntmps30
      go_wp2_with fail
      refine (K0 _).mono ?_
      rintro e w' ⟨rfl, hw⟩
      subst hw
      go_wp2_with fail
      refine (K.out _ (hr.keep (alloc_below _ _)) (hr2.keep (alloc_below _ _)) (hr3.keep (alloc_below _ _)) (hr4.keep (alloc_below _ _))).mono ?_
      rintro e w1 ⟨u, rfl, ho, hb⟩
      obtain ⟨hc, hf⟩ := bcell hb
      rw [size_alloc] at hc hf ho
      obtain ⟨a, cap, rfl, -⟩ := ho.rd
      have hres := Below.res hb
      go_wp2
      refine bodyPost_ret (v := .agg #[.int .i64 0, .slice a (tagN key nonce extra data).length cap]) (by simp [results, Tryd.results30, go_sem, hc]) rfl ⟨_, rfl, ?_, (hres.setCell (Nat.le_refl _) _).setCell (Nat.le_refl _) _, fun h => absurd rfl h⟩
      exact ((ho.set (Nat.lt_succ_self _) _).set (Nat.lt_succ_self _) _).lower (Nat.le_succ _)
    · have hs : tgC key nonce extra data = 2 := by simp [tgC, hc, hd]
      rw [show tgL key nonce extra data = [] by simp [tgL, hs], hs]
      clear h1 h2 h3 hc hs
      go_enter Tryd.func30, Tryd.ntmps30
      go_wp2_with fail
      refine (K0 _).mono ?_
      rintro e w' ⟨rfl, hw⟩
      subst hw
      go_wp2
      exact bodyPost_ret (v := .agg #[.int .i64 2, .slice none 0 0]) (by simp [results, Tryd.results30, go_sem]) rfl ⟨_, rfl, Own_nil _ _, alloc_below _ _, fun _ => rfl⟩
  · have hs : tgC key nonce extra data = sealC key nonce extra := by simp [tgC, hc]
    rw [show tgL key nonce extra data = [] by simp [tgL, hs, hc], hs]
    have K1 : Hid (∀ w, Calls Tryd.prog 40 #[.slice p key.length q, .slice p2 nonce.length q2, .slice p3 extra.length q3] w fun e w' => e = .returned (.int .i64 (sealC key nonce extra)) ∧ w' = w) := K0
    clear hs K0
    generalize sealC key nonce extra = c at *
    have cz1 : (c != 0) = true := by rw [bne_iff_ne]; exact hc
    clear hc
    go_enter Tryd.func30, Tryd.ntmps30
    go_wp2_with fail
    refine (K1.out _).mono ?_
    rintro e w' ⟨rfl, hw⟩
    subst hw
    go_wp2
    exact bodyPost_ret (v := .agg #[.int .i64 c, .slice none 0 0]) (by simp [results, Tryd.results30, go_sem]) rfl ⟨_, rfl, Own_nil _ _, alloc_below _ _, fun _ => rfl⟩
theorem specTg_c (p p2 p3 p4 : Option Addr) (q q2 q3 q4 : Nat) (key nonce extra data : List UInt8) (w : World) (hr : Rd w p q key) (hr2 : Rd w p2 q2 nonce) (hr3 : Rd w p3 q3 extra) (hr4 : Rd w p4 q4 data) :
    Calls Tryd.prog 30 #[.slice p key.length q, .slice p2 nonce.length q2, .slice p3 extra.length q3, .slice p4 data.length q4] w fun e w' => ∃ u, e = .returned (.agg #[.int .i64 (tgC key nonce extra data), u]) ∧ Own w' w.heap.size u (tgL key nonce extra data) ∧ Below w.heap.size w w' :=
  (specTg_s p p2 p3 p4 q q2 q3 q4 key nonce extra data w hr hr2 hr3 hr4).mono fun _ _ ⟨u, h1, h2, h3, _⟩ => ⟨u, h1, h2, h3⟩

set_option maxRecDepth 4000 in
set_option maxHeartbeats 1000000 in
theorem specSl_s (p p2 p3 p4 : Option Addr) (q q2 q3 q4 : Nat) (key nonce extra data : List UInt8) (w : World) (hr : Rd w p q key) (hr2 : Rd w p2 q2 nonce) (hr3 : Rd w p3 q3 extra) (hr4 : Rd w p4 q4 data) :
    Calls Tryd.prog 12 #[.slice p key.length q, .slice p2 nonce.length q2, .slice p3 extra.length q3, .slice p4 data.length q4] w fun e w' => ∃ u, e = .returned (.agg #[.int .i64 (tgC key nonce extra data), u]) ∧ Own w' w.heap.size u (slL key nonce extra data) ∧ Below w.heap.size w w' ∧ (tgC key nonce extra data ≠ 0 → u = .slice none 0 0) := by
  have K0 := l5Fault_c p p2 p3 q q2 q3 key nonce extra
  by_cases hc : sealC key nonce extra = 0
  · rw [hc] at K0
    obtain ⟨h1, h2, h3, -⟩ := sealC_zero hc
    by_cases hd : data.length ≤ 220
    · have hs : tgC key nonce extra data = 0 := by simp [tgC, hc, hd]
      rw [show slL key nonce extra data = sealN key nonce extra data by simp [slL, hs], hs]
      have K : Hid (∀ w, Rd w p q key → Rd w p2 q2 nonce → Rd w p3 q3 extra → Rd w p4 q4 data → Calls Tryd.prog 41 #[.slice p key.length q, .slice p2 nonce.length q2, .slice p3 extra.length q3, .slice p4 data.length q4] w fun e w' => ∃ u, e = .returned u ∧ Own w' w.heap.size u (sealN key nonce extra data) ∧ Below w.heap.size w w') := fun w a b c d => l5Seal_c p p2 p3 p4 q q2 q3 q4 key nonce extra data w a b c d h1 h2 h3 hd
      clear h1 h2 h3 hc hs
      go_enter Tryd.func12, Tryd.ntmps12
      go_wp2_with fail
      refine (K0 _).mono ?_
      rintro e w' ⟨rfl, hw⟩
      subst hw
      go_wp2_with fail
      refine (K.out _ (hr.keep (alloc_below _ _)) (hr2.keep (alloc_below _ _)) (hr3.keep (alloc_below _ _)) (hr4.keep (alloc_below _ _))).mono ?_
      rintro e w1 ⟨u, rfl, ho, hb⟩
      obtain ⟨hc, hf⟩ := bcell hb
      rw [size_alloc] at hc hf ho
      obtain ⟨a, cap, rfl, -⟩ := ho.rd
      have hres := Below.res hb
      go_wp2
      refine bodyPost_ret (v := .agg #[.int .i64 0, .slice a (sealN key nonce extra data).length cap]) (by simp [results, Tryd.results12, go_sem, hc]) rfl ⟨_, rfl, ?_, (hres.setCell (Nat.le_refl _) _).setCell (Nat.le_refl _) _, fun h => absurd rfl h⟩
      exact ((ho.set (Nat.lt_succ_self _) _).set (Nat.lt_succ_self _) _).lower (Nat.le_succ _)
    · have hs : tgC key nonce extra data = 2 := by simp [tgC, hc, hd]
      rw [show slL key nonce extra data = [] by simp [slL, hs], hs]
      clear h1 h2 h3 hc hs
      go_enter Tryd.func12, Tryd.ntmps12
      go_wp2_with fail
      refine (K0 _).mono ?_
      rintro e w' ⟨rfl, hw⟩
      subst hw
      go_wp2
      exact bodyPost_ret (v := .agg #[.int .i64 2, .slice none 0 0]) (by simp [results, Tryd.results12, go_sem]) rfl ⟨_, rfl, Own_nil _ _, alloc_below _ _, fun _ => rfl⟩
  · have hs : tgC key nonce extra data = sealC key nonce extra := by simp [tgC, hc]
    rw [show slL key nonce extra data = [] by simp [slL, hs, hc], hs]
    have K1 : Hid (∀ w, Calls Tryd.prog 40 #[.slice p key.length q, .slice p2 nonce.length q2, .slice p3 extra.length q3] w fun e w' => e = .returned (.int .i64 (sealC key nonce extra)) ∧ w' = w) := K0
    clear hs K0
    generalize sealC key nonce extra = c at *
    have cz1 : (c != 0) = true := by rw [bne_iff_ne]; exact hc
    clear hc
    go_enter Tryd.func12, Tryd.ntmps12
    go_wp2_with fail
    refine (K1.out _).mono ?_
    rintro e w' ⟨rfl, hw⟩
    subst hw
    go_wp2
    exact bodyPost_ret (v := .agg #[.int .i64 c, .slice none 0 0]) (by simp [results, Tryd.results12, go_sem]) rfl ⟨_, rfl, Own_nil _ _, alloc_below _ _, fun _ => rfl⟩
theorem specSl_c (p p2 p3 p4 : Option Addr) (q q2 q3 q4 : Nat) (key nonce extra data : List UInt8) (w : World) (hr : Rd w p q key) (hr2 : Rd w p2 q2 nonce) (hr3 : Rd w p3 q3 extra) (hr4 : Rd w p4 q4 data) :
    Calls Tryd.prog 12 #[.slice p key.length q, .slice p2 nonce.length q2, .slice p3 extra.length q3, .slice p4 data.length q4] w fun e w' => ∃ u, e = .returned (.agg #[.int .i64 (tgC key nonce extra data), u]) ∧ Own w' w.heap.size u (slL key nonce extra data) ∧ Below w.heap.size w w' :=
  (specSl_s p p2 p3 p4 q q2 q3 q4 key nonce extra data w hr hr2 hr3 hr4).mono fun _ _ ⟨u, h1, h2, h3, _⟩ => ⟨u, h1, h2, h3⟩

set_option maxRecDepth 4000 in
set_option maxHeartbeats 1000000 in
theorem specOp_s (p p2 p3 p4 : Option Addr) (q q2 q3 q4 : Nat) (key nonce extra data : List UInt8) (w : World) (hr : Rd w p q key) (hr2 : Rd w p2 q2 nonce) (hr3 : Rd w p3 q3 extra) (hr4 : Rd w p4 q4 data) (hl : data.length ≤ 1048576) :
    Calls Tryd.prog 18 #[.slice p key.length q, .slice p2 nonce.length q2, .slice p3 extra.length q3, .slice p4 data.length q4] w fun e w' => ∃ u, e = .returned (.agg #[.int .i64 (opC key nonce extra data), u]) ∧ Own w' w.heap.size u (opL key nonce extra data) ∧ Below w.heap.size w w' ∧ (opC key nonce extra data ≠ 0 → u = .slice none 0 0) := by
  have K0 := l5Fault_c p p2 p3 q q2 q3 key nonce extra
  by_cases hc : sealC key nonce extra = 0
  · rw [hc] at K0
    obtain ⟨h1, h2, h3, -⟩ := sealC_zero hc
    have hs : opC key nonce extra data = openC key nonce extra data := by simp [opC, hc]
    have hs2 : opL key nonce extra data = openL key nonce extra data := by
      unfold opL
      rw [hs]
      split
      · rfl
      · rename_i h
        simp [openL, h]
    rw [hs2, hs]
    have K : Hid (∀ w, Rd w p q key → Rd w p2 q2 nonce → Rd w p3 q3 extra → Rd w p4 q4 data → Calls Tryd.prog 48 #[.slice p key.length q, .slice p2 nonce.length q2, .slice p3 extra.length q3, .slice p4 data.length q4] w fun e w' => ∃ u, e = .returned (.tuple #[u, .int .i64 (openC key nonce extra data)]) ∧ Own w' w.heap.size u (openL key nonce extra data) ∧ Below w.heap.size w w' ∧ (openC key nonce extra data ≠ 0 → u = .slice none 0 0)) := fun w a b c d => l5Open_c p p2 p3 p4 q q2 q3 q4 key nonce extra data w a b c d h1 h2 h3 hl
    clear h1 h2 h3 hc hs hs2
    go_enter Tryd.func18, Tryd.ntmps18
    go_wp2_with fail
    refine (K0 _).mono ?_
    rintro e w' ⟨rfl, hw⟩
    subst hw
    go_wp2_with fail
    refine (K.out _ (hr.keep (alloc_below _ _)) (hr2.keep (alloc_below _ _)) (hr3.keep (alloc_below _ _)) (hr4.keep (alloc_below _ _))).mono ?_
    rintro e w1 ⟨u, rfl, ho, hb, hu⟩
    obtain ⟨hd, hf⟩ := bcell hb
    rw [size_alloc] at hd hf ho
    obtain ⟨a, cap, rfl, -⟩ := ho.rd
    have HU : Hid (openC key nonce extra data ≠ 0 → Value.slice a (openL key nonce extra data).length cap = .slice none 0 0) := hu
    have hres := Below.res hb
    clear hu
    go_wp2
    refine bodyPost_ret (v := .agg #[.int .i64 (openC key nonce extra data), .slice a (openL key nonce extra data).length cap]) (by simp [results, Tryd.results18, go_sem, hd]) rfl ⟨_, rfl, ?_, (hres.setCell (Nat.le_refl _) _).setCell (Nat.le_refl _) _, HU.out⟩
    exact ((ho.set (Nat.lt_succ_self _) _).set (Nat.lt_succ_self _) _).lower (Nat.le_succ _)
  · have hs : opC key nonce extra data = sealC key nonce extra := by simp [opC, hc]
    rw [show opL key nonce extra data = [] by simp [opL, hs, hc], hs]
    have K1 : Hid (∀ w, Calls Tryd.prog 40 #[.slice p key.length q, .slice p2 nonce.length q2, .slice p3 extra.length q3] w fun e w' => e = .returned (.int .i64 (sealC key nonce extra)) ∧ w' = w) := K0
    clear hs K0
    generalize sealC key nonce extra = c at *
    have cz1 : (c != 0) = true := by rw [bne_iff_ne]; exact hc
    clear hc
    go_enter Tryd.func18, Tryd.ntmps18
    go_wp2_with fail
    refine (K1.out _).mono ?_
    rintro e w' ⟨rfl, hw⟩
    subst hw
    go_wp2
    exact bodyPost_ret (v := .agg #[.int .i64 c, .slice none 0 0]) (by simp [results, Tryd.results18, go_sem]) rfl ⟨_, rfl, Own_nil _ _, alloc_below _ _, fun _ => rfl⟩
theorem specOp_c (p p2 p3 p4 : Option Addr) (q q2 q3 q4 : Nat) (key nonce extra data : List UInt8) (w : World) (hr : Rd w p q key) (hr2 : Rd w p2 q2 nonce) (hr3 : Rd w p3 q3 extra) (hr4 : Rd w p4 q4 data) (hl : data.length ≤ 1048576) :
    Calls Tryd.prog 18 #[.slice p key.length q, .slice p2 nonce.length q2, .slice p3 extra.length q3, .slice p4 data.length q4] w fun e w' => ∃ u, e = .returned (.agg #[.int .i64 (opC key nonce extra data), u]) ∧ Own w' w.heap.size u (opL key nonce extra data) ∧ Below w.heap.size w w' :=
  (specOp_s p p2 p3 p4 q q2 q3 q4 key nonce extra data w hr hr2 hr3 hr4 hl).mono fun _ _ ⟨u, h1, h2, h3, _⟩ => ⟨u, h1, h2, h3⟩
end Go.Proofs.YtpcgpefefklfoaaDoor

