/- The contracts of chapter 4's functions in the specification, at every argument: StartState, StreamBlock, NonceFor: code and list or bytes. -/
import Derived.Test.YtohcohinggjdpaaXorS
namespace Go.Proofs.Ytohcohinggjdpaa
open Go.ChangeShapes Go.WideShapes Go.ChangeAt Go.RowKit

/-- The code of a key, a nonce and a count. -/
def strC (key nonce : List UInt8) (count : Int) : Int := if key.length = 32 then (if nonce.length = 12 then (if inB count 0 4294967295 then 0 else 3) else 1) else 1
theorem strC_zero {key nonce : List UInt8} {count : Int} (h : strC key nonce count = 0) : key.length = 32 ∧ nonce.length = 12 ∧ inB count 0 4294967295 = true := by
  unfold strC at h
  split at h
  · rename_i h1
    split at h
    · rename_i h2
      split at h
      · rename_i h3
        exact ⟨h1, h2, h3⟩
      · cases h
    · cases h
  · cases h
theorem nat32 {n : Int} (h : inB n 0 4294967295 = true) : ∃ m : Nat, n = m ∧ m < 4294967296 := by
  simp [inB] at h
  exact ⟨n.toNat, by omega, by omega⟩

set_option maxHeartbeats 1000000 in
theorem l4Fault_c (p p2 : Option Addr) (q q2 : Nat) (key nonce : List UInt8) (count : Int) (w : World) :
    Calls Try.prog 46 #[.slice p key.length q, .slice p2 nonce.length q2, .int .i64 count] w fun e w' => e = .returned (.int .i64 (strC key nonce count)) ∧ w' = w := by
  by_cases h1 : key.length = 32
  · have d1 : ((key.length : Int) != 32) = false := by rw [bne_eq_false_iff_eq]; omega
    by_cases h2 : nonce.length = 12
    · have d2 : ((nonce.length : Int) != 12) = false := by rw [bne_eq_false_iff_eq]; omega
      cases h3 : inB count 0 4294967295
      · rw [show strC key nonce count = 3 by simp [strC, h1, h2, h3]]
        clear h1 h2
        go_enter Try.func46, Try.ntmps46
        go_wp2_with fail
        refine (l1Word_c _ _).mono ?_
        rintro e w' ⟨rfl, rfl⟩
        rw [h3]
        go_wp2
        go_ret
        exact ⟨rfl, rfl⟩
      · rw [show strC key nonce count = 0 by simp [strC, h1, h2, h3]]
        clear h1 h2
        go_enter Try.func46, Try.ntmps46
        go_wp2_with fail
        refine (l1Word_c _ _).mono ?_
        rintro e w' ⟨rfl, rfl⟩
        rw [h3]
        go_wp2
        go_ret
        exact ⟨rfl, rfl⟩
    · have d2 : ((nonce.length : Int) != 12) = true := by rw [bne_iff_ne]; omega
      rw [show strC key nonce count = 1 by simp [strC, h1, h2]]
      clear h1 h2
      go_enter Try.func46, Try.ntmps46
      go_wp2
      go_ret
      exact ⟨rfl, rfl⟩
  · have d1 : ((key.length : Int) != 32) = true := by rw [bne_iff_ne]; omega
    rw [show strC key nonce count = 1 by simp [strC, h1]]
    clear h1
    go_enter Try.func46, Try.ntmps46
    go_wp2
    go_ret
    exact ⟨rfl, rfl⟩

def ssL (key nonce : List UInt8) (count : Int) : List Int := if strC key nonce count = 0 then (startS key nonce count.toNat).map Int.ofNat else []
theorem ssL_len (key nonce : List UInt8) (count : Int) : (ssL key nonce count).length ≤ 1048576 := by
  unfold ssL; split
  · rw [List.length_map, startS_len]; decide
  · simp
def sbL (key nonce : List UInt8) (count : Int) : List UInt8 := if strC key nonce count = 0 then blockS key nonce count.toNat else []
theorem sbL_len (key nonce : List UInt8) (count : Int) : (sbL key nonce count).length ≤ 1048576 := by
  unfold sbL; split
  · rw [blockS_len]; decide
  · simp

set_option maxHeartbeats 1000000 in
theorem specSB_s (p p2 : Option Addr) (q q2 : Nat) (key nonce : List UInt8) (count : Int) (w : World) (hr : Rd w p q key) (hr2 : Rd w p2 q2 nonce) :
    Calls Try.prog 16 #[.slice p key.length q, .slice p2 nonce.length q2, .int .i64 count] w fun e w' => ∃ u, e = .returned (.agg #[.int .i64 (strC key nonce count), u]) ∧ Own w' w.heap.size u (sbL key nonce count) ∧ Below w.heap.size w w' ∧ (strC key nonce count ≠ 0 → u = .slice none 0 0) := by
  by_cases hc : strC key nonce count = 0
  · obtain ⟨h1, h2, h3⟩ := strC_zero hc
    obtain ⟨c, rfl, hcl⟩ := nat32 h3
    have hc0 : Hid (strC key nonce (c : Int) = 0) := hc
    rw [show sbL key nonce (c : Int) = blockS key nonce c by simp [sbL, hc], hc]
    have K : Hid (∀ w, Rd w p q key → Rd w p2 q2 nonce → Calls Try.prog 51 #[.slice p key.length q, .slice p2 nonce.length q2, .int .i64 (c : Int)] w fun e w' => ∃ u, e = .returned u ∧ Own w' w.heap.size u (blockS key nonce c) ∧ Below w.heap.size w w') := fun w h h' => by
      rw [h1, h2]; exact l4Block_c p p2 q q2 key nonce c w h h' h1 h2 hcl
    have HB : Hid ((blockS key nonce c).length = 64) := blockS_len _ _ _
    clear h1 h2 h3 hc hcl
    generalize blockS key nonce c = bk at *
    go_enter Try.func16, Try.ntmps16
    go_wp2_with fail
    refine (l4Fault_c p p2 q q2 key nonce _ _).mono ?_
    rintro e w' ⟨rfl, hw⟩
    subst hw
    rw [hc0.out]
    go_wp2_with fail
    refine (K.out _ (hr.keep (alloc_below _ _)) (hr2.keep (alloc_below _ _))).mono ?_
    rintro e w1 ⟨u, rfl, ho, hb⟩
    obtain ⟨hd, hf⟩ := bcell hb
    rw [size_alloc] at hd hf ho
    obtain ⟨a, cap, rfl, -⟩ := ho.rd
    rw [HB.out] at ho ⊢
    have hres := Below.res hb
    go_wp2
    refine bodyPost_ret (v := .agg #[.int .i64 0, .slice a 64 cap]) (by simp [results, Try.results16, go_sem, hd]) rfl ⟨_, rfl, ?_, (hres.setCell (Nat.le_refl _) _).setCell (Nat.le_refl _) _, fun h => absurd rfl h⟩
    exact ((ho.set (Nat.lt_succ_self _) _).set (Nat.lt_succ_self _) _).lower (Nat.le_succ _)
  · rw [show sbL key nonce count = [] by simp [sbL, hc]]
    have K : Hid (∀ w, Calls Try.prog 46 #[.slice p key.length q, .slice p2 nonce.length q2, .int .i64 count] w fun e w' => e = .returned (.int .i64 (strC key nonce count)) ∧ w' = w) := fun w => l4Fault_c p p2 q q2 key nonce count w
    generalize strC key nonce count = c at *
    have cz1 : (c != 0) = true := by rw [bne_iff_ne]; exact hc
    clear hc
    go_enter Try.func16, Try.ntmps16
    go_wp2_with fail
    refine (K.out _).mono ?_
    rintro e w' ⟨rfl, hw⟩
    subst hw
    go_wp2
    exact bodyPost_ret (v := .agg #[.int .i64 c, .slice none 0 0]) (by simp [results, Try.results16, go_sem]) rfl ⟨_, rfl, Own_nil _ _, alloc_below _ _, fun _ => rfl⟩
theorem specSB_c (p p2 : Option Addr) (q q2 : Nat) (key nonce : List UInt8) (count : Int) (w : World) (hr : Rd w p q key) (hr2 : Rd w p2 q2 nonce) :
    Calls Try.prog 16 #[.slice p key.length q, .slice p2 nonce.length q2, .int .i64 count] w fun e w' => ∃ u, e = .returned (.agg #[.int .i64 (strC key nonce count), u]) ∧ Own w' w.heap.size u (sbL key nonce count) ∧ Below w.heap.size w w' :=
  (specSB_s p p2 q q2 key nonce count w hr hr2).mono fun _ _ ⟨u, h1, h2, h3, _⟩ => ⟨u, h1, h2, h3⟩

set_option maxHeartbeats 1000000 in
theorem specSS_s (p p2 : Option Addr) (q q2 : Nat) (key nonce : List UInt8) (count : Int) (w : World) (hr : Rd w p q key) (hr2 : Rd w p2 q2 nonce) :
    Calls Try.prog 24 #[.slice p key.length q, .slice p2 nonce.length q2, .int .i64 count] w fun e w' => ∃ u, e = .returned (.agg #[.int .i64 (strC key nonce count), u]) ∧ OwnI w' w.heap.size u (ssL key nonce count) ∧ Below w.heap.size w w' ∧ (strC key nonce count ≠ 0 → u = .slice none 0 0) := by
  by_cases hc : strC key nonce count = 0
  · obtain ⟨h1, h2, h3⟩ := strC_zero hc
    obtain ⟨c, rfl, hcl⟩ := nat32 h3
    have hc0 : Hid (strC key nonce (c : Int) = 0) := hc
    rw [show ssL key nonce (c : Int) = (startS key nonce c).map Int.ofNat by simp [ssL, hc], hc]
    have K : Hid (∀ w, Rd w p q key → Rd w p2 q2 nonce → Calls Try.prog 62 #[.slice p key.length q, .slice p2 nonce.length q2, .int .i64 (c : Int)] w fun e w' => ∃ (g cap : Nat), e = .returned (.slice (some ⟨g, 0, none⟩) 16 cap) ∧ OwnN w' w.heap.size (.slice (some ⟨g, 0, none⟩) 16 cap) (startS key nonce c) ∧ Below w.heap.size w w') := fun w h h' => by
      rw [h1, h2]; exact l4Start_c p p2 q q2 key nonce c w h h' h1 h2
    clear h1 h2 h3 hc hcl
    generalize startS key nonce c = s0 at *
    go_enter Try.func24, Try.ntmps24
    go_wp2_with fail
    refine (l4Fault_c p p2 q q2 key nonce _ _).mono ?_
    rintro e w' ⟨rfl, hw⟩
    subst hw
    rw [hc0.out]
    go_wp2_with fail
    refine (K.out _ (hr.keep (alloc_below _ _)) (hr2.keep (alloc_below _ _))).mono ?_
    rintro e w1 ⟨g, cap, rfl, ho, hb⟩
    obtain ⟨hd, hf⟩ := bcell hb
    rw [size_alloc] at hd hf ho
    have hoI := ho.toI
    have hres := Below.res hb
    go_wp2
    refine bodyPost_ret (v := .agg #[.int .i64 0, .slice (some ⟨g, 0, none⟩) 16 cap]) (by simp [results, Try.results24, go_sem, hd]) rfl ⟨_, rfl, ?_, (hres.setCell (Nat.le_refl _) _).setCell (Nat.le_refl _) _, fun h => absurd rfl h⟩
    exact ((hoI.set (Nat.lt_succ_self _) _).set (Nat.lt_succ_self _) _).lower (Nat.le_succ _)
  · rw [show ssL key nonce count = [] by simp [ssL, hc]]
    have K : Hid (∀ w, Calls Try.prog 46 #[.slice p key.length q, .slice p2 nonce.length q2, .int .i64 count] w fun e w' => e = .returned (.int .i64 (strC key nonce count)) ∧ w' = w) := fun w => l4Fault_c p p2 q q2 key nonce count w
    generalize strC key nonce count = c at *
    have cz1 : (c != 0) = true := by rw [bne_iff_ne]; exact hc
    clear hc
    go_enter Try.func24, Try.ntmps24
    go_wp2_with fail
    refine (K.out _).mono ?_
    rintro e w' ⟨rfl, hw⟩
    subst hw
    go_wp2
    exact bodyPost_ret (v := .agg #[.int .i64 c, .slice none 0 0]) (by simp [results, Try.results24, go_sem]) rfl ⟨_, rfl, OwnI_nil _ _, alloc_below _ _, fun _ => rfl⟩
theorem specSS_c (p p2 : Option Addr) (q q2 : Nat) (key nonce : List UInt8) (count : Int) (w : World) (hr : Rd w p q key) (hr2 : Rd w p2 q2 nonce) :
    Calls Try.prog 24 #[.slice p key.length q, .slice p2 nonce.length q2, .int .i64 count] w fun e w' => ∃ u, e = .returned (.agg #[.int .i64 (strC key nonce count), u]) ∧ OwnI w' w.heap.size u (ssL key nonce count) ∧ Below w.heap.size w w' :=
  (specSS_s p p2 q q2 key nonce count w hr hr2).mono fun _ _ ⟨u, h1, h2, h3, _⟩ => ⟨u, h1, h2, h3⟩

def nfC (base : List UInt8) (seq : Int) : Int := if base.length = 12 then (if inB seq 0 2147483648 then 0 else 3) else 1
def nfL (base : List UInt8) (seq : Int) : List UInt8 := if base.length = 12 ∧ inB seq 0 2147483648 = true then nonceN base seq.toNat else []
theorem nfL_len (base : List UInt8) (seq : Int) : (nfL base seq).length ≤ 1048576 := by
  unfold nfL; split
  · rw [nonceN_len]; decide
  · simp

set_option maxHeartbeats 1000000 in
theorem specNF_s (p : Option Addr) (q : Nat) (base : List UInt8) (seq : Int) (w : World) (hr : Rd w p q base) :
    Calls Try.prog 25 #[.slice p base.length q, .int .i64 seq] w fun e w' => ∃ u, e = .returned (.agg #[.int .i64 (nfC base seq), u]) ∧ Own w' w.heap.size u (nfL base seq) ∧ Below w.heap.size w w' ∧ (nfC base seq ≠ 0 → u = .slice none 0 0) := by
  by_cases h1 : base.length = 12
  · have d1 : ((base.length : Int) != 12) = false := by rw [bne_eq_false_iff_eq]; omega
    cases h2 : inB seq 0 2147483648
    · rw [show nfC base seq = 3 by simp [nfC, h1, h2], show nfL base seq = [] by simp [nfL, h2]]
      clear h1
      go_enter Try.func25, Try.ntmps25
      go_wp2_with fail
      refine (l1In_c _ _ _ _).mono ?_
      rintro e w' ⟨rfl, hw⟩
      subst hw
      rw [h2]
      go_wp2
      exact bodyPost_ret (v := .agg #[.int .i64 3, .slice none 0 0]) (by simp [results, Try.results25, go_sem]) rfl ⟨_, rfl, Own_nil _ _, alloc_below _ _, fun _ => rfl⟩
    · obtain ⟨m, rfl, hm⟩ : ∃ m : Nat, seq = m ∧ m ≤ 2147483648 := by simp [inB] at h2; exact ⟨seq.toNat, by omega, by omega⟩
      rw [show nfC base (m : Int) = 0 by simp [nfC, h1, h2], show nfL base (m : Int) = nonceN base m by simp [nfL, h1, h2]]
      have K : Hid (∀ w, Rd w p q base → Calls Try.prog 63 #[.slice p base.length q, .int .i64 (m : Int)] w fun e w' => ∃ u, e = .returned u ∧ Own w' w.heap.size u (nonceN base m) ∧ Below w.heap.size w w') := fun w h => by
        rw [h1]; exact l4Nonce_c p q base m w h h1 hm
      have HB : Hid ((nonceN base m).length = 12) := nonceN_len _ _
      clear h1 hm
      generalize nonceN base m = nn at *
      go_enter Try.func25, Try.ntmps25
      go_wp2_with fail
      refine (l1In_c _ _ _ _).mono ?_
      rintro e w' ⟨rfl, hw⟩
      subst hw
      rw [h2]
      go_wp2_with fail
      refine (K.out _ (hr.keep (alloc_below _ _))).mono ?_
      rintro e w1 ⟨u, rfl, ho, hb⟩
      obtain ⟨hd, hf⟩ := bcell hb
      rw [size_alloc] at hd hf ho
      obtain ⟨a, cap, rfl, -⟩ := ho.rd
      rw [HB.out] at ho ⊢
      have hres := Below.res hb
      go_wp2
      refine bodyPost_ret (v := .agg #[.int .i64 0, .slice a 12 cap]) (by simp [results, Try.results25, go_sem, hd]) rfl ⟨_, rfl, ?_, (hres.setCell (Nat.le_refl _) _).setCell (Nat.le_refl _) _, fun h => absurd rfl h⟩
      exact ((ho.set (Nat.lt_succ_self _) _).set (Nat.lt_succ_self _) _).lower (Nat.le_succ _)
  · have d1 : ((base.length : Int) != 12) = true := by rw [bne_iff_ne]; omega
    rw [show nfC base seq = 1 by simp [nfC, h1], show nfL base seq = [] by simp [nfL, h1]]
    clear h1
    go_enter Try.func25, Try.ntmps25
    go_wp2
    exact bodyPost_ret (v := .agg #[.int .i64 1, .slice none 0 0]) (by simp [results, Try.results25, go_sem]) rfl ⟨_, rfl, Own_nil _ _, alloc_below _ _, fun _ => rfl⟩
theorem specNF_c (p : Option Addr) (q : Nat) (base : List UInt8) (seq : Int) (w : World) (hr : Rd w p q base) :
    Calls Try.prog 25 #[.slice p base.length q, .int .i64 seq] w fun e w' => ∃ u, e = .returned (.agg #[.int .i64 (nfC base seq), u]) ∧ Own w' w.heap.size u (nfL base seq) ∧ Below w.heap.size w w' :=
  (specNF_s p q base seq w hr).mono fun _ _ ⟨u, h1, h2, h3, _⟩ => ⟨u, h1, h2, h3⟩
end Go.Proofs.Ytohcohinggjdpaa
