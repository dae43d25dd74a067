/- The contracts of chapter 4's functions in the specification, at every argument: StartState, StreamBlock, NonceFor: code and list or bytes. -/
import Derived.Test.YtbgdhjeccdooiaaXorS
namespace Go.Proofs.Ytbgdhjeccdooiaa
open Go.ChangeShapes Go.WideShapes Go.ChangeAt Go.RowKit

/-- The code of a key, a nonce and a count. -/
def strC (key nonce : List UInt8) (count : Int) : Int := if key.length = 32 then (if nonce.length = 12 then (if inB count 0 4294967295 then 0 else 3) else 1) else 1
theorem strC_zero {key nonce : List UInt8} {count : Int} (h : strC key nonce count = 0) : key.length = 32 ∧ nonce.length = 12 ∧ inB count 0 4294967295 = true := by
  unfold strC at h
  split at h
  · rename_i h1
    split at h
    · rename_i h2
      split at h
      · rename_i h3
        exact ⟨h1, h2, h3⟩
      · cases h
    · cases h
  · cases h
theorem nat32 {n : Int} (h : inB n 0 4294967295 = true) : ∃ m : Nat, n = m ∧ m < 4294967296 := by
  simp [inB] at h
  exact ⟨n.toNat, by omega, by omega⟩


def ssL (key nonce : List UInt8) (count : Int) : List Int := if strC key nonce count = 0 then (startS key nonce count.toNat).map Int.ofNat else []
theorem ssL_len (key nonce : List UInt8) (count : Int) : (ssL key nonce count).length ≤ 1048576 := by
  unfold ssL; split
  · rw [List.length_map, startS_len]; decide
  · simp
def sbL (key nonce : List UInt8) (count : Int) : List UInt8 := if strC key nonce count = 0 then blockS key nonce count.toNat else []
theorem sbL_len (key nonce : List UInt8) (count : Int) : (sbL key nonce count).length ≤ 1048576 := by
  unfold sbL; split
  · rw [blockS_len]; decide
  · simp



def nfC (base : List UInt8) (seq : Int) : Int := if base.length = 12 then (if inB seq 0 2147483648 then 0 else 3) else 1
def nfL (base : List UInt8) (seq : Int) : List UInt8 := if base.length = 12 ∧ inB seq 0 2147483648 = true then nonceN base seq.toNat else []
theorem nfL_len (base : List UInt8) (seq : Int) : (nfL base seq).length ≤ 1048576 := by
  unfold nfL; split
  · rw [nonceN_len]; decide
  · simp

set_option maxHeartbeats 1000000 in
theorem specNF_s (p : Option Addr) (q : Nat) (base : List UInt8) (seq : Int) (w : World) (hr : Rd w p q base) :
    Calls Try.prog 13 #[.slice p base.length q, .int .i64 seq] w fun e w' => ∃ u, e = .returned (.agg #[.int .i64 (nfC base seq), u]) ∧ Own w' w.heap.size u (nfL base seq) ∧ Below w.heap.size w w' ∧ (nfC base seq ≠ 0 → u = .slice none 0 0) := by
  by_cases h1 : base.length = 12
  · have d1 : ((base.length : Int) != 12) = false := by rw [bne_eq_false_iff_eq]; omega
    cases h2 : inB seq 0 2147483648
    · rw [show nfC base seq = 3 by simp [nfC, h1, h2], show nfL base seq = [] by simp [nfL, h2]]
      clear h1
      go_enter Try.func13, Try.ntmps13
      go_wp2_with fail
      refine (l1In_c _ _ _ _).mono ?_
      rintro e w' ⟨rfl, hw⟩
      subst hw
      rw [h2]
      go_wp2
      exact bodyPost_ret (v := .agg #[.int .i64 3, .slice none 0 0]) (by simp [results, Try.results13, go_sem]) rfl ⟨_, rfl, Own_nil _ _, alloc_below _ _, fun _ => rfl⟩
    · obtain ⟨m, rfl, hm⟩ : ∃ m : Nat, seq = m ∧ m ≤ 2147483648 := by simp [inB] at h2; exact ⟨seq.toNat, by omega, by omega⟩
      rw [show nfC base (m : Int) = 0 by simp [nfC, h1, h2], show nfL base (m : Int) = nonceN base m by simp [nfL, h1, h2]]
      have K : Hid (∀ w, Rd w p q base → Calls Try.prog 30 #[.slice p base.length q, .int .i64 (m : Int)] w fun e w' => ∃ u, e = .returned u ∧ Own w' w.heap.size u (nonceN base m) ∧ Below w.heap.size w w') := fun w h => by
        rw [h1]; exact l4Nonce_c p q base m w h h1 hm
      have HB : Hid ((nonceN base m).length = 12) := nonceN_len _ _
      clear h1 hm
      generalize nonceN base m = nn at *
      go_enter Try.func13, Try.ntmps13
      go_wp2_with fail
      refine (l1In_c _ _ _ _).mono ?_
      rintro e w' ⟨rfl, hw⟩
      subst hw
      rw [h2]
      go_wp2_with fail
      refine (K.out _ (hr.keep (alloc_below _ _))).mono ?_
      rintro e w1 ⟨u, rfl, ho, hb⟩
      obtain ⟨hd, hf⟩ := bcell hb
      rw [size_alloc] at hd hf ho
      obtain ⟨a, cap, rfl, -⟩ := ho.rd
      rw [HB.out] at ho ⊢
      have hres := Below.res hb
      go_wp2
      refine bodyPost_ret (v := .agg #[.int .i64 0, .slice a 12 cap]) (by simp [results, Try.results13, go_sem, hd]) rfl ⟨_, rfl, ?_, (hres.setCell (Nat.le_refl _) _).setCell (Nat.le_refl _) _, fun h => absurd rfl h⟩
      exact ((ho.set (Nat.lt_succ_self _) _).set (Nat.lt_succ_self _) _).lower (Nat.le_succ _)
  · have d1 : ((base.length : Int) != 12) = true := by rw [bne_iff_ne]; omega
    rw [show nfC base seq = 1 by simp [nfC, h1], show nfL base seq = [] by simp [nfL, h1]]
    clear h1
    go_enter Try.func13, Try.ntmps13
    go_wp2
    exact bodyPost_ret (v := .agg #[.int .i64 1, .slice none 0 0]) (by simp [results, Try.results13, go_sem]) rfl ⟨_, rfl, Own_nil _ _, alloc_below _ _, fun _ => rfl⟩
theorem specNF_c (p : Option Addr) (q : Nat) (base : List UInt8) (seq : Int) (w : World) (hr : Rd w p q base) :
    Calls Try.prog 13 #[.slice p base.length q, .int .i64 seq] w fun e w' => ∃ u, e = .returned (.agg #[.int .i64 (nfC base seq), u]) ∧ Own w' w.heap.size u (nfL base seq) ∧ Below w.heap.size w w' :=
  (specNF_s p q base seq w hr).mono fun _ _ ⟨u, h1, h2, h3, _⟩ => ⟨u, h1, h2, h3⟩
end Go.Proofs.Ytbgdhjeccdooiaa
