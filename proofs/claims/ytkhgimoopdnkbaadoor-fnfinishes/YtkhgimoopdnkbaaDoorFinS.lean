/- The contracts of finished values in the specification: spec.l5Finish (finN), FinishOf at every argument: code and bytes. -/
import Derived.Test.YtkhgimoopdnkbaaDoorSeal
import Derived.Test.YtkhgimoopdnkbaaDoorLabS
namespace Go.Proofs.YtkhgimoopdnkbaaDoor
open Go.ChangeShapes Go.WideShapes Go.ChangeAt Go.RowKit

def finished : List UInt8 := [102, 105, 110, 105, 115, 104, 101, 100]
theorem finished_str : (⟨#[102, 105, 110, 105, 115, 104, 101, 100]⟩ : ByteArray) = strB finished := rfl
theorem finN_eq (key digest : List UInt8) : finN key digest = macN (expLabN key finished [] 32) digest := rfl
set_option maxRecDepth 4000 in
set_option maxHeartbeats 1000000 in
theorem l5Finish_c (p p2 : Option Addr) (q q2 : Nat) (key digest : List UInt8) (w : World) (hr : Rd w p q key) (hr2 : Rd w p2 q2 digest) (hk : key.length ≤ 64) (hd : digest.length ≤ 500) :
    Calls Tryd.prog 46 #[.slice p key.length q, .slice p2 digest.length q2] w fun e w' => ∃ u, e = .returned u ∧ Own w' w.heap.size u (finN key digest) ∧ Below w.heap.size w w' := by
  have HE : Hid (finN key digest = macN (expLabN key finished [] 32) digest) := rfl
  have K : Hid (∀ w, Rd w p q key → Calls Tryd.prog 36 #[.slice p key.length q, .string ⟨#[102, 105, 110, 105, 115, 104, 101, 100]⟩, .slice none 0 0, .int .i64 32] w fun e w' => ∃ u, e = .returned u ∧ Own w' w.heap.size u (expLabN key finished [] 32) ∧ Below w.heap.size w w') := fun w h => by
    rw [finished_str]
    exact l3ExpandLabel_c p none q 0 key finished [] 32 w h ⟨Nat.le_refl _, by unfold maxLen; decide, fun _ => rfl, fun hp => by simp at hp⟩ hk (by decide) (by decide) (by decide)
  have HL : Hid ((expLabN key finished [] 32).length = 32) := by show _ = _; rw [expLabN, expandN_len]
  go_enter Tryd.func46, Tryd.ntmps46
  go_wp2_with fail
  refine (K.out _ hr).mono ?_
  rintro e w1 ⟨u1, rfl, k1, hb1⟩
  obtain ⟨a1, c1, rfl, rd1⟩ := k1.rd
  generalize expLabN key finished [] 32 = ek at *
  have hz := hb1.size
  clear k1
  go_wp2_with fail
  refine (l3Mac_c a1 p2 c1 q2 ek digest _ rd1 (hr2.keep hb1) (by rw [HL.out]; decide) (by omega)).mono ?_
  rintro e w2 ⟨u2, rfl, k2, hb2⟩
  go_wp2
  go_ret
  exact ⟨_, rfl, by rw [HE.out]; exact k2.lower hz, Below.step hb1 hb2⟩

def fnC (key digest : List UInt8) : Int := if key.length = 32 ∧ digest.length = 32 then 0 else 1
def fnL (key digest : List UInt8) : List UInt8 := if key.length = 32 ∧ digest.length = 32 then finN key digest else []
theorem fnL_len (key digest : List UInt8) : (fnL key digest).length ≤ 1048576 := by
  unfold fnL; split
  · rw [finN_len]; decide
  · simp
set_option maxRecDepth 4000 in
set_option maxHeartbeats 1000000 in
theorem specFn_s (p p2 : Option Addr) (q q2 : Nat) (key digest : List UInt8) (w : World) (hr : Rd w p q key) (hr2 : Rd w p2 q2 digest) :
    Calls Tryd.prog 20 #[.slice p key.length q, .slice p2 digest.length q2] w fun e w' => ∃ u, e = .returned (.agg #[.int .i64 (fnC key digest), u]) ∧ Own w' w.heap.size u (fnL key digest) ∧ Below w.heap.size w w' ∧ (fnC key digest ≠ 0 → u = .slice none 0 0) := by
  by_cases h1 : key.length = 32
  · have d1 : ((key.length : Int) != 32) = false := by rw [bne_eq_false_iff_eq]; omega
    by_cases h2 : digest.length = 32
    · have d2 : ((digest.length : Int) != 32) = false := by rw [bne_eq_false_iff_eq]; omega
      rw [show fnC key digest = 0 by simp [fnC, h1, h2], show fnL key digest = finN key digest by simp [fnL, h1, h2]]
      have K : Hid (∀ w, Rd w p q key → Rd w p2 q2 digest → Calls Tryd.prog 46 #[.slice p key.length q, .slice p2 digest.length q2] w fun e w' => ∃ u, e = .returned u ∧ Own w' w.heap.size u (finN key digest) ∧ Below w.heap.size w w') := fun w a b => l5Finish_c p p2 q q2 key digest w a b (by omega) (by omega)
      have HB : Hid ((finN key digest).length = 32) := finN_len _ _
      clear h1 h2
      generalize finN key digest = fv at *
      go_enter Tryd.func20, Tryd.ntmps20
      go_wp2_with fail
      refine (K.out _ (hr.keep (alloc_below _ _)) (hr2.keep (alloc_below _ _))).mono ?_
      rintro e w1 ⟨u, rfl, ho, hb⟩
      obtain ⟨hc, hf⟩ := bcell hb
      rw [size_alloc] at hc hf ho
      obtain ⟨a, cap, rfl, -⟩ := ho.rd
      rw [HB.out] at ho ⊢
      have hres := Below.res hb
      go_wp2
      refine bodyPost_ret (v := .agg #[.int .i64 0, .slice a 32 cap]) (by simp [results, Tryd.results20, go_sem, hc]) rfl ⟨_, rfl, ?_, (hres.setCell (Nat.le_refl _) _).setCell (Nat.le_refl _) _, fun h => absurd rfl h⟩
      exact ((ho.set (Nat.lt_succ_self _) _).set (Nat.lt_succ_self _) _).lower (Nat.le_succ _)
    · have d2 : ((digest.length : Int) != 32) = true := by rw [bne_iff_ne]; omega
      rw [show fnC key digest = 1 by simp [fnC, h2], show fnL key digest = [] by simp [fnL, h2]]
      clear h1 h2
      go_enter Tryd.func20, Tryd.ntmps20
      go_wp2
      exact bodyPost_ret (v := .agg #[.int .i64 1, .slice none 0 0]) (by simp [results, Tryd.results20, go_sem]) rfl ⟨_, rfl, Own_nil _ _, alloc_below _ _, fun _ => rfl⟩
  · have d1 : ((key.length : Int) != 32) = true := by rw [bne_iff_ne]; omega
    rw [show fnC key digest = 1 by simp [fnC, h1], show fnL key digest = [] by simp [fnL, h1]]
    clear h1
    go_enter Tryd.func20, Tryd.ntmps20
    go_wp2
    exact bodyPost_ret (v := .agg #[.int .i64 1, .slice none 0 0]) (by simp [results, Tryd.results20, go_sem]) rfl ⟨_, rfl, Own_nil _ _, alloc_below _ _, fun _ => rfl⟩
theorem specFn_c (p p2 : Option Addr) (q q2 : Nat) (key digest : List UInt8) (w : World) (hr : Rd w p q key) (hr2 : Rd w p2 q2 digest) :
    Calls Tryd.prog 20 #[.slice p key.length q, .slice p2 digest.length q2] w fun e w' => ∃ u, e = .returned (.agg #[.int .i64 (fnC key digest), u]) ∧ Own w' w.heap.size u (fnL key digest) ∧ Below w.heap.size w w' :=
  (specFn_s p p2 q q2 key digest w hr hr2).mono fun _ _ ⟨u, h1, h2, h3, _⟩ => ⟨u, h1, h2, h3⟩
end Go.Proofs.YtkhgimoopdnkbaaDoor
