/- SignsFault of the program answers as the specification's, and leaves its argument alone. For every argument; no condition. -/
import Derived.Test.YtklglpmlfboglabRows
import Derived.WalkKit
import Derived.ProofKit
import Derived.OpenShut
import Derived.ChangeOld
import Derived.Below
import Derived.Test.YtklglpmlfboglabOpen
import Derived.Test.YtklglpmlfboglabWin
import Derived.Test.YtklglpmlfboglabSignI
namespace Go.Proofs.Ytklglpmlfboglab.fnExactSignsFault
open Go.ChangeShapes Go.WideShapes Go.ChangeAt Go.RowKit
set_option linter.unusedVariables false

theorem own : ownKnob Try.prog.godebug = none := by kernel_rfl
theorem laidOut : laidOutB Try.prog = true := by kernel_rfl

/-! The walk. -/
set_option maxRecDepth 4000 in
set_option maxHeartbeats 4000000 in
theorem walk (l0 : _) (p0 : Option Addr) (q0 : Nat) (w : World) (r0 : RdL signC w p0 q0 l0) :
    Calls Try.prog 3 #[.slice p0 l0.length q0] w fun e w' => e = .returned (.bool true) ∧ Below w.heap.size w w' := by
  by_cases hl0 : sizeSign l0 ≤ 1048576
  · go_enter Try.func3, Try.ntmps3
    go_wp2_with fail
    refine (szSignS_c l0 p0 q0 _ _ r0 (by omega) (by omega)).mono ?_
    rintro e w1 ⟨rfl, hb1⟩
    have z1 : Hid (w.heap.size ≤ w1.heap.size) := hb1.size
    have BW := hb1
    clear hb1
    rw [szR, if_pos (by omega)]
    go_wp2_with fail
    refine (toSignS_c l0 _ _ _ (r0.keep BW) (by omega)).mono ?_
    rintro e w2 ⟨u0, ys0, fp0, rfl, k0, hb2⟩
    obtain ⟨pc0, qc0, rfl, -⟩ := k0.rd
    have gk0 : Hid (∀ k, k ∈ _ → w1.heap.size ≤ k ∧ k < w2.heap.size) := fun k hk => ⟨by have h := (k0.ins k hk).1; exact h, (k0.ins k hk).2⟩
    replace k0 := k0.win (Nat.le_refl _) gk0.out
    have z2 : Hid (w1.heap.size ≤ w2.heap.size) := hb2.size
    replace BW := Below.step BW hb2
    clear hb2
    go_wp2_with fail
    refine (specSg_c l0 pc0 qc0 _ (RdL.own k0.now)).mono ?_
    rintro e w3 ⟨rfl, hb3⟩
    have z3 : Hid (w2.heap.size ≤ w3.heap.size) := hb3.size
    replace k0 := k0.stay hb3
    replace BW := Below.step BW hb3
    clear hb3
    clear k0
    go_wp2_with fail
    refine (toSignS_c l0 _ _ _ (r0.keep BW) (by omega)).mono ?_
    rintro e w4 ⟨u1, ys1, fp1, rfl, k1, hb4⟩
    obtain ⟨pc1, qc1, rfl, -⟩ := k1.rd
    have gk1 : Hid (∀ k, k ∈ _ → w3.heap.size ≤ k ∧ k < w4.heap.size) := fun k hk => ⟨by have h := (k1.ins k hk).1; exact h, (k1.ins k hk).2⟩
    replace k1 := k1.win (Nat.le_refl _) gk1.out
    have z4 : Hid (w3.heap.size ≤ w4.heap.size) := hb4.size
    replace BW := Below.step BW hb4
    clear hb4
    go_wp2_with fail
    refine (implSg_c l0 pc1 qc1 _ (RdL.own k1.now)).mono ?_
    rintro e w5 ⟨rfl, hb5⟩
    have z5 : Hid (w4.heap.size ≤ w5.heap.size) := hb5.size
    replace k1 := k1.stay hb5
    replace BW := Below.step BW hb5
    clear hb5
    go_wp2_with fail
    refine (toSignS_c l0 _ _ _ (r0.keep BW) (by omega)).mono ?_
    rintro e w6 ⟨u2, ys2, fp2, rfl, k2, hb6⟩
    obtain ⟨pc2, qc2, rfl, -⟩ := k2.rd
    have gk2 : Hid (∀ k, k ∈ _ → w5.heap.size ≤ k ∧ k < w6.heap.size) := fun k hk => ⟨by have h := (k2.ins k hk).1; exact h, (k2.ins k hk).2⟩
    replace k2 := k2.win (Nat.le_refl _) gk2.out
    have z6 : Hid (w5.heap.size ≤ w6.heap.size) := hb6.size
    replace k1 := k1.stay hb6
    replace BW := Below.step BW hb6
    clear hb6
    go_wp2_with fail
    refine (eqSignS_c l0 pc1 pc2 qc1 qc2 _ (RdL.own k1.now) (RdL.own k2.now)).mono ?_
    rintro e w7 ⟨rfl, hb7⟩
    have z7 : Hid (w6.heap.size ≤ w7.heap.size) := hb7.size
    replace k1 := k1.stay hb7
    replace k2 := k2.stay hb7
    replace BW := Below.step BW hb7
    clear hb7
    clear k2
    go_wp2
    go_ret
    exact ⟨rfl, BW⟩
  · go_enter Try.func3, Try.ntmps3
    go_wp2_with fail
    refine (szSignS_c l0 p0 q0 _ _ r0 (by omega) (by omega)).mono ?_
    rintro e w1 ⟨rfl, hb1⟩
    have z1 : Hid (w.heap.size ≤ w1.heap.size) := hb1.size
    have BW := hb1
    clear hb1
    rw [szR, if_neg (by omega)]
    go_wp2
    go_ret
    exact ⟨rfl, BW⟩

/-! The row's step. -/
set_option maxRecDepth 100000 in
set_option maxHeartbeats 1000000 in
theorem lifted (os : Os) (started : os.Started) (H : Type) (enc : TypeId × Value → H) :
    ReturnsInHanded {} Try.checked os 3 .any (Rows.fnExactSignsFaultSpec.pre6 enc Try.prog Try.f3 Rows.fnExactSignsFaultRow.domain false) (Rows.fnExactSignsFaultSpec.post enc Try.prog Try.f3 false true false false) := by
  refine returnsInHanded_of_change (C := Try.checked) own started (by kernel_rfl) Try.func3
    (ChangeSpec.witness6 (enc := enc) (C := Try.checked) false ⟨#[], #[.slice none 0 0], []⟩ 8 (by kernel_rfl) (by kernel_rfl) (by kernel_rfl) (by kernel_rfl)) ?_
  intro W base args ds gs before hval0 hW hcnd _
  have hval : ∀ (j : Nat) t v, Try.f3.params[j]? = some t → args[j]? = some v → Value.okWide Try.prog W .any base t v := hval0
  have hW' := hW
  obtain ⟨p, q, hA0, hV, rfl, hfz, hnd⟩ := hW
  have hA : DataW.TrodAll enc Try.prog W 0 (fun _ => true) true Try.f3.params.toList args.toList ds p := hA0
  rw [Try.params3] at hA hval
  obtain ⟨v0, vs0, d0, ds0, s0, t0, hargs, rfl, rfl, h0, m0⟩ := trodAll_cons hA
  obtain ⟨rfl, rfl, rfl⟩ := trodAll_nil m0
  obtain rfl : args = #[v0] := by cases args; simp_all
  obtain ⟨rfl, rfl⟩ := trodVars_none hV
  obtain ⟨e0, len0, cap0, rfl⟩ := okWide_slice Try.underlying22 (hval 0 22 v0 rfl rfl)
  have k0 := h0
  have lt0 : ∀ x ∈ s0, x.block < W.heap.size := by obtain ⟨m, hm⟩ := k0; exact DataW.trod_lt m _ _ _ hm
  obtain ⟨l0, p0, q0, g0, r0⟩ : ∃ x, Cod.rep (listC 54 signC) W x [.slice e0 len0 cap0] := by obtain ⟨fuel, hf⟩ := h0; exact (opens_list (e' := 54) (c := signC) Try.underlying22 (by kernel_rfl) (by decide) (opens_struct (c := signC) Try.underlying54 (by kernel_rfl) (opensF_cons rfl (by kernel_rfl) (opens_int Try.underlying2) (opensF_cons rfl (by kernel_rfl) (opens_int Try.underlying2) (opensF_one rfl (by kernel_rfl) (opens_bytes Try.underlying31 Try.underlying5 (by kernel_rfl))))))) _ _ _ hf
  simp only [List.cons.injEq, Value.slice.injEq, and_true] at g0
  obtain ⟨rfl, rfl, rfl⟩ := g0
  clear hA0 hval0
  refine (walk l0 e0 cap0 W r0).mono fun e W' ⟨he, bel⟩ => ?_
  subst he
  exact ⟨_, rfl, _, _, _, [], _, [], hW', trodAll_mk1 (shut_bool Try.underlying4 _), (trodAll_cons_mk (Below.trod laidOut (by kernel_rfl) (of_decide_eq_true (by kernel_rfl)) k0 bel lt0) trodAll_mk0), rfl, bel.frame _, fun h => by cases h⟩

theorem over : Rows.fnExactSignsFaultRow.holds Try.pinned (OpenSpec.ofChange Rows.fnExactSignsFaultSpec) :=
  OpenClaim.holds_of_wide 3 Try.f3 rfl rfl rfl rfl rfl rfl rfl ⟨rfl, rfl, rfl, rfl, rfl⟩ rfl rfl rfl rfl rfl (by kernel_rfl) Try.func3 (by kernel_rfl)
    (of_decide_eq_true (by kernel_rfl)) (by unfold Func.isWrapper; first | (rw [if_pos (by decide +kernel)]; kernel_rfl) | (rw [if_neg (by decide +kernel)]; exact ⟨rfl, rfl⟩))
    (fun os started H enc _ => lifted os started H enc)

/-- The given statement. -/
theorem proved : Rows.FnExactSignsFaultSaid := over
end Go.Proofs.Ytklglpmlfboglab.fnExactSignsFault

namespace Go.Proofs.Ytklglpmlfboglab
theorem fnExactSignsFault_holds : Rows.FnExactSignsFaultSaid := fnExactSignsFault.proved
end Go.Proofs.Ytklglpmlfboglab
