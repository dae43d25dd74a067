/- UnpackCert of the program answers as the specification's, and leaves its argument alone. For every argument; no condition. -/
import Derived.Test.YtklglpmlfboglaaRows
import Derived.WalkKit
import Derived.ProofKit
import Derived.OpenShut
import Derived.ChangeOld
import Derived.Below
import Derived.Test.YtklglpmlfboglaaOpen
import Derived.Test.YtklglpmlfboglaaWin
import Derived.Test.YtklglpmlfboglaaCertK
import Derived.Test.YtklglpmlfboglaaCertJ
import Derived.Test.YtklglpmlfboglaaEqBytes
namespace Go.Proofs.Ytklglpmlfboglaa.fnExactUnpackCert
open Go.ChangeShapes Go.WideShapes Go.ChangeAt Go.RowKit
set_option linter.unusedVariables false

theorem own : ownKnob Try.prog.godebug = none := by kernel_rfl
theorem laidOut : laidOutB Try.prog = true := by kernel_rfl

/-! The walk. -/
set_option maxRecDepth 4000 in
set_option maxHeartbeats 4000000 in
theorem walk (bs0 : List UInt8) (p0 : Option Addr) (q0 : Nat) (w : World) (r0 : Rd w p0 q0 bs0) :
    Calls Try.prog 7 #[.slice p0 bs0.length q0] w fun e w' => e = .returned (.bool true) ∧ Below w.heap.size w w' := by
  by_cases hl0 : 1048576 < bs0.length
  · go_enter Try.func7, Try.ntmps7
    go_wp2
    go_ret
    exact ⟨rfl, Below.refl _ _⟩
  replace hl0 : bs0.length ≤ 1048576 := by omega
  go_enter Try.func7, Try.ntmps7
  go_wp2_with fail
  refine (toByteS_c _ _ bs0 _ r0 (by omega)).mono ?_
  rintro e w1 ⟨u0, rfl, k0, hb1⟩
  obtain ⟨pc0, qc0, rfl, -⟩ := k0.rd
  have gk0 : Hid (∀ k, k ∈ _ → w.heap.size ≤ k ∧ k < w1.heap.size) := fun k hk => ⟨by have h := (k0.ins k hk).1; exact h, (k0.ins k hk).2⟩
  replace k0 := k0.win (Nat.le_refl _) gk0.out
  have z1 : Hid (w.heap.size ≤ w1.heap.size) := hb1.size
  have BW := hb1
  clear hb1
  go_wp2_with fail
  refine (specUc_c bs0 pc0 qc0 _ (Rd.own k0.now)).mono ?_
  rintro e w2 ⟨rfl, hb2⟩
  have z2 : Hid (w1.heap.size ≤ w2.heap.size) := hb2.size
  replace k0 := k0.stay hb2
  replace BW := Below.step BW hb2
  clear hb2
  clear k0
  go_wp2_with fail
  refine (toByteS_c _ _ bs0 _ ((r0.keep BW).keep (alloc_below _ _)) (by omega)).mono ?_
  rintro e w3 ⟨u1, rfl, k1, hb3⟩
  obtain ⟨pc1, qc1, rfl, -⟩ := k1.rd
  have gk1 : Hid (∀ k, k ∈ _ → (w2.heap.size + 1) ≤ k ∧ k < w3.heap.size) := fun k hk => ⟨by have h := (k1.ins k hk).1; rw [size_alloc] at h; exact h, (k1.ins k hk).2⟩
  replace k1 := k1.win (Nat.le_refl _) gk1.out
  have sA := (Has.new hb3).win
  have z3 : Hid (w2.heap.size + 1 ≤ w3.heap.size) := size_lt hb3
  replace hb3 := Below.res hb3
  replace BW := Below.step BW hb3
  clear hb3
  go_wp2_with fail
  refine (implUc_c bs0 pc1 qc1 _ (Rd.own k1.now)).mono ?_
  rintro e w4 ⟨rfl, hb4⟩
  have z4 : Hid (w3.heap.size ≤ w4.heap.size) := hb4.size
  replace sA := sA.stay hb4
  replace k1 := k1.stay hb4
  replace BW := Below.step BW hb4
  clear hb4
  have csA0 := sA.now 0 _ rfl
  have csA1 := sA.now 1 _ rfl
  have csA2 := sA.now 2 _ rfl
  have csA3 := sA.now 3 _ rfl
  have zsA := Has.lt sA.now
  go_wp2_with fail
  refine (eqCertResult_c (ucD bs0).1 (ucD bs0).2 _).mono ?_
  rintro e w5 ⟨rfl, hb5⟩
  have sB := (Has.new hb5).win
  have z5 : Hid (w4.heap.size + 1 ≤ w5.heap.size) := size_lt hb5
  replace hb5 := Below.res hb5
  replace sA := sA.stay hb5
  replace k1 := k1.stay hb5
  replace BW := Below.step BW hb5
  clear hb5 csA0 csA1 csA2 csA3 zsA
  go_wp2_with fail
  refine (toByteS_c _ _ bs0 _ (r0.keep BW) (by omega)).mono ?_
  rintro e w6 ⟨u2, rfl, k2, hb6⟩
  obtain ⟨pc2, qc2, rfl, -⟩ := k2.rd
  have gk2 : Hid (∀ k, k ∈ _ → w5.heap.size ≤ k ∧ k < w6.heap.size) := fun k hk => ⟨by have h := (k2.ins k hk).1; exact h, (k2.ins k hk).2⟩
  replace k2 := k2.win (Nat.le_refl _) gk2.out
  have z6 : Hid (w5.heap.size ≤ w6.heap.size) := hb6.size
  replace sA := sA.stay hb6
  replace k1 := k1.stay hb6
  replace sB := sB.stay hb6
  replace BW := Below.step BW hb6
  clear hb6
  go_wp2_with fail
  refine (eqByteS_c pc1 pc2 qc1 qc2 bs0 _ (Rd.own k1.now) (Rd.own k2.now)).mono ?_
  rintro e w7 ⟨rfl, hb7⟩
  have z7 : Hid (w6.heap.size ≤ w7.heap.size) := hb7.size
  replace sA := sA.stay hb7
  replace k1 := k1.stay hb7
  replace sB := sB.stay hb7
  replace k2 := k2.stay hb7
  replace BW := Below.step BW hb7
  clear hb7
  clear k2
  go_wp2
  go_ret
  exact ⟨rfl, BW⟩

/-! The row's step. -/
set_option maxRecDepth 100000 in
set_option maxHeartbeats 1000000 in
theorem lifted (os : Os) (started : os.Started) (H : Type) (enc : TypeId × Value → H) :
    ReturnsInHanded {} Try.checked os 7 .any (Rows.fnExactUnpackCertSpec.pre6 enc Try.prog Try.f7 Rows.fnExactUnpackCertRow.domain false) (Rows.fnExactUnpackCertSpec.post enc Try.prog Try.f7 false true false false) := by
  refine returnsInHanded_of_change (C := Try.checked) own started (by kernel_rfl) Try.func7
    (ChangeSpec.witness6 (enc := enc) (C := Try.checked) false ⟨#[], #[.slice none 0 0], []⟩ 8 (by kernel_rfl) (by kernel_rfl) (by kernel_rfl) (by kernel_rfl)) ?_
  intro W base args ds gs before hval0 hW hcnd _
  have hval : ∀ (j : Nat) t v, Try.f7.params[j]? = some t → args[j]? = some v → Value.okWide Try.prog W .any base t v := hval0
  have hW' := hW
  obtain ⟨p, q, hA0, hV, rfl, hfz, hnd⟩ := hW
  have hA : DataW.TrodAll enc Try.prog W 0 (fun _ => true) true Try.f7.params.toList args.toList ds p := hA0
  rw [Try.params7] at hA hval
  obtain ⟨v0, vs0, d0, ds0, s0, t0, hargs, rfl, rfl, h0, m0⟩ := trodAll_cons hA
  obtain ⟨rfl, rfl, rfl⟩ := trodAll_nil m0
  obtain rfl : args = #[v0] := by cases args; simp_all
  obtain ⟨rfl, rfl⟩ := trodVars_none hV
  obtain ⟨e0, len0, cap0, rfl⟩ := okWide_slice Try.underlying22 (hval 0 22 v0 rfl rfl)
  have k0 := h0
  have lt0 : ∀ x ∈ s0, x.block < W.heap.size := by obtain ⟨m, hm⟩ := k0; exact DataW.trod_lt m _ _ _ hm
  obtain ⟨bs0, p0, q0, g0, r0⟩ : ∃ x, Cod.rep bytC W x [.slice e0 len0 cap0] := by obtain ⟨fuel, hf⟩ := h0; exact (opens_bytes Try.underlying22 Try.underlying5 (by kernel_rfl)) _ _ _ hf
  simp only [List.cons.injEq, Value.slice.injEq, and_true] at g0
  obtain ⟨rfl, rfl, rfl⟩ := g0
  clear hA0 hval0
  refine (walk bs0 e0 cap0 W r0).mono fun e W' ⟨he, bel⟩ => ?_
  subst he
  exact ⟨_, rfl, _, _, _, [], _, [], hW', trodAll_mk1 (shut_bool Try.underlying4 _), (trodAll_cons_mk (Below.trod laidOut (by kernel_rfl) (of_decide_eq_true (by kernel_rfl)) k0 bel lt0) trodAll_mk0), rfl, bel.frame _, fun h => by cases h⟩

theorem over : Rows.fnExactUnpackCertRow.holds Try.pinned (OpenSpec.ofChange Rows.fnExactUnpackCertSpec) :=
  OpenClaim.holds_of_wide 7 Try.f7 rfl rfl rfl rfl rfl rfl rfl ⟨rfl, rfl, rfl, rfl, rfl⟩ rfl rfl rfl rfl rfl (by kernel_rfl) Try.func7 (by kernel_rfl)
    (of_decide_eq_true (by kernel_rfl)) (by unfold Func.isWrapper; first | (rw [if_pos (by decide +kernel)]; kernel_rfl) | (rw [if_neg (by decide +kernel)]; exact ⟨rfl, rfl⟩))
    (fun os started H enc _ => lifted os started H enc)

/-- The given statement. -/
theorem proved : Rows.FnExactUnpackCertSaid := over
end Go.Proofs.Ytklglpmlfboglaa.fnExactUnpackCert

namespace Go.Proofs.Ytklglpmlfboglaa
theorem fnExactUnpackCert_holds : Rows.FnExactUnpackCertSaid := fnExactUnpackCert.proved
end Go.Proofs.Ytklglpmlfboglaa
