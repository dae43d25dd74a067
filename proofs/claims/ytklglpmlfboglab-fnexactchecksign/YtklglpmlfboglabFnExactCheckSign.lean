/- CheckSign of the program answers as the specification's, and leaves its argument alone. For every argument; no condition. -/
import Derived.Test.YtklglpmlfboglabRows
import Derived.WalkKit
import Derived.ProofKit
import Derived.OpenShut
import Derived.ChangeOld
import Derived.Below
import Derived.Test.YtklglpmlfboglabOpen
import Derived.Test.YtklglpmlfboglabWin
import Derived.Test.YtklglpmlfboglabSignN
import Derived.Test.YtklglpmlfboglabJoint2
namespace Go.Proofs.Ytklglpmlfboglab.fnExactCheckSign
open Go.ChangeShapes Go.WideShapes Go.ChangeAt Go.RowKit
set_option linter.unusedVariables false

theorem own : ownKnob Try.prog.godebug = none := by kernel_rfl
theorem laidOut : laidOutB Try.prog = true := by kernel_rfl

/-! The walk. -/
set_option maxRecDepth 4000 in
set_option maxHeartbeats 4000000 in
theorem walk (l0 : _) (p0 : Option Addr) (q0 : Nat) (a1 : Int) (a2 : Int) (bs3 : List UInt8) (p3 : Option Addr) (q3 : Nat) (w : World) (r0 : RdL signC w p0 q0 l0) (f1 : (Lit.int .i64 a1).wf = true) (f2 : (Lit.int .i64 a2).wf = true) (r3 : Rd w p3 q3 bs3) :
    Calls Try.prog 5 #[.slice p0 l0.length q0, .int .i64 a1, .int .i64 a2, .slice p3 bs3.length q3] w fun e w' => e = .returned (.bool true) ∧ Below w.heap.size w w' := by
  by_cases hl3 : 1048576 < bs3.length
  · go_enter Try.func5, Try.ntmps5
    go_wp2
    go_ret
    exact ⟨rfl, Below.refl _ _⟩
  replace hl3 : bs3.length ≤ 1048576 := by omega
  by_cases hl0 : sizeSign l0 ≤ 1048576
  · go_enter Try.func5, Try.ntmps5
    go_wp2_with fail
    refine (szSignS_c l0 p0 q0 _ _ r0 (by omega) (by omega)).mono ?_
    rintro e w1 ⟨rfl, hb1⟩
    have z1 : Hid (w.heap.size ≤ w1.heap.size) := hb1.size
    have BW := hb1
    clear hb1
    rw [szR, if_pos (by omega)]
    go_wp2_with fail
    refine (toSignS_c l0 _ _ _ (r0.keep BW) (by omega)).mono ?_
    rintro e w2 ⟨u0, ys0, fp0, rfl, k0, hb2⟩
    obtain ⟨pc0, qc0, rfl, -⟩ := k0.rd
    have gk0 : Hid (∀ k, k ∈ _ → w1.heap.size ≤ k ∧ k < w2.heap.size) := fun k hk => ⟨by have h := (k0.ins k hk).1; exact h, (k0.ins k hk).2⟩
    replace k0 := k0.win (Nat.le_refl _) gk0.out
    have z2 : Hid (w1.heap.size ≤ w2.heap.size) := hb2.size
    replace BW := Below.step BW hb2
    clear hb2
    go_wp2_with fail
    refine (toByteS_c _ _ bs3 _ (r3.keep BW) (by omega)).mono ?_
    rintro e w3 ⟨u1, rfl, k1, hb3⟩
    obtain ⟨pc1, qc1, rfl, -⟩ := k1.rd
    have gk1 : Hid (∀ k, k ∈ _ → w2.heap.size ≤ k ∧ k < w3.heap.size) := fun k hk => ⟨by have h := (k1.ins k hk).1; exact h, (k1.ins k hk).2⟩
    replace k1 := k1.win (Nat.le_refl _) gk1.out
    have z3 : Hid (w2.heap.size ≤ w3.heap.size) := hb3.size
    replace k0 := k0.stay hb3
    replace BW := Below.step BW hb3
    clear hb3
    go_wp2_with fail
    refine (specCk_c l0 pc0 pc1 qc0 qc1 a1 a2 bs3 _ (RdL.own k0.now) (Rd.own k1.now) f1).mono ?_
    rintro e w4 ⟨rfl, hb4⟩
    have z4 : Hid (w3.heap.size ≤ w4.heap.size) := hb4.size
    replace k0 := k0.stay hb4
    replace k1 := k1.stay hb4
    replace BW := Below.step BW hb4
    clear hb4
    clear k0 k1
    go_wp2_with fail
    refine (toSignS_c l0 _ _ _ (r0.keep BW) (by omega)).mono ?_
    rintro e w5 ⟨u2, ys2, fp2, rfl, k2, hb5⟩
    obtain ⟨pc2, qc2, rfl, -⟩ := k2.rd
    have gk2 : Hid (∀ k, k ∈ _ → w4.heap.size ≤ k ∧ k < w5.heap.size) := fun k hk => ⟨by have h := (k2.ins k hk).1; exact h, (k2.ins k hk).2⟩
    replace k2 := k2.win (Nat.le_refl _) gk2.out
    have z5 : Hid (w4.heap.size ≤ w5.heap.size) := hb5.size
    replace BW := Below.step BW hb5
    clear hb5
    go_wp2_with fail
    refine (toByteS_c _ _ bs3 _ (r3.keep BW) (by omega)).mono ?_
    rintro e w6 ⟨u3, rfl, k3, hb6⟩
    obtain ⟨pc3, qc3, rfl, -⟩ := k3.rd
    have gk3 : Hid (∀ k, k ∈ _ → w5.heap.size ≤ k ∧ k < w6.heap.size) := fun k hk => ⟨by have h := (k3.ins k hk).1; exact h, (k3.ins k hk).2⟩
    replace k3 := k3.win (Nat.le_refl _) gk3.out
    have z6 : Hid (w5.heap.size ≤ w6.heap.size) := hb6.size
    replace k2 := k2.stay hb6
    replace BW := Below.step BW hb6
    clear hb6
    go_wp2_with fail
    refine (implCk_c l0 pc2 pc3 qc2 qc3 a1 a2 bs3 _ (RdL.own k2.now) (Rd.own k3.now) f1 f2).mono ?_
    rintro e w7 ⟨rfl, hb7⟩
    have z7 : Hid (w6.heap.size ≤ w7.heap.size) := hb7.size
    replace k2 := k2.stay hb7
    replace k3 := k3.stay hb7
    replace BW := Below.step BW hb7
    clear hb7
    go_wp2_with fail
    refine (toSignS_c l0 _ _ _ (r0.keep BW) (by omega)).mono ?_
    rintro e w8 ⟨u4, ys4, fp4, rfl, k4, hb8⟩
    obtain ⟨pc4, qc4, rfl, -⟩ := k4.rd
    have gk4 : Hid (∀ k, k ∈ _ → w7.heap.size ≤ k ∧ k < w8.heap.size) := fun k hk => ⟨by have h := (k4.ins k hk).1; exact h, (k4.ins k hk).2⟩
    replace k4 := k4.win (Nat.le_refl _) gk4.out
    have z8 : Hid (w7.heap.size ≤ w8.heap.size) := hb8.size
    replace k2 := k2.stay hb8
    replace k3 := k3.stay hb8
    replace BW := Below.step BW hb8
    clear hb8
    go_wp2_with fail
    refine (eqSignS_c l0 pc2 pc4 qc2 qc4 _ (RdL.own k2.now) (RdL.own k4.now)).mono ?_
    rintro e w9 ⟨rfl, hb9⟩
    have z9 : Hid (w8.heap.size ≤ w9.heap.size) := hb9.size
    replace k2 := k2.stay hb9
    replace k3 := k3.stay hb9
    replace k4 := k4.stay hb9
    replace BW := Below.step BW hb9
    clear hb9
    clear k4
    go_wp2_with fail
    refine (toByteS_c _ _ bs3 _ (r3.keep BW) (by omega)).mono ?_
    rintro e w10 ⟨u5, rfl, k5, hb10⟩
    obtain ⟨pc5, qc5, rfl, -⟩ := k5.rd
    have gk5 : Hid (∀ k, k ∈ _ → w9.heap.size ≤ k ∧ k < w10.heap.size) := fun k hk => ⟨by have h := (k5.ins k hk).1; exact h, (k5.ins k hk).2⟩
    replace k5 := k5.win (Nat.le_refl _) gk5.out
    have z10 : Hid (w9.heap.size ≤ w10.heap.size) := hb10.size
    replace k2 := k2.stay hb10
    replace k3 := k3.stay hb10
    replace BW := Below.step BW hb10
    clear hb10
    go_wp2_with fail
    refine (eqByteS_c pc3 pc5 qc3 qc5 bs3 _ (Rd.own k3.now) (Rd.own k5.now)).mono ?_
    rintro e w11 ⟨rfl, hb11⟩
    have z11 : Hid (w10.heap.size ≤ w11.heap.size) := hb11.size
    replace k2 := k2.stay hb11
    replace k3 := k3.stay hb11
    replace k5 := k5.stay hb11
    replace BW := Below.step BW hb11
    clear hb11
    clear k5
    go_wp2
    go_ret
    exact ⟨rfl, BW⟩
  · go_enter Try.func5, Try.ntmps5
    go_wp2_with fail
    refine (szSignS_c l0 p0 q0 _ _ r0 (by omega) (by omega)).mono ?_
    rintro e w1 ⟨rfl, hb1⟩
    have z1 : Hid (w.heap.size ≤ w1.heap.size) := hb1.size
    have BW := hb1
    clear hb1
    rw [szR, if_neg (by omega)]
    go_wp2
    go_ret
    exact ⟨rfl, BW⟩

/-! The row's step. -/
set_option maxRecDepth 100000 in
set_option maxHeartbeats 1000000 in
theorem lifted (os : Os) (started : os.Started) (H : Type) (enc : TypeId × Value → H) :
    ReturnsInHanded {} Try.checked os 5 .any (Rows.fnExactCheckSignSpec.pre6 enc Try.prog Try.f5 Rows.fnExactCheckSignRow.domain false) (Rows.fnExactCheckSignSpec.post enc Try.prog Try.f5 false true false false) := by
  refine returnsInHanded_of_change (C := Try.checked) own started (by kernel_rfl) Try.func5
    (ChangeSpec.witness6 (enc := enc) (C := Try.checked) false ⟨#[], #[.slice none 0 0, .int .i64 0, .int .i64 0, .slice none 0 0], []⟩ 8 (by kernel_rfl) (by kernel_rfl) (by kernel_rfl) (by kernel_rfl)) ?_
  intro W base args ds gs before hval0 hW hcnd _
  have hval : ∀ (j : Nat) t v, Try.f5.params[j]? = some t → args[j]? = some v → Value.okWide Try.prog W .any base t v := hval0
  have hW' := hW
  obtain ⟨p, q, hA0, hV, rfl, hfz, hnd⟩ := hW
  have hA : DataW.TrodAll enc Try.prog W 0 (fun _ => true) true Try.f5.params.toList args.toList ds p := hA0
  rw [Try.params5] at hA hval
  obtain ⟨v0, vs0, d0, ds0, s0, t0, hargs, rfl, rfl, h0, m0⟩ := trodAll_cons hA
  obtain ⟨v1, vs1, d1, ds1, s1, t1, rfl, rfl, rfl, h1, m1⟩ := trodAll_cons m0
  obtain ⟨v2, vs2, d2, ds2, s2, t2, rfl, rfl, rfl, h2, m2⟩ := trodAll_cons m1
  obtain ⟨v3, vs3, d3, ds3, s3, t3, rfl, rfl, rfl, h3, m3⟩ := trodAll_cons m2
  obtain ⟨rfl, rfl, rfl⟩ := trodAll_nil m3
  obtain rfl : args = #[v0, v1, v2, v3] := by cases args; simp_all
  obtain ⟨rfl, rfl⟩ := trodVars_none hV
  obtain ⟨e0, len0, cap0, rfl⟩ := okWide_slice Try.underlying22 (hval 0 22 v0 rfl rfl)
  have k0 := h0
  have lt0 : ∀ x ∈ s0, x.block < W.heap.size := by obtain ⟨m, hm⟩ := k0; exact DataW.trod_lt m _ _ _ hm
  obtain ⟨l0, p0, q0, g0, r0⟩ : ∃ x, Cod.rep (listC 54 signC) W x [.slice e0 len0 cap0] := by obtain ⟨fuel, hf⟩ := h0; exact (opens_list (e' := 54) (c := signC) Try.underlying22 (by kernel_rfl) (by decide) (opens_struct (c := signC) Try.underlying54 (by kernel_rfl) (opensF_cons rfl (by kernel_rfl) (opens_int Try.underlying2) (opensF_cons rfl (by kernel_rfl) (opens_int Try.underlying2) (opensF_one rfl (by kernel_rfl) (opens_bytes Try.underlying31 Try.underlying5 (by kernel_rfl))))))) _ _ _ hf
  simp only [List.cons.injEq, Value.slice.injEq, and_true] at g0
  obtain ⟨rfl, rfl, rfl⟩ := g0
  obtain ⟨a1, rfl, rfl, rfl, f1⟩ := open_int Try.underlying2 (hval 1 2 v1 rfl rfl) h1
  obtain ⟨a2, rfl, rfl, rfl, f2⟩ := open_int Try.underlying2 (hval 2 2 v2 rfl rfl) h2
  obtain ⟨e3, len3, cap3, rfl⟩ := okWide_slice Try.underlying31 (hval 3 31 v3 rfl rfl)
  have k3 := h3
  have lt3 : ∀ x ∈ s3, x.block < W.heap.size := by obtain ⟨m, hm⟩ := k3; exact DataW.trod_lt m _ _ _ hm
  obtain ⟨bs3, p3, q3, g3, r3⟩ : ∃ x, Cod.rep bytC W x [.slice e3 len3 cap3] := by obtain ⟨fuel, hf⟩ := h3; exact (opens_bytes Try.underlying31 Try.underlying5 (by kernel_rfl)) _ _ _ hf
  simp only [List.cons.injEq, Value.slice.injEq, and_true] at g3
  obtain ⟨rfl, rfl, rfl⟩ := g3
  clear hA0 hval0
  refine (walk l0 e0 cap0 a1 a2 bs3 e3 cap3 W r0 f1 f2 r3).mono fun e W' ⟨he, bel⟩ => ?_
  subst he
  exact ⟨_, rfl, _, _, _, [], _, [], hW', trodAll_mk1 (shut_bool Try.underlying4 _), (trodAll_cons_mk (Below.trod laidOut (by kernel_rfl) (of_decide_eq_true (by kernel_rfl)) k0 bel lt0) (trodAll_cons_mk (shut_int Try.underlying2 f1) (trodAll_cons_mk (shut_int Try.underlying2 f2) (trodAll_cons_mk (Below.trod laidOut (by kernel_rfl) (of_decide_eq_true (by kernel_rfl)) k3 bel lt3) trodAll_mk0)))), rfl, bel.frame _, fun h => by cases h⟩

theorem over : Rows.fnExactCheckSignRow.holds Try.pinned (OpenSpec.ofChange Rows.fnExactCheckSignSpec) :=
  OpenClaim.holds_of_wide 5 Try.f5 rfl rfl rfl rfl rfl rfl rfl ⟨rfl, rfl, rfl, rfl, rfl⟩ rfl rfl rfl rfl rfl (by kernel_rfl) Try.func5 (by kernel_rfl)
    (of_decide_eq_true (by kernel_rfl)) (by unfold Func.isWrapper; first | (rw [if_pos (by decide +kernel)]; kernel_rfl) | (rw [if_neg (by decide +kernel)]; exact ⟨rfl, rfl⟩))
    (fun os started H enc _ => lifted os started H enc)

/-- The given statement. -/
theorem proved : Rows.FnExactCheckSignSaid := over
end Go.Proofs.Ytklglpmlfboglab.fnExactCheckSign

namespace Go.Proofs.Ytklglpmlfboglab
theorem fnExactCheckSign_holds : Rows.FnExactCheckSignSaid := fnExactCheckSign.proved
end Go.Proofs.Ytklglpmlfboglab
