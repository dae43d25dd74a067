/- NewSession of the program answers as the specification's, code and bytes, leaves its arguments alone, and its answer owns its memory, behind another call too. For every argument; no condition. -/
import Derived.Test.YthfjnmkplifcmaaRows
import Derived.WalkKit
import Derived.ProofKit
import Derived.OpenShut
import Derived.ChangeOld
import Derived.Below
import Derived.Test.YthfjnmkplifcmaaOpen
import Derived.Test.YthfjnmkplifcmaaWin
import Derived.Test.YthfjnmkplifcmaaJoint3
import Derived.Test.YthfjnmkplifcmaaSesN
import Derived.Test.YthfjnmkplifcmaaJoint5
namespace Go.Proofs.Ythfjnmkplifcmaa.fnExactNewSession
open Go.ChangeShapes Go.WideShapes Go.ChangeAt Go.RowKit
set_option linter.unusedVariables false

theorem own : ownKnob Try.prog.godebug = none := by kernel_rfl
theorem laidOut : laidOutB Try.prog = true := by kernel_rfl

/-! The walk. -/
set_option maxRecDepth 4000 in
set_option maxHeartbeats 4000000 in
theorem walk (bs0 : List UInt8) (p0 : Option Addr) (q0 : Nat) (a1 : Int) (w : World) (r0 : Rd w p0 q0 bs0) (f1 : (Lit.int .i64 a1).wf = true) :
    Calls Try.prog 5 #[.slice p0 bs0.length q0, .int .i64 a1] w fun e w' => e = .returned (.bool true) ∧ Below w.heap.size w w' := by
  by_cases hl0 : 1048576 < bs0.length
  · go_enter Try.func5, Try.ntmps5
    go_wp2
    go_ret
    exact ⟨rfl, Below.refl _ _⟩
  replace hl0 : bs0.length ≤ 1048576 := by omega
  have hlen := nsD_small bs0 a1
  have hlen1 : 1 + sessionResultT (nsD bs0 a1) ≤ 1000000000 := by omega
  have hlen2 : 1 + sessionResultT (nsD bs0 a1) ≤ 1048577 := by omega
  go_enter Try.func5, Try.ntmps5
  go_wp2_with fail
  refine (toByteS_c _ _ bs0 _ r0 (by omega)).mono ?_
  rintro e w1 ⟨u0, rfl, k0, hb1⟩
  obtain ⟨pc0, qc0, rfl, -⟩ := k0.rd
  have gk0 : Hid (∀ k, k ∈ _ → w.heap.size ≤ k ∧ k < w1.heap.size) := fun k hk => ⟨by have h := (k0.ins k hk).1; exact h, (k0.ins k hk).2⟩
  replace k0 := k0.win (Nat.le_refl _) gk0.out
  have z1 : Hid (w.heap.size ≤ w1.heap.size) := hb1.size
  have BW := hb1
  clear hb1
  go_wp2_with fail
  refine (specNs_k pc0 qc0 bs0 a1 _ (Rd.own k0.now)).mono ?_
  rintro e w2 ⟨uss, fps, rfl, ks, hb2⟩
  obtain ⟨ps3_1, qs3_1, ps3_3, qs3_3, ps3_4, qs3_4, ps3_5, qs3_5, es, -, -, -, -⟩ := sessionResult_rep (sessionResultC.toRep ks)
  subst es
  have gks : Hid (∀ k, k ∈ _ → w1.heap.size ≤ k ∧ k < w2.heap.size) := fun k hk => ⟨by have h := (ks.ins k hk).1; exact h, (ks.ins k hk).2⟩
  replace ks := ks.win (Nat.le_refl _) gks.out
  have z2 : Hid (w1.heap.size ≤ w2.heap.size) := hb2.size
  replace k0 := k0.stay hb2
  replace BW := Below.step BW hb2
  clear hb2
  clear k0
  go_wp2_with fail
  refine (toByteS_c _ _ bs0 _ ((r0.keep BW).keep (alloc_below _ _)) (by omega)).mono ?_
  rintro e w3 ⟨u1, rfl, k1, hb3⟩
  obtain ⟨pc1, qc1, rfl, -⟩ := k1.rd
  have gk1 : Hid (∀ k, k ∈ _ → (w2.heap.size + 1) ≤ k ∧ k < w3.heap.size) := fun k hk => ⟨by have h := (k1.ins k hk).1; rw [size_alloc] at h; exact h, (k1.ins k hk).2⟩
  replace k1 := k1.win (Nat.le_refl _) gk1.out
  have sA := (Has.new hb3).win
  have z3 : Hid (w2.heap.size + 1 ≤ w3.heap.size) := size_lt hb3
  replace hb3 := Below.res hb3
  replace ks := ks.stay hb3
  replace BW := Below.step BW hb3
  clear hb3
  go_wp2_with fail
  refine (implNs_k pc1 qc1 bs0 a1 _ (Rd.own k1.now)).mono ?_
  rintro e w4 ⟨usg, fpg, rfl, kg, hb4⟩
  obtain ⟨pg3_1, qg3_1, pg3_3, qg3_3, pg3_4, qg3_4, pg3_5, qg3_5, es, -, -, -, -⟩ := sessionResult_rep (sessionResultC.toRep kg)
  subst es
  have gkg : Hid (∀ k, k ∈ _ → w3.heap.size ≤ k ∧ k < w4.heap.size) := fun k hk => ⟨by have h := (kg.ins k hk).1; exact h, (kg.ins k hk).2⟩
  replace kg := kg.win (Nat.le_refl _) gkg.out
  have z4 : Hid (w3.heap.size ≤ w4.heap.size) := hb4.size
  replace ks := ks.stay hb4
  replace sA := sA.stay hb4
  replace k1 := k1.stay hb4
  replace BW := Below.step BW hb4
  clear hb4
  have csA0 := sA.now 0 _ rfl
  have csA1 := sA.now 1 _ rfl
  have csA2 := sA.now 2 _ rfl
  have csA3 := sA.now 3 _ rfl
  have csA4 := sA.now 4 _ rfl
  have csA5 := sA.now 5 _ rfl
  have csA6 := sA.now 6 _ rfl
  have zsA := Has.lt sA.now
  go_wp2_with fail
  refine (eqSessionResult_k (nsD bs0 a1) _ _ _ (sessionResultC.toRep (kg.stay (alloc_below _ _)).now) (sessionResultC.toRep (ks.stay (alloc_below _ _)).now)).mono ?_
  rintro e w5 ⟨rfl, hb5⟩
  have sB := (Has.new hb5).win
  have z5 : Hid (w4.heap.size + 1 ≤ w5.heap.size) := size_lt hb5
  replace hb5 := Below.res hb5
  replace ks := ks.stay hb5
  replace sA := sA.stay hb5
  replace k1 := k1.stay hb5
  replace kg := kg.stay hb5
  replace BW := Below.step BW hb5
  clear hb5 csA0 csA1 csA2 csA3 csA4 csA5 csA6 zsA
  go_wp2_with fail
  refine (toByteS_c _ _ bs0 _ (r0.keep BW) (by omega)).mono ?_
  rintro e w6 ⟨u2, rfl, k2, hb6⟩
  obtain ⟨pc2, qc2, rfl, -⟩ := k2.rd
  have gk2 : Hid (∀ k, k ∈ _ → w5.heap.size ≤ k ∧ k < w6.heap.size) := fun k hk => ⟨by have h := (k2.ins k hk).1; exact h, (k2.ins k hk).2⟩
  replace k2 := k2.win (Nat.le_refl _) gk2.out
  have z6 : Hid (w5.heap.size ≤ w6.heap.size) := hb6.size
  replace ks := ks.stay hb6
  replace sA := sA.stay hb6
  replace k1 := k1.stay hb6
  replace kg := kg.stay hb6
  replace sB := sB.stay hb6
  replace BW := Below.step BW hb6
  clear hb6
  go_wp2_with fail
  refine (eqByteS_c pc1 pc2 qc1 qc2 bs0 _ (Rd.own k1.now) (Rd.own k2.now)).mono ?_
  rintro e w7 ⟨rfl, hb7⟩
  have z7 : Hid (w6.heap.size ≤ w7.heap.size) := hb7.size
  replace ks := ks.stay hb7
  replace sA := sA.stay hb7
  replace k1 := k1.stay hb7
  replace kg := kg.stay hb7
  replace sB := sB.stay hb7
  replace k2 := k2.stay hb7
  replace BW := Below.step BW hb7
  clear hb7
  clear k2
  go_wp2_with fail
  refine (markByteS_cn (1 : Nat) _ _ bs0 _ k1.now (by omega) (by omega) (by omega)).mono ?_
  rintro e w8 ⟨rfl, -, hg⟩
  have z8 : Hid (w7.heap.size ≤ w8.heap.size) := hg.size
  have sg := grown_seg hg gk1.out
  replace ks := ks.seg sg (by have := z1.out; have := z2.out; have := z3.out; have := z4.out; have := z5.out; have := z6.out; have := z7.out; have := z8.out; omega)
  replace sA := sA.seg sg (by have := z1.out; have := z2.out; have := z3.out; have := z4.out; have := z5.out; have := z6.out; have := z7.out; have := z8.out; omega)
  replace kg := kg.seg sg (by have := z1.out; have := z2.out; have := z3.out; have := z4.out; have := z5.out; have := z6.out; have := z7.out; have := z8.out; omega)
  replace sB := sB.seg sg (by have := z1.out; have := z2.out; have := z3.out; have := z4.out; have := z5.out; have := z6.out; have := z7.out; have := z8.out; omega)
  replace BW := Below.seg BW sg (by have := z1.out; have := z2.out; have := z3.out; have := z4.out; have := z5.out; have := z6.out; have := z7.out; have := z8.out; omega)
  clear hg sg k1
  obtain ⟨mk0, Hmk0⟩ : ∃ mk0 : Nat, Hid (mk0 = 1 + bs0.length) := ⟨_, rfl⟩
  rw [show (((1 : Nat) : Int) + (bs0.length : Int)) = (mk0 : Int) by have := Hmk0.out; omega]
  have csA0 := sA.now 0 _ rfl
  have csA1 := sA.now 1 _ rfl
  have csA2 := sA.now 2 _ rfl
  have csA3 := sA.now 3 _ rfl
  have csA4 := sA.now 4 _ rfl
  have csA5 := sA.now 5 _ rfl
  have csA6 := sA.now 6 _ rfl
  have zsA := Has.lt sA.now
  have csB0 := sB.now 0 _ rfl
  have csB1 := sB.now 1 _ rfl
  have csB2 := sB.now 2 _ rfl
  have csB3 := sB.now 3 _ rfl
  have csB4 := sB.now 4 _ rfl
  have csB5 := sB.now 5 _ rfl
  have csB6 := sB.now 6 _ rfl
  have zsB := Has.lt sB.now
  go_wp2_with fail
  refine (eqSessionResult_k (nsD bs0 a1) _ _ _ (sessionResultC.toRep kg.now) (sessionResultC.toRep ks.now)).mono ?_
  rintro e w9 ⟨rfl, hb9⟩
  have z9 : Hid (w8.heap.size ≤ w9.heap.size) := hb9.size
  replace ks := ks.stay hb9
  replace sA := sA.stay hb9
  replace kg := kg.stay hb9
  replace sB := sB.stay hb9
  replace BW := Below.step BW hb9
  clear hb9 csA0 csA1 csA2 csA3 csA4 csA5 csA6 zsA csB0 csB1 csB2 csB3 csB4 csB5 csB6 zsB
  have csB0 := sB.now 0 _ rfl
  have csB1 := sB.now 1 _ rfl
  have csB2 := sB.now 2 _ rfl
  have csB3 := sB.now 3 _ rfl
  have csB4 := sB.now 4 _ rfl
  have csB5 := sB.now 5 _ rfl
  have csB6 := sB.now 6 _ rfl
  have zsB := Has.lt sB.now
  go_wp2_with fail
  refine (markSessionResult_k (nsD bs0 a1) _ _ _ 1 1 rfl _ kg.now hlen1).mono ?_
  rintro e w10 ⟨rfl, km, hg⟩
  have z10 : Hid (w9.heap.size ≤ w10.heap.size) := hg.size
  have sg := Only.seg hg gkg.out
  replace ks := ks.seg sg (by have := z1.out; have := z2.out; have := z3.out; have := z4.out; have := z5.out; have := z6.out; have := z7.out; have := z8.out; have := z9.out; have := z10.out; omega)
  replace sA := sA.seg sg (by have := z1.out; have := z2.out; have := z3.out; have := z4.out; have := z5.out; have := z6.out; have := z7.out; have := z8.out; have := z9.out; have := z10.out; omega)
  replace sB := sB.seg sg (by have := z1.out; have := z2.out; have := z3.out; have := z4.out; have := z5.out; have := z6.out; have := z7.out; have := z8.out; have := z9.out; have := z10.out; omega)
  replace BW := Below.seg BW sg (by have := z1.out; have := z2.out; have := z3.out; have := z4.out; have := z5.out; have := z6.out; have := z7.out; have := z8.out; have := z9.out; have := z10.out; omega)
  replace km := km.win (by have := z1.out; have := z2.out; have := z3.out; have := z4.out; have := z5.out; have := z6.out; have := z7.out; have := z8.out; have := z9.out; have := z10.out; omega) gkg.out
  clear hg sg kg csB0 csB1 csB2 csB3 csB4 csB5 csB6 zsB
  have csB0 := sB.now 0 _ rfl
  have csB1 := sB.now 1 _ rfl
  have csB2 := sB.now 2 _ rfl
  have csB3 := sB.now 3 _ rfl
  have csB4 := sB.now 4 _ rfl
  have csB5 := sB.now 5 _ rfl
  have csB6 := sB.now 6 _ rfl
  have zsB := Has.lt sB.now
  go_wp2_with fail
  refine (heldSessionResult_k (nsD bs0 a1) _ 1 1 rfl _ (sessionResultC.toRep km.now) hlen2).mono ?_
  rintro e w11 ⟨rfl, hb11⟩
  have z11 : Hid (w10.heap.size ≤ w11.heap.size) := hb11.size
  replace ks := ks.stay hb11
  replace sA := sA.stay hb11
  replace sB := sB.stay hb11
  replace km := km.stay hb11
  replace BW := Below.step BW hb11
  clear hb11 csB0 csB1 csB2 csB3 csB4 csB5 csB6 zsB
  go_wp2_with fail
  refine (toByteS_c _ _ bs0 _ (r0.keep BW) (by omega)).mono ?_
  rintro e w12 ⟨u3, rfl, k3, hb12⟩
  obtain ⟨pc3, qc3, rfl, -⟩ := k3.rd
  have gk3 : Hid (∀ k, k ∈ _ → w11.heap.size ≤ k ∧ k < w12.heap.size) := fun k hk => ⟨by have h := (k3.ins k hk).1; exact h, (k3.ins k hk).2⟩
  replace k3 := k3.win (Nat.le_refl _) gk3.out
  have z12 : Hid (w11.heap.size ≤ w12.heap.size) := hb12.size
  replace ks := ks.stay hb12
  replace sA := sA.stay hb12
  replace sB := sB.stay hb12
  replace km := km.stay hb12
  replace BW := Below.step BW hb12
  clear hb12
  go_wp2_with fail
  refine (implNs_k pc3 qc3 bs0 a1 _ (Rd.own k3.now)).mono ?_
  rintro e w13 ⟨ush, fph, rfl, kh, hb13⟩
  obtain ⟨ph3_1, qh3_1, ph3_3, qh3_3, ph3_4, qh3_4, ph3_5, qh3_5, es, -, -, -, -⟩ := sessionResult_rep (sessionResultC.toRep kh)
  subst es
  have gkh : Hid (∀ k, k ∈ _ → w12.heap.size ≤ k ∧ k < w13.heap.size) := fun k hk => ⟨by have h := (kh.ins k hk).1; exact h, (kh.ins k hk).2⟩
  replace kh := kh.win (Nat.le_refl _) gkh.out
  have z13 : Hid (w12.heap.size ≤ w13.heap.size) := hb13.size
  replace ks := ks.stay hb13
  replace sA := sA.stay hb13
  replace sB := sB.stay hb13
  replace km := km.stay hb13
  replace k3 := k3.stay hb13
  replace BW := Below.step BW hb13
  clear hb13
  clear k3
  have csA0 := sA.now 0 _ rfl
  have csA1 := sA.now 1 _ rfl
  have csA2 := sA.now 2 _ rfl
  have csA3 := sA.now 3 _ rfl
  have csA4 := sA.now 4 _ rfl
  have csA5 := sA.now 5 _ rfl
  have csA6 := sA.now 6 _ rfl
  have zsA := Has.lt sA.now
  go_wp2_with fail
  refine (eqSessionResult_k (nsD bs0 a1) _ _ _ (sessionResultC.toRep (kh.stay (alloc_below _ _)).now) (sessionResultC.toRep (ks.stay (alloc_below _ _)).now)).mono ?_
  rintro e w14 ⟨rfl, hb14⟩
  have sC := (Has.new hb14).win
  have z14 : Hid (w13.heap.size + 1 ≤ w14.heap.size) := size_lt hb14
  replace hb14 := Below.res hb14
  replace ks := ks.stay hb14
  replace sA := sA.stay hb14
  replace sB := sB.stay hb14
  replace km := km.stay hb14
  replace kh := kh.stay hb14
  replace BW := Below.step BW hb14
  clear hb14 csA0 csA1 csA2 csA3 csA4 csA5 csA6 zsA
  clear sC sA ks kh
  have csB0 := sB.now 0 _ rfl
  have csB1 := sB.now 1 _ rfl
  have csB2 := sB.now 2 _ rfl
  have csB3 := sB.now 3 _ rfl
  have csB4 := sB.now 4 _ rfl
  have csB5 := sB.now 5 _ rfl
  have csB6 := sB.now 6 _ rfl
  have zsB := Has.lt sB.now
  go_wp2_with fail
  refine (heldSessionResult_k (nsD bs0 a1) _ 1 1 rfl _ (sessionResultC.toRep km.now) hlen2).mono ?_
  rintro e w15 ⟨rfl, hb15⟩
  have z15 : Hid (w14.heap.size ≤ w15.heap.size) := hb15.size
  replace sB := sB.stay hb15
  replace km := km.stay hb15
  replace BW := Below.step BW hb15
  clear hb15 csB0 csB1 csB2 csB3 csB4 csB5 csB6 zsB
  go_wp2
  go_ret
  exact ⟨rfl, BW⟩

/-! The row's step. -/
set_option maxRecDepth 100000 in
set_option maxHeartbeats 1000000 in
theorem lifted (os : Os) (started : os.Started) (H : Type) (enc : TypeId × Value → H) :
    ReturnsInHanded {} Try.checked os 5 .any (Rows.fnExactNewSessionSpec.pre6 enc Try.prog Try.f5 Rows.fnExactNewSessionRow.domain false) (Rows.fnExactNewSessionSpec.post enc Try.prog Try.f5 false true false false) := by
  refine returnsInHanded_of_change (C := Try.checked) own started (by kernel_rfl) Try.func5
    (ChangeSpec.witness6 (enc := enc) (C := Try.checked) false ⟨#[], #[.slice none 0 0, .int .i64 0], []⟩ 8 (by kernel_rfl) (by kernel_rfl) (by kernel_rfl) (by kernel_rfl)) ?_
  intro W base args ds gs before hval0 hW hcnd _
  have hval : ∀ (j : Nat) t v, Try.f5.params[j]? = some t → args[j]? = some v → Value.okWide Try.prog W .any base t v := hval0
  have hW' := hW
  obtain ⟨p, q, hA0, hV, rfl, hfz, hnd⟩ := hW
  have hA : DataW.TrodAll enc Try.prog W 0 (fun _ => true) true Try.f5.params.toList args.toList ds p := hA0
  rw [Try.params5] at hA hval
  obtain ⟨v0, vs0, d0, ds0, s0, t0, hargs, rfl, rfl, h0, m0⟩ := trodAll_cons hA
  obtain ⟨v1, vs1, d1, ds1, s1, t1, rfl, rfl, rfl, h1, m1⟩ := trodAll_cons m0
  obtain ⟨rfl, rfl, rfl⟩ := trodAll_nil m1
  obtain rfl : args = #[v0, v1] := by cases args; simp_all
  obtain ⟨rfl, rfl⟩ := trodVars_none hV
  obtain ⟨e0, len0, cap0, rfl⟩ := okWide_slice Try.underlying22 (hval 0 22 v0 rfl rfl)
  have k0 := h0
  have lt0 : ∀ x ∈ s0, x.block < W.heap.size := by obtain ⟨m, hm⟩ := k0; exact DataW.trod_lt m _ _ _ hm
  obtain ⟨bs0, p0, q0, g0, r0⟩ : ∃ x, Cod.rep bytC W x [.slice e0 len0 cap0] := by obtain ⟨fuel, hf⟩ := h0; exact (opens_bytes Try.underlying22 Try.underlying5 (by kernel_rfl)) _ _ _ hf
  simp only [List.cons.injEq, Value.slice.injEq, and_true] at g0
  obtain ⟨rfl, rfl, rfl⟩ := g0
  obtain ⟨a1, rfl, rfl, rfl, f1⟩ := open_int Try.underlying2 (hval 1 2 v1 rfl rfl) h1
  clear hA0 hval0
  refine (walk bs0 e0 cap0 a1 W r0 f1).mono fun e W' ⟨he, bel⟩ => ?_
  subst he
  exact ⟨_, rfl, _, _, _, [], _, [], hW', trodAll_mk1 (shut_bool Try.underlying4 _), (trodAll_cons_mk (Below.trod laidOut (by kernel_rfl) (of_decide_eq_true (by kernel_rfl)) k0 bel lt0) (trodAll_cons_mk (shut_int Try.underlying2 f1) trodAll_mk0)), rfl, bel.frame _, fun h => by cases h⟩

theorem over : Rows.fnExactNewSessionRow.holds Try.pinned (OpenSpec.ofChange Rows.fnExactNewSessionSpec) :=
  OpenClaim.holds_of_wide 5 Try.f5 rfl rfl rfl rfl rfl rfl rfl ⟨rfl, rfl, rfl, rfl, rfl⟩ rfl rfl rfl rfl rfl (by kernel_rfl) Try.func5 (by kernel_rfl)
    (of_decide_eq_true (by kernel_rfl)) (by unfold Func.isWrapper; first | (rw [if_pos (by decide +kernel)]; kernel_rfl) | (rw [if_neg (by decide +kernel)]; exact ⟨rfl, rfl⟩))
    (fun os started H enc _ => lifted os started H enc)

/-- The given statement. -/
theorem proved : Rows.FnExactNewSessionSaid := over
end Go.Proofs.Ythfjnmkplifcmaa.fnExactNewSession

namespace Go.Proofs.Ythfjnmkplifcmaa
theorem fnExactNewSession_holds : Rows.FnExactNewSessionSaid := fnExactNewSession.proved
end Go.Proofs.Ythfjnmkplifcmaa
