/- CutRecords of the program answers as the specification's, leaves its argument alone, and its answer owns its memory, behind another call too. For every argument; no condition. -/
import Derived.Test.YtdemfbbjdnjolabRows
import Derived.WalkKit
import Derived.ProofKit
import Derived.OpenShut
import Derived.ChangeOld
import Derived.Below
import Derived.Test.YtdemfbbjdnjolabOpen
import Derived.Test.YtdemfbbjdnjolabWin
import Derived.Test.YtdemfbbjdnjolabRecD
namespace Go.Proofs.Ytdemfbbjdnjolab.fnExactCutRecords
open Go.ChangeShapes Go.WideShapes Go.ChangeAt Go.RowKit
set_option linter.unusedVariables false

theorem own : ownKnob Try.prog.godebug = none := by kernel_rfl
theorem laidOut : laidOutB Try.prog = true := by kernel_rfl

/-! The walk. -/
theorem walk (bs0 : List UInt8) (p0 : Option Addr) (q0 : Nat) (w : World) (r0 : Rd w p0 q0 bs0) :
    Calls Try.prog 3 #[.slice p0 bs0.length q0] w fun e w' => e = .returned (.bool true) ∧ Below w.heap.size w w' := by
  by_cases hl0 : 1048576 < bs0.length
  · go_enter Try.func3, Try.ntmps3
    go_wp2
    go_ret
    exact ⟨rfl, Below.refl _ _⟩
  replace hl0 : bs0.length ≤ 1048576 := by omega
  have hlen := crL_sum bs0
  have hlen1 : 1 + sumB (crL bs0) ≤ 1000000000 := by omega
  have hlen2 : 1 + sumB (crL bs0) ≤ 1048577 := by omega
  go_enter Try.func3, Try.ntmps3
  go_wp2_with fail
  refine (toByteS_c _ _ bs0 _ r0 (by omega)).mono ?_
  rintro e w1 ⟨u0, rfl, k0, hb1⟩
  obtain ⟨pc0, qc0, rfl, -⟩ := k0.rd
  have gk0 : Hid (∀ k, k ∈ _ → w.heap.size ≤ k ∧ k < w1.heap.size) := fun k hk => ⟨by have h := (k0.ins k hk).1; exact h, (k0.ins k hk).2⟩
  replace k0 := k0.win (Nat.le_refl _) gk0.out
  have z1 : Hid (w.heap.size ≤ w1.heap.size) := hb1.size
  have BW := hb1
  clear hb1
  go_wp2_with fail
  refine (specCr_c bs0 pc0 qc0 _ (Rd.own k0.now)).mono ?_
  rintro e w2 ⟨vs, rfl, ⟨xss, fps, ks⟩, hb2⟩
  obtain ⟨ps, qs, rfl, -⟩ := ks.rd
  have gks : Hid (∀ k, k ∈ _ → w1.heap.size ≤ k ∧ k < w2.heap.size) := fun k hk => ⟨by have h := (ks.ins k hk).1; exact h, (ks.ins k hk).2⟩
  replace ks := ks.win (Nat.le_refl _) gks.out
  have z2 : Hid (w1.heap.size ≤ w2.heap.size) := hb2.size
  replace k0 := k0.stay hb2
  replace BW := Below.step BW hb2
  clear hb2
  clear k0
  go_wp2_with fail
  refine (toByteS_c _ _ bs0 _ ((r0.keep BW).keep (alloc_below _ _)) (by omega)).mono ?_
  rintro e w3 ⟨u1, rfl, k1, hb3⟩
  obtain ⟨pc1, qc1, rfl, -⟩ := k1.rd
  have gk1 : Hid (∀ k, k ∈ _ → (w2.heap.size + 1) ≤ k ∧ k < w3.heap.size) := fun k hk => ⟨by have h := (k1.ins k hk).1; rw [size_alloc] at h; exact h, (k1.ins k hk).2⟩
  replace k1 := k1.win (Nat.le_refl _) gk1.out
  have sA := (Has.new hb3).win
  have z3 : Hid (w2.heap.size + 1 ≤ w3.heap.size) := size_lt hb3
  replace hb3 := Below.res hb3
  replace ks := ks.stay hb3
  replace BW := Below.step BW hb3
  clear hb3
  go_wp2_with fail
  refine (implCr_c bs0 pc1 qc1 _ (Rd.own k1.now)).mono ?_
  rintro e w4 ⟨vg, rfl, ⟨xsg, fpg, kg⟩, hb4⟩
  obtain ⟨pg, qg, rfl, -⟩ := kg.rd
  have gkg : Hid (∀ k, k ∈ _ → w3.heap.size ≤ k ∧ k < w4.heap.size) := fun k hk => ⟨by have h := (kg.ins k hk).1; exact h, (kg.ins k hk).2⟩
  replace kg := kg.win (Nat.le_refl _) gkg.out
  have z4 : Hid (w3.heap.size ≤ w4.heap.size) := hb4.size
  replace ks := ks.stay hb4
  replace sA := sA.stay hb4
  replace k1 := k1.stay hb4
  replace BW := Below.step BW hb4
  clear hb4
  have csA0 := sA.now 0 _ rfl
  have csA1 := sA.now 1 _ rfl
  have zsA := Has.lt sA.now
  go_wp2_with fail
  refine (eqBlocksResult_c _ (crL bs0) pg ps qg qs _ (RdL.own (kg.stay (alloc_below _ _)).now) (RdL.own (ks.stay (alloc_below _ _)).now)).mono ?_
  rintro e w5 ⟨rfl, hb5⟩
  have sB := (Has.new hb5).win
  have z5 : Hid (w4.heap.size + 1 ≤ w5.heap.size) := size_lt hb5
  replace hb5 := Below.res hb5
  replace ks := ks.stay hb5
  replace sA := sA.stay hb5
  replace k1 := k1.stay hb5
  replace kg := kg.stay hb5
  replace BW := Below.step BW hb5
  clear hb5 csA0 csA1 zsA
  go_wp2_with fail
  refine (toByteS_c _ _ bs0 _ (r0.keep BW) (by omega)).mono ?_
  rintro e w6 ⟨u2, rfl, k2, hb6⟩
  obtain ⟨pc2, qc2, rfl, -⟩ := k2.rd
  have gk2 : Hid (∀ k, k ∈ _ → w5.heap.size ≤ k ∧ k < w6.heap.size) := fun k hk => ⟨by have h := (k2.ins k hk).1; exact h, (k2.ins k hk).2⟩
  replace k2 := k2.win (Nat.le_refl _) gk2.out
  have z6 : Hid (w5.heap.size ≤ w6.heap.size) := hb6.size
  replace ks := ks.stay hb6
  replace sA := sA.stay hb6
  replace k1 := k1.stay hb6
  replace kg := kg.stay hb6
  replace sB := sB.stay hb6
  replace BW := Below.step BW hb6
  clear hb6
  go_wp2_with fail
  refine (eqByteS_c pc1 pc2 qc1 qc2 bs0 _ (Rd.own k1.now) (Rd.own k2.now)).mono ?_
  rintro e w7 ⟨rfl, hb7⟩
  have z7 : Hid (w6.heap.size ≤ w7.heap.size) := hb7.size
  replace ks := ks.stay hb7
  replace sA := sA.stay hb7
  replace k1 := k1.stay hb7
  replace kg := kg.stay hb7
  replace sB := sB.stay hb7
  replace k2 := k2.stay hb7
  replace BW := Below.step BW hb7
  clear hb7
  clear k2
  go_wp2_with fail
  refine (markByteS_c1 _ _ bs0 _ k1.now hl0).mono ?_
  rintro e w8 ⟨rfl, -, hg⟩
  have z8 : Hid (w7.heap.size ≤ w8.heap.size) := hg.size
  have sg := grown_seg hg gk1.out
  replace ks := ks.seg sg (by have := z1.out; have := z2.out; have := z3.out; have := z4.out; have := z5.out; have := z6.out; have := z7.out; have := z8.out; omega)
  replace sA := sA.seg sg (by have := z1.out; have := z2.out; have := z3.out; have := z4.out; have := z5.out; have := z6.out; have := z7.out; have := z8.out; omega)
  replace kg := kg.seg sg (by have := z1.out; have := z2.out; have := z3.out; have := z4.out; have := z5.out; have := z6.out; have := z7.out; have := z8.out; omega)
  replace sB := sB.seg sg (by have := z1.out; have := z2.out; have := z3.out; have := z4.out; have := z5.out; have := z6.out; have := z7.out; have := z8.out; omega)
  replace BW := Below.seg BW sg (by have := z1.out; have := z2.out; have := z3.out; have := z4.out; have := z5.out; have := z6.out; have := z7.out; have := z8.out; omega)
  clear hg sg k1
  have csA0 := sA.now 0 _ rfl
  have csA1 := sA.now 1 _ rfl
  have zsA := Has.lt sA.now
  have csB0 := sB.now 0 _ rfl
  have csB1 := sB.now 1 _ rfl
  have zsB := Has.lt sB.now
  go_wp2_with fail
  refine (eqBlocksResult_c _ (crL bs0) pg ps qg qs _ (RdL.own kg.now) (RdL.own ks.now)).mono ?_
  rintro e w9 ⟨rfl, hb9⟩
  have z9 : Hid (w8.heap.size ≤ w9.heap.size) := hb9.size
  replace ks := ks.stay hb9
  replace sA := sA.stay hb9
  replace kg := kg.stay hb9
  replace sB := sB.stay hb9
  replace BW := Below.step BW hb9
  clear hb9 csA0 csA1 zsA csB0 csB1 zsB
  have csB0 := sB.now 0 _ rfl
  have csB1 := sB.now 1 _ rfl
  have zsB := Has.lt sB.now
  go_wp2_with fail
  refine (markBlocksResult_c _ _ (crL bs0) _ _ _ _ 1 _ kg.now hlen1 hlen).mono ?_
  rintro e w10 ⟨rfl, ⟨ysm, km⟩, hg⟩
  have z10 : Hid (w9.heap.size ≤ w10.heap.size) := hg.size
  have sg := Only.seg hg gkg.out
  replace ks := ks.seg sg (by have := z1.out; have := z2.out; have := z3.out; have := z4.out; have := z5.out; have := z6.out; have := z7.out; have := z8.out; have := z9.out; have := z10.out; omega)
  replace sA := sA.seg sg (by have := z1.out; have := z2.out; have := z3.out; have := z4.out; have := z5.out; have := z6.out; have := z7.out; have := z8.out; have := z9.out; have := z10.out; omega)
  replace sB := sB.seg sg (by have := z1.out; have := z2.out; have := z3.out; have := z4.out; have := z5.out; have := z6.out; have := z7.out; have := z8.out; have := z9.out; have := z10.out; omega)
  replace BW := Below.seg BW sg (by have := z1.out; have := z2.out; have := z3.out; have := z4.out; have := z5.out; have := z6.out; have := z7.out; have := z8.out; have := z9.out; have := z10.out; omega)
  replace km := km.win (by have := z1.out; have := z2.out; have := z3.out; have := z4.out; have := z5.out; have := z6.out; have := z7.out; have := z8.out; have := z9.out; have := z10.out; omega) gkg.out
  clear hg sg kg csB0 csB1 zsB
  have csB0 := sB.now 0 _ rfl
  have csB1 := sB.now 1 _ rfl
  have zsB := Has.lt sB.now
  go_wp2_with fail
  refine (heldBlocksResult_c _ (crL bs0) pg qg 1 _ (RdL.own km.now) hlen2).mono ?_
  rintro e w11 ⟨rfl, hb11⟩
  have z11 : Hid (w10.heap.size ≤ w11.heap.size) := hb11.size
  replace ks := ks.stay hb11
  replace sA := sA.stay hb11
  replace sB := sB.stay hb11
  replace km := km.stay hb11
  replace BW := Below.step BW hb11
  clear hb11 csB0 csB1 zsB
  go_wp2_with fail
  refine (toByteS_c _ _ bs0 _ (r0.keep BW) (by omega)).mono ?_
  rintro e w12 ⟨u3, rfl, k3, hb12⟩
  obtain ⟨pc3, qc3, rfl, -⟩ := k3.rd
  have gk3 : Hid (∀ k, k ∈ _ → w11.heap.size ≤ k ∧ k < w12.heap.size) := fun k hk => ⟨by have h := (k3.ins k hk).1; exact h, (k3.ins k hk).2⟩
  replace k3 := k3.win (Nat.le_refl _) gk3.out
  have z12 : Hid (w11.heap.size ≤ w12.heap.size) := hb12.size
  replace ks := ks.stay hb12
  replace sA := sA.stay hb12
  replace sB := sB.stay hb12
  replace km := km.stay hb12
  replace BW := Below.step BW hb12
  clear hb12
  go_wp2_with fail
  refine (implCr_c bs0 pc3 qc3 _ (Rd.own k3.now)).mono ?_
  rintro e w13 ⟨vh, rfl, ⟨xsh, fph, kh⟩, hb13⟩
  obtain ⟨ph, qh, rfl, -⟩ := kh.rd
  have gkh : Hid (∀ k, k ∈ _ → w12.heap.size ≤ k ∧ k < w13.heap.size) := fun k hk => ⟨by have h := (kh.ins k hk).1; exact h, (kh.ins k hk).2⟩
  replace kh := kh.win (Nat.le_refl _) gkh.out
  have z13 : Hid (w12.heap.size ≤ w13.heap.size) := hb13.size
  replace ks := ks.stay hb13
  replace sA := sA.stay hb13
  replace sB := sB.stay hb13
  replace km := km.stay hb13
  replace k3 := k3.stay hb13
  replace BW := Below.step BW hb13
  clear hb13
  clear k3
  have csA0 := sA.now 0 _ rfl
  have csA1 := sA.now 1 _ rfl
  have zsA := Has.lt sA.now
  go_wp2_with fail
  refine (eqBlocksResult_c _ (crL bs0) ph ps qh qs _ (RdL.own (kh.stay (alloc_below _ _)).now) (RdL.own (ks.stay (alloc_below _ _)).now)).mono ?_
  rintro e w14 ⟨rfl, hb14⟩
  have sC := (Has.new hb14).win
  have z14 : Hid (w13.heap.size + 1 ≤ w14.heap.size) := size_lt hb14
  replace hb14 := Below.res hb14
  replace ks := ks.stay hb14
  replace sA := sA.stay hb14
  replace sB := sB.stay hb14
  replace km := km.stay hb14
  replace kh := kh.stay hb14
  replace BW := Below.step BW hb14
  clear hb14 csA0 csA1 zsA
  clear sC sA ks kh
  have csB0 := sB.now 0 _ rfl
  have csB1 := sB.now 1 _ rfl
  have zsB := Has.lt sB.now
  go_wp2_with fail
  refine (heldBlocksResult_c _ (crL bs0) pg qg 1 _ (RdL.own km.now) hlen2).mono ?_
  rintro e w15 ⟨rfl, hb15⟩
  have z15 : Hid (w14.heap.size ≤ w15.heap.size) := hb15.size
  replace sB := sB.stay hb15
  replace km := km.stay hb15
  replace BW := Below.step BW hb15
  clear hb15 csB0 csB1 zsB
  go_wp2
  go_ret
  exact ⟨rfl, BW⟩

/-! The row's step. -/
set_option maxRecDepth 100000 in
set_option maxHeartbeats 1000000 in
theorem lifted (os : Os) (started : os.Started) (H : Type) (enc : TypeId × Value → H) :
    ReturnsInHanded {} Try.checked os 3 .any (Rows.fnExactCutRecordsSpec.pre6 enc Try.prog Try.f3 Rows.fnExactCutRecordsRow.domain false) (Rows.fnExactCutRecordsSpec.post enc Try.prog Try.f3 false true false false) := by
  refine returnsInHanded_of_change (C := Try.checked) own started (by kernel_rfl) Try.func3
    (ChangeSpec.witness6 (enc := enc) (C := Try.checked) false ⟨#[], #[.slice none 0 0], []⟩ 8 (by kernel_rfl) (by kernel_rfl) (by kernel_rfl) (by kernel_rfl)) ?_
  intro W base args ds gs before hval0 hW hcnd _
  have hval : ∀ (j : Nat) t v, Try.f3.params[j]? = some t → args[j]? = some v → Value.okWide Try.prog W .any base t v := hval0
  have hW' := hW
  obtain ⟨p, q, hA0, hV, rfl, hfz, hnd⟩ := hW
  have hA : DataW.TrodAll enc Try.prog W 0 (fun _ => true) true Try.f3.params.toList args.toList ds p := hA0
  rw [Try.params3] at hA hval
  obtain ⟨v0, vs0, d0, ds0, s0, t0, hargs, rfl, rfl, h0, m0⟩ := trodAll_cons hA
  obtain ⟨rfl, rfl, rfl⟩ := trodAll_nil m0
  obtain rfl : args = #[v0] := by cases args; simp_all
  obtain ⟨rfl, rfl⟩ := trodVars_none hV
  obtain ⟨e0, len0, cap0, rfl⟩ := okWide_slice Try.underlying22 (hval 0 22 v0 rfl rfl)
  have k0 := h0
  have lt0 : ∀ x ∈ s0, x.block < W.heap.size := by obtain ⟨m, hm⟩ := k0; exact DataW.trod_lt m _ _ _ hm
  obtain ⟨bs0, p0, q0, g0, r0⟩ : ∃ x, Cod.rep bytC W x [.slice e0 len0 cap0] := by obtain ⟨fuel, hf⟩ := h0; exact (opens_bytes Try.underlying22 Try.underlying5 (by kernel_rfl)) _ _ _ hf
  simp only [List.cons.injEq, Value.slice.injEq, and_true] at g0
  obtain ⟨rfl, rfl, rfl⟩ := g0
  clear hA0 hval0
  refine (walk bs0 e0 cap0 W r0).mono fun e W' ⟨he, bel⟩ => ?_
  subst he
  exact ⟨_, rfl, _, _, _, [], _, [], hW', trodAll_mk1 (shut_bool Try.underlying4 _), (trodAll_cons_mk (Below.trod laidOut (by kernel_rfl) (of_decide_eq_true (by kernel_rfl)) k0 bel lt0) trodAll_mk0), rfl, bel.frame _, fun h => by cases h⟩

theorem over : Rows.fnExactCutRecordsRow.holds Try.pinned (OpenSpec.ofChange Rows.fnExactCutRecordsSpec) :=
  OpenClaim.holds_of_wide 3 Try.f3 rfl rfl rfl rfl rfl rfl rfl ⟨rfl, rfl, rfl, rfl, rfl⟩ rfl rfl rfl rfl rfl (by kernel_rfl) Try.func3 (by kernel_rfl)
    (of_decide_eq_true (by kernel_rfl)) (by unfold Func.isWrapper; first | (rw [if_pos (by decide +kernel)]; kernel_rfl) | (rw [if_neg (by decide +kernel)]; exact ⟨rfl, rfl⟩))
    (fun os started H enc _ => lifted os started H enc)

/-- The given statement. -/
theorem proved : Rows.FnExactCutRecordsSaid := over
end Go.Proofs.Ytdemfbbjdnjolab.fnExactCutRecords

namespace Go.Proofs.Ytdemfbbjdnjolab
theorem fnExactCutRecords_holds : Rows.FnExactCutRecordsSaid := fnExactCutRecords.proved
end Go.Proofs.Ytdemfbbjdnjolab
