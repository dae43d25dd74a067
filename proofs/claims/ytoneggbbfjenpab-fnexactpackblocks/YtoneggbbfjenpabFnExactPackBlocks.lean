/- PackBlocks of the program answers as the specification's, leaves its argument alone, and its answer owns its memory, behind another call too. For every argument; no condition. -/
import Derived.Test.YtoneggbbfjenpabRows
import Derived.WalkKit
import Derived.ProofKit
import Derived.OpenShut
import Derived.ChangeOld
import Derived.Below
import Derived.Test.YtoneggbbfjenpabOpen
import Derived.Test.YtoneggbbfjenpabWin
import Derived.Test.YtoneggbbfjenpabBlkI
import Derived.Test.YtoneggbbfjenpabEqBytes
namespace Go.Proofs.Ytoneggbbfjenpab.fnExactPackBlocks
open Go.ChangeShapes Go.WideShapes Go.ChangeAt Go.RowKit
set_option linter.unusedVariables false

theorem own : ownKnob Try.prog.godebug = none := by kernel_rfl
theorem laidOut : laidOutB Try.prog = true := by kernel_rfl

/-! The walk. -/
theorem walk (l0 : _) (p0 : Option Addr) (q0 : Nat) (w : World) (r0 : RdL bytC w p0 q0 l0) :
    Calls Try.prog 3 #[.slice p0 l0.length q0] w fun e w' => e = .returned (.bool true) ∧ Below w.heap.size w w' := by
  by_cases hl0 : bulkB l0 ≤ 1048576
  · have hlen := pbL_len l0
    go_enter Try.func3, Try.ntmps3
    go_wp2_with fail
    refine (szByteSS_c l0 p0 q0 _ _ r0 (by omega) (by omega)).mono ?_
    rintro e w1 ⟨rfl, hb1⟩
    have z1 : Hid (w.heap.size ≤ w1.heap.size) := hb1.size
    have BW := hb1
    clear hb1
    rw [szR, if_pos (by omega)]
    go_wp2_with fail
    refine (toByteSS_c l0 _ _ _ (r0.keep BW) (by omega)).mono ?_
    rintro e w2 ⟨u0, ys0, fp0, rfl, k0, hb2⟩
    obtain ⟨pc0, qc0, rfl, -⟩ := k0.rd
    have gk0 : Hid (∀ k, k ∈ _ → w1.heap.size ≤ k ∧ k < w2.heap.size) := fun k hk => ⟨by have h := (k0.ins k hk).1; exact h, (k0.ins k hk).2⟩
    replace k0 := k0.win (Nat.le_refl _) gk0.out
    have z2 : Hid (w1.heap.size ≤ w2.heap.size) := hb2.size
    replace BW := Below.step BW hb2
    clear hb2
    go_wp2_with fail
    refine (specPB_c l0 pc0 qc0 _ (RdL.own k0.now)).mono ?_
    rintro e w3 ⟨vs, rfl, ks, hb3⟩
    obtain ⟨ps, qs, rfl, -⟩ := ks.rd
    have gks : Hid (∀ k, k ∈ _ → w2.heap.size ≤ k ∧ k < w3.heap.size) := fun k hk => ⟨by have h := (ks.ins k hk).1; exact h, (ks.ins k hk).2⟩
    replace ks := ks.win (Nat.le_refl _) gks.out
    have z3 : Hid (w2.heap.size ≤ w3.heap.size) := hb3.size
    replace k0 := k0.stay hb3
    replace BW := Below.step BW hb3
    clear hb3
    clear k0
    go_wp2_with fail
    refine (toByteSS_c l0 _ _ _ ((r0.keep BW).keep (alloc_below _ _)) (by omega)).mono ?_
    rintro e w4 ⟨u1, ys1, fp1, rfl, k1, hb4⟩
    obtain ⟨pc1, qc1, rfl, -⟩ := k1.rd
    have gk1 : Hid (∀ k, k ∈ _ → (w3.heap.size + 1) ≤ k ∧ k < w4.heap.size) := fun k hk => ⟨by have h := (k1.ins k hk).1; rw [size_alloc] at h; exact h, (k1.ins k hk).2⟩
    replace k1 := k1.win (Nat.le_refl _) gk1.out
    have sA := (Has.new hb4).win
    have z4 : Hid (w3.heap.size + 1 ≤ w4.heap.size) := size_lt hb4
    replace hb4 := Below.res hb4
    replace ks := ks.stay hb4
    replace BW := Below.step BW hb4
    clear hb4
    go_wp2_with fail
    refine (implPB_c l0 pc1 qc1 _ (RdL.own k1.now)).mono ?_
    rintro e w5 ⟨vg, rfl, kg, hb5⟩
    obtain ⟨pg, qg, rfl, -⟩ := kg.rd
    have gkg : Hid (∀ k, k ∈ _ → w4.heap.size ≤ k ∧ k < w5.heap.size) := fun k hk => ⟨by have h := (kg.ins k hk).1; exact h, (kg.ins k hk).2⟩
    replace kg := kg.win (Nat.le_refl _) gkg.out
    have z5 : Hid (w4.heap.size ≤ w5.heap.size) := hb5.size
    replace ks := ks.stay hb5
    replace sA := sA.stay hb5
    replace k1 := k1.stay hb5
    replace BW := Below.step BW hb5
    clear hb5
    have csA0 := sA.now 0 _ rfl
    have csA1 := sA.now 1 _ rfl
    have zsA := Has.lt sA.now
    go_wp2_with fail
    refine (eqBytes2_c _ _ _ pg ps qg qs (pbL l0) _ (kg.stay (alloc_below _ _)).now (ks.stay (alloc_below _ _)).now).mono ?_
    rintro e w6 ⟨rfl, hb6⟩
    have sB := (Has.new hb6).win
    have z6 : Hid (w5.heap.size + 1 ≤ w6.heap.size) := size_lt hb6
    replace hb6 := Below.res hb6
    replace ks := ks.stay hb6
    replace sA := sA.stay hb6
    replace k1 := k1.stay hb6
    replace kg := kg.stay hb6
    replace BW := Below.step BW hb6
    clear hb6 csA0 csA1 zsA
    go_wp2_with fail
    refine (toByteSS_c l0 _ _ _ (r0.keep BW) (by omega)).mono ?_
    rintro e w7 ⟨u2, ys2, fp2, rfl, k2, hb7⟩
    obtain ⟨pc2, qc2, rfl, -⟩ := k2.rd
    have gk2 : Hid (∀ k, k ∈ _ → w6.heap.size ≤ k ∧ k < w7.heap.size) := fun k hk => ⟨by have h := (k2.ins k hk).1; exact h, (k2.ins k hk).2⟩
    replace k2 := k2.win (Nat.le_refl _) gk2.out
    have z7 : Hid (w6.heap.size ≤ w7.heap.size) := hb7.size
    replace ks := ks.stay hb7
    replace sA := sA.stay hb7
    replace k1 := k1.stay hb7
    replace kg := kg.stay hb7
    replace sB := sB.stay hb7
    replace BW := Below.step BW hb7
    clear hb7
    go_wp2_with fail
    refine (eqByteSS_c l0 pc1 pc2 qc1 qc2 _ (RdL.own k1.now) (RdL.own k2.now)).mono ?_
    rintro e w8 ⟨rfl, hb8⟩
    have z8 : Hid (w7.heap.size ≤ w8.heap.size) := hb8.size
    replace ks := ks.stay hb8
    replace sA := sA.stay hb8
    replace k1 := k1.stay hb8
    replace kg := kg.stay hb8
    replace sB := sB.stay hb8
    replace k2 := k2.stay hb8
    replace BW := Below.step BW hb8
    clear hb8
    clear k2
    go_wp2_with fail
    refine (markByteSS_c _ l0 _ _ _ _ 1 _ k1.now (by have := (show bulkB l0 = sumB l0 + l0.length from rfl); omega) (by have := (show bulkB l0 = sumB l0 + l0.length from rfl); omega)).mono ?_
    rintro e w9 ⟨rfl, -, hg⟩
    have z9 : Hid (w8.heap.size ≤ w9.heap.size) := hg.size
    have sg := Only.seg hg gk1.out
    replace ks := ks.seg sg (by have := z1.out; have := z2.out; have := z3.out; have := z4.out; have := z5.out; have := z6.out; have := z7.out; have := z8.out; have := z9.out; omega)
    replace sA := sA.seg sg (by have := z1.out; have := z2.out; have := z3.out; have := z4.out; have := z5.out; have := z6.out; have := z7.out; have := z8.out; have := z9.out; omega)
    replace kg := kg.seg sg (by have := z1.out; have := z2.out; have := z3.out; have := z4.out; have := z5.out; have := z6.out; have := z7.out; have := z8.out; have := z9.out; omega)
    replace sB := sB.seg sg (by have := z1.out; have := z2.out; have := z3.out; have := z4.out; have := z5.out; have := z6.out; have := z7.out; have := z8.out; have := z9.out; omega)
    replace BW := Below.seg BW sg (by have := z1.out; have := z2.out; have := z3.out; have := z4.out; have := z5.out; have := z6.out; have := z7.out; have := z8.out; have := z9.out; omega)
    clear hg sg k1
    have csA0 := sA.now 0 _ rfl
    have csA1 := sA.now 1 _ rfl
    have zsA := Has.lt sA.now
    have csB0 := sB.now 0 _ rfl
    have csB1 := sB.now 1 _ rfl
    have zsB := Has.lt sB.now
    go_wp2_with fail
    refine (eqBytes2_c _ _ _ pg ps qg qs (pbL l0) _ kg.now ks.now).mono ?_
    rintro e w10 ⟨rfl, hb10⟩
    have z10 : Hid (w9.heap.size ≤ w10.heap.size) := hb10.size
    replace ks := ks.stay hb10
    replace sA := sA.stay hb10
    replace kg := kg.stay hb10
    replace sB := sB.stay hb10
    replace BW := Below.step BW hb10
    clear hb10 csA0 csA1 zsA csB0 csB1 zsB
    have csB0 := sB.now 0 _ rfl
    have csB1 := sB.now 1 _ rfl
    have zsB := Has.lt sB.now
    go_wp2_with fail
    refine (markBytes1_c _ _ _ (pbL l0) _ kg.now hlen).mono ?_
    rintro e w11 ⟨rfl, km, hg⟩
    have z11 : Hid (w10.heap.size ≤ w11.heap.size) := hg.size
    have sg := grown_seg hg gkg.out
    replace ks := ks.seg sg (by have := z1.out; have := z2.out; have := z3.out; have := z4.out; have := z5.out; have := z6.out; have := z7.out; have := z8.out; have := z9.out; have := z10.out; have := z11.out; omega)
    replace sA := sA.seg sg (by have := z1.out; have := z2.out; have := z3.out; have := z4.out; have := z5.out; have := z6.out; have := z7.out; have := z8.out; have := z9.out; have := z10.out; have := z11.out; omega)
    replace sB := sB.seg sg (by have := z1.out; have := z2.out; have := z3.out; have := z4.out; have := z5.out; have := z6.out; have := z7.out; have := z8.out; have := z9.out; have := z10.out; have := z11.out; omega)
    replace BW := Below.seg BW sg (by have := z1.out; have := z2.out; have := z3.out; have := z4.out; have := z5.out; have := z6.out; have := z7.out; have := z8.out; have := z9.out; have := z10.out; have := z11.out; omega)
    replace km := km.win (by have := z1.out; have := z2.out; have := z3.out; have := z4.out; have := z5.out; have := z6.out; have := z7.out; have := z8.out; have := z9.out; have := z10.out; have := z11.out; omega) gkg.out
    clear hg sg kg csB0 csB1 zsB
    have csB0 := sB.now 0 _ rfl
    have csB1 := sB.now 1 _ rfl
    have zsB := Has.lt sB.now
    go_wp2_with fail
    refine (heldBytes1_c _ _ pg qg (pbL l0).length _ km.now hlen).mono ?_
    rintro e w12 ⟨rfl, hb12⟩
    have z12 : Hid (w11.heap.size ≤ w12.heap.size) := hb12.size
    replace ks := ks.stay hb12
    replace sA := sA.stay hb12
    replace sB := sB.stay hb12
    replace km := km.stay hb12
    replace BW := Below.step BW hb12
    clear hb12 csB0 csB1 zsB
    go_wp2_with fail
    refine (toByteSS_c l0 _ _ _ (r0.keep BW) (by omega)).mono ?_
    rintro e w13 ⟨u3, ys3, fp3, rfl, k3, hb13⟩
    obtain ⟨pc3, qc3, rfl, -⟩ := k3.rd
    have gk3 : Hid (∀ k, k ∈ _ → w12.heap.size ≤ k ∧ k < w13.heap.size) := fun k hk => ⟨by have h := (k3.ins k hk).1; exact h, (k3.ins k hk).2⟩
    replace k3 := k3.win (Nat.le_refl _) gk3.out
    have z13 : Hid (w12.heap.size ≤ w13.heap.size) := hb13.size
    replace ks := ks.stay hb13
    replace sA := sA.stay hb13
    replace sB := sB.stay hb13
    replace km := km.stay hb13
    replace BW := Below.step BW hb13
    clear hb13
    go_wp2_with fail
    refine (implPB_c l0 pc3 qc3 _ (RdL.own k3.now)).mono ?_
    rintro e w14 ⟨vh, rfl, kh, hb14⟩
    obtain ⟨ph, qh, rfl, -⟩ := kh.rd
    have gkh : Hid (∀ k, k ∈ _ → w13.heap.size ≤ k ∧ k < w14.heap.size) := fun k hk => ⟨by have h := (kh.ins k hk).1; exact h, (kh.ins k hk).2⟩
    replace kh := kh.win (Nat.le_refl _) gkh.out
    have z14 : Hid (w13.heap.size ≤ w14.heap.size) := hb14.size
    replace ks := ks.stay hb14
    replace sA := sA.stay hb14
    replace sB := sB.stay hb14
    replace km := km.stay hb14
    replace k3 := k3.stay hb14
    replace BW := Below.step BW hb14
    clear hb14
    clear k3
    have csA0 := sA.now 0 _ rfl
    have csA1 := sA.now 1 _ rfl
    have zsA := Has.lt sA.now
    go_wp2_with fail
    refine (eqBytes2_c _ _ _ ph ps qh qs (pbL l0) _ (kh.stay (alloc_below _ _)).now (ks.stay (alloc_below _ _)).now).mono ?_
    rintro e w15 ⟨rfl, hb15⟩
    have sC := (Has.new hb15).win
    have z15 : Hid (w14.heap.size + 1 ≤ w15.heap.size) := size_lt hb15
    replace hb15 := Below.res hb15
    replace ks := ks.stay hb15
    replace sA := sA.stay hb15
    replace sB := sB.stay hb15
    replace km := km.stay hb15
    replace kh := kh.stay hb15
    replace BW := Below.step BW hb15
    clear hb15 csA0 csA1 zsA
    clear sC sA ks kh
    have csB0 := sB.now 0 _ rfl
    have csB1 := sB.now 1 _ rfl
    have zsB := Has.lt sB.now
    go_wp2_with fail
    refine (heldBytes1_c _ _ pg qg (pbL l0).length _ km.now hlen).mono ?_
    rintro e w16 ⟨rfl, hb16⟩
    have z16 : Hid (w15.heap.size ≤ w16.heap.size) := hb16.size
    replace sB := sB.stay hb16
    replace km := km.stay hb16
    replace BW := Below.step BW hb16
    clear hb16 csB0 csB1 zsB
    go_wp2
    go_ret
    exact ⟨rfl, BW⟩
  · go_enter Try.func3, Try.ntmps3
    go_wp2_with fail
    refine (szByteSS_c l0 p0 q0 _ _ r0 (by omega) (by omega)).mono ?_
    rintro e w1 ⟨rfl, hb1⟩
    have z1 : Hid (w.heap.size ≤ w1.heap.size) := hb1.size
    have BW := hb1
    clear hb1
    rw [szR, if_neg (by omega)]
    go_wp2
    go_ret
    exact ⟨rfl, BW⟩

/-! The row's step. -/
set_option maxRecDepth 100000 in
set_option maxHeartbeats 1000000 in
theorem lifted (os : Os) (started : os.Started) (H : Type) (enc : TypeId × Value → H) :
    ReturnsInHanded {} Try.checked os 3 .any (Rows.fnExactPackBlocksSpec.pre6 enc Try.prog Try.f3 Rows.fnExactPackBlocksRow.domain false) (Rows.fnExactPackBlocksSpec.post enc Try.prog Try.f3 false true false false) := by
  refine returnsInHanded_of_change (C := Try.checked) own started (by kernel_rfl) Try.func3
    (ChangeSpec.witness6 (enc := enc) (C := Try.checked) false ⟨#[], #[.slice none 0 0], []⟩ 8 (by kernel_rfl) (by kernel_rfl) (by kernel_rfl) (by kernel_rfl)) ?_
  intro W base args ds gs before hval0 hW hcnd _
  have hval : ∀ (j : Nat) t v, Try.f3.params[j]? = some t → args[j]? = some v → Value.okWide Try.prog W .any base t v := hval0
  have hW' := hW
  obtain ⟨p, q, hA0, hV, rfl, hfz, hnd⟩ := hW
  have hA : DataW.TrodAll enc Try.prog W 0 (fun _ => true) true Try.f3.params.toList args.toList ds p := hA0
  rw [Try.params3] at hA hval
  obtain ⟨v0, vs0, d0, ds0, s0, t0, hargs, rfl, rfl, h0, m0⟩ := trodAll_cons hA
  obtain ⟨rfl, rfl, rfl⟩ := trodAll_nil m0
  obtain rfl : args = #[v0] := by cases args; simp_all
  obtain ⟨rfl, rfl⟩ := trodVars_none hV
  obtain ⟨e0, len0, cap0, rfl⟩ := okWide_slice Try.underlying22 (hval 0 22 v0 rfl rfl)
  have k0 := h0
  have lt0 : ∀ x ∈ s0, x.block < W.heap.size := by obtain ⟨m, hm⟩ := k0; exact DataW.trod_lt m _ _ _ hm
  obtain ⟨l0, p0, q0, g0, r0⟩ : ∃ x, Cod.rep (listC 24 bytC) W x [.slice e0 len0 cap0] := by obtain ⟨fuel, hf⟩ := h0; exact (opens_list (e' := 24) (c := bytC) Try.underlying22 (by kernel_rfl) (by decide) (opens_bytes Try.underlying24 Try.underlying5 (by kernel_rfl))) _ _ _ hf
  simp only [List.cons.injEq, Value.slice.injEq, and_true] at g0
  obtain ⟨rfl, rfl, rfl⟩ := g0
  clear hA0 hval0
  refine (walk l0 e0 cap0 W r0).mono fun e W' ⟨he, bel⟩ => ?_
  subst he
  exact ⟨_, rfl, _, _, _, [], _, [], hW', trodAll_mk1 (shut_bool Try.underlying4 _), (trodAll_cons_mk (Below.trod laidOut (by kernel_rfl) (of_decide_eq_true (by kernel_rfl)) k0 bel lt0) trodAll_mk0), rfl, bel.frame _, fun h => by cases h⟩

theorem over : Rows.fnExactPackBlocksRow.holds Try.pinned (OpenSpec.ofChange Rows.fnExactPackBlocksSpec) :=
  OpenClaim.holds_of_wide 3 Try.f3 rfl rfl rfl rfl rfl rfl rfl ⟨rfl, rfl, rfl, rfl, rfl⟩ rfl rfl rfl rfl rfl (by kernel_rfl) Try.func3 (by kernel_rfl)
    (of_decide_eq_true (by kernel_rfl)) (by unfold Func.isWrapper; first | (rw [if_pos (by decide +kernel)]; kernel_rfl) | (rw [if_neg (by decide +kernel)]; exact ⟨rfl, rfl⟩))
    (fun os started H enc _ => lifted os started H enc)

/-- The given statement. -/
theorem proved : Rows.FnExactPackBlocksSaid := over
end Go.Proofs.Ytoneggbbfjenpab.fnExactPackBlocks

namespace Go.Proofs.Ytoneggbbfjenpab
theorem fnExactPackBlocks_holds : Rows.FnExactPackBlocksSaid := fnExactPackBlocks.proved
end Go.Proofs.Ytoneggbbfjenpab
