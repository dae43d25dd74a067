/- PackCert of the program answers as the specification's, leaves its argument alone, and its answer owns its memory, behind another call too. For every argument; no condition. -/
import Derived.Test.YtklglpmlfboglaaRows
import Derived.WalkKit
import Derived.ProofKit
import Derived.OpenShut
import Derived.ChangeOld
import Derived.Below
import Derived.Test.YtklglpmlfboglaaOpen
import Derived.Test.YtklglpmlfboglaaWin
import Derived.Test.YtklglpmlfboglaaCertK
import Derived.Test.YtklglpmlfboglaaCertJ
import Derived.Test.YtklglpmlfboglaaEqBytes
namespace Go.Proofs.Ytklglpmlfboglaa.fnExactPackCert
open Go.ChangeShapes Go.WideShapes Go.ChangeAt Go.RowKit
set_option linter.unusedVariables false

theorem own : ownKnob Try.prog.godebug = none := by kernel_rfl
theorem laidOut : laidOutB Try.prog = true := by kernel_rfl

/-! The walk. -/
set_option maxRecDepth 4000 in
set_option maxHeartbeats 4000000 in
theorem walk (x0 : _) (cs0 : List Value) (w : World) (r0 : Cod.rep certC w x0 cs0) :
    Calls Try.prog 6 #[.agg cs0.toArray] w fun e w' => e = .returned (.bool true) ∧ Below w.heap.size w w' := by
  have hcs := cert_rep r0
  subst hcs
  change Calls _ _ #[.agg #[.int .i64 x0.1, .int .i64 x0.2.1, .int .i64 x0.2.2]] _ _
  have hlen : (pcD x0).2.length ≤ 1048576 := pcD_len x0
  clear r0
  go_enter Try.func6, Try.ntmps6
  go_wp2_with fail
  refine (toCert_c x0 _).mono ?_
  rintro e w1 ⟨rfl, hb1⟩
  have sP0 := (Has.new hb1).win
  have z1 : Hid (w.heap.size + 1 ≤ w1.heap.size) := size_lt hb1
  replace hb1 := Below.res hb1
  have BW := hb1
  clear hb1
  go_wp2_with fail
  refine (specPc_c x0 _).mono ?_
  rintro e w2 ⟨vs, rfl, ks, hb2⟩
  obtain ⟨ps, qs, rfl, -⟩ := ks.rd
  have gks : Hid (∀ k, k ∈ _ → w1.heap.size ≤ k ∧ k < w2.heap.size) := fun k hk => ⟨by have h := (ks.ins k hk).1; exact h, (ks.ins k hk).2⟩
  replace ks := ks.win (Nat.le_refl _) gks.out
  have z2 : Hid (w1.heap.size ≤ w2.heap.size) := hb2.size
  replace sP0 := sP0.stay hb2
  replace BW := Below.step BW hb2
  clear hb2
  have csP00 := sP0.now 0 _ rfl
  have csP01 := sP0.now 1 _ rfl
  have csP02 := sP0.now 2 _ rfl
  have zsP0 := Has.lt sP0.now
  go_wp2_with fail
  refine (toCert_c x0 _).mono ?_
  rintro e w3 ⟨rfl, hb3⟩
  have sA := (Has.new hb3).win
  have z3 : Hid (w2.heap.size + 1 ≤ w3.heap.size) := size_lt hb3
  replace hb3 := Below.res hb3
  replace sP0 := sP0.stay hb3
  replace ks := ks.stay hb3
  replace BW := Below.step BW hb3
  clear hb3 csP00 csP01 csP02 zsP0
  go_wp2_with fail
  refine (implPc_c x0 _).mono ?_
  rintro e w4 ⟨vg, rfl, kg, hb4⟩
  obtain ⟨pg, qg, rfl, -⟩ := kg.rd
  have gkg : Hid (∀ k, k ∈ _ → w3.heap.size ≤ k ∧ k < w4.heap.size) := fun k hk => ⟨by have h := (kg.ins k hk).1; exact h, (kg.ins k hk).2⟩
  replace kg := kg.win (Nat.le_refl _) gkg.out
  have z4 : Hid (w3.heap.size ≤ w4.heap.size) := hb4.size
  replace sP0 := sP0.stay hb4
  replace ks := ks.stay hb4
  replace sA := sA.stay hb4
  replace BW := Below.step BW hb4
  clear hb4
  have csA0 := sA.now 0 _ rfl
  have csA1 := sA.now 1 _ rfl
  have zsA := Has.lt sA.now
  go_wp2_with fail
  refine (eqBytes2_c _ _ _ pg ps qg qs ((pcD x0).2) _ (kg.stay (alloc_below _ _)).now (ks.stay (alloc_below _ _)).now).mono ?_
  rintro e w5 ⟨rfl, hb5⟩
  have sB := (Has.new hb5).win
  have z5 : Hid (w4.heap.size + 1 ≤ w5.heap.size) := size_lt hb5
  replace hb5 := Below.res hb5
  replace sP0 := sP0.stay hb5
  replace ks := ks.stay hb5
  replace sA := sA.stay hb5
  replace kg := kg.stay hb5
  replace BW := Below.step BW hb5
  clear hb5 csA0 csA1 zsA
  have csB0 := sB.now 0 _ rfl
  have csB1 := sB.now 1 _ rfl
  have zsB := Has.lt sB.now
  go_wp2_with fail
  refine (markBytes1_c _ _ _ ((pcD x0).2) _ kg.now hlen).mono ?_
  rintro e w6 ⟨rfl, km, hg⟩
  have z6 : Hid (w5.heap.size ≤ w6.heap.size) := hg.size
  have sg := grown_seg hg gkg.out
  replace sP0 := sP0.seg sg (by have := z1.out; have := z2.out; have := z3.out; have := z4.out; have := z5.out; have := z6.out; omega)
  replace ks := ks.seg sg (by have := z1.out; have := z2.out; have := z3.out; have := z4.out; have := z5.out; have := z6.out; omega)
  replace sA := sA.seg sg (by have := z1.out; have := z2.out; have := z3.out; have := z4.out; have := z5.out; have := z6.out; omega)
  replace sB := sB.seg sg (by have := z1.out; have := z2.out; have := z3.out; have := z4.out; have := z5.out; have := z6.out; omega)
  replace BW := Below.seg BW sg (by have := z1.out; have := z2.out; have := z3.out; have := z4.out; have := z5.out; have := z6.out; omega)
  replace km := km.win (by have := z1.out; have := z2.out; have := z3.out; have := z4.out; have := z5.out; have := z6.out; omega) gkg.out
  clear hg sg kg csB0 csB1 zsB
  have csB0 := sB.now 0 _ rfl
  have csB1 := sB.now 1 _ rfl
  have zsB := Has.lt sB.now
  go_wp2_with fail
  refine (heldBytes1_c _ _ pg qg ((pcD x0).2).length _ km.now hlen).mono ?_
  rintro e w7 ⟨rfl, hb7⟩
  have z7 : Hid (w6.heap.size ≤ w7.heap.size) := hb7.size
  replace sP0 := sP0.stay hb7
  replace ks := ks.stay hb7
  replace sA := sA.stay hb7
  replace sB := sB.stay hb7
  replace km := km.stay hb7
  replace BW := Below.step BW hb7
  clear hb7 csB0 csB1 zsB
  have csP00 := sP0.now 0 _ rfl
  have csP01 := sP0.now 1 _ rfl
  have csP02 := sP0.now 2 _ rfl
  have zsP0 := Has.lt sP0.now
  go_wp2_with fail
  refine (toCert_c x0 _).mono ?_
  rintro e w8 ⟨rfl, hb8⟩
  have z8 : Hid (w7.heap.size ≤ w8.heap.size) := hb8.size
  replace sP0 := sP0.stay hb8
  replace ks := ks.stay hb8
  replace sA := sA.stay hb8
  replace sB := sB.stay hb8
  replace km := km.stay hb8
  replace BW := Below.step BW hb8
  clear hb8 csP00 csP01 csP02 zsP0
  go_wp2_with fail
  refine (implPc_c x0 _).mono ?_
  rintro e w9 ⟨vh, rfl, kh, hb9⟩
  obtain ⟨ph, qh, rfl, -⟩ := kh.rd
  have gkh : Hid (∀ k, k ∈ _ → w8.heap.size ≤ k ∧ k < w9.heap.size) := fun k hk => ⟨by have h := (kh.ins k hk).1; exact h, (kh.ins k hk).2⟩
  replace kh := kh.win (Nat.le_refl _) gkh.out
  have z9 : Hid (w8.heap.size ≤ w9.heap.size) := hb9.size
  replace sP0 := sP0.stay hb9
  replace ks := ks.stay hb9
  replace sA := sA.stay hb9
  replace sB := sB.stay hb9
  replace km := km.stay hb9
  replace BW := Below.step BW hb9
  clear hb9
  have csA0 := sA.now 0 _ rfl
  have csA1 := sA.now 1 _ rfl
  have zsA := Has.lt sA.now
  go_wp2_with fail
  refine (eqBytes2_c _ _ _ ph ps qh qs ((pcD x0).2) _ (kh.stay (alloc_below _ _)).now (ks.stay (alloc_below _ _)).now).mono ?_
  rintro e w10 ⟨rfl, hb10⟩
  have sC := (Has.new hb10).win
  have z10 : Hid (w9.heap.size + 1 ≤ w10.heap.size) := size_lt hb10
  replace hb10 := Below.res hb10
  replace sP0 := sP0.stay hb10
  replace ks := ks.stay hb10
  replace sA := sA.stay hb10
  replace sB := sB.stay hb10
  replace km := km.stay hb10
  replace kh := kh.stay hb10
  replace BW := Below.step BW hb10
  clear hb10 csA0 csA1 zsA
  clear sC sA ks kh
  have csB0 := sB.now 0 _ rfl
  have csB1 := sB.now 1 _ rfl
  have zsB := Has.lt sB.now
  go_wp2_with fail
  refine (heldBytes1_c _ _ pg qg ((pcD x0).2).length _ km.now hlen).mono ?_
  rintro e w11 ⟨rfl, hb11⟩
  have z11 : Hid (w10.heap.size ≤ w11.heap.size) := hb11.size
  replace sP0 := sP0.stay hb11
  replace sB := sB.stay hb11
  replace km := km.stay hb11
  replace BW := Below.step BW hb11
  clear hb11 csB0 csB1 zsB
  go_wp2
  go_ret
  exact ⟨rfl, BW⟩

/-! The row's step. -/
set_option maxRecDepth 100000 in
set_option maxHeartbeats 1000000 in
theorem lifted (os : Os) (started : os.Started) (H : Type) (enc : TypeId × Value → H) :
    ReturnsInHanded {} Try.checked os 6 .any (Rows.fnExactPackCertSpec.pre6 enc Try.prog Try.f6 Rows.fnExactPackCertRow.domain false) (Rows.fnExactPackCertSpec.post enc Try.prog Try.f6 false true false false) := by
  refine returnsInHanded_of_change (C := Try.checked) own started (by kernel_rfl) Try.func6
    (ChangeSpec.witness6 (enc := enc) (C := Try.checked) false ⟨#[], #[.agg #[.int .i64 0, .int .i64 0, .int .i64 0]], []⟩ 8 (by kernel_rfl) (by kernel_rfl) (by kernel_rfl) (by kernel_rfl)) ?_
  intro W base args ds gs before hval0 hW hcnd _
  have hval : ∀ (j : Nat) t v, Try.f6.params[j]? = some t → args[j]? = some v → Value.okWide Try.prog W .any base t v := hval0
  have hW' := hW
  obtain ⟨p, q, hA0, hV, rfl, hfz, hnd⟩ := hW
  have hA : DataW.TrodAll enc Try.prog W 0 (fun _ => true) true Try.f6.params.toList args.toList ds p := hA0
  rw [Try.params6] at hA hval
  obtain ⟨v0, vs0, d0, ds0, s0, t0, hargs, rfl, rfl, h0, m0⟩ := trodAll_cons hA
  obtain ⟨rfl, rfl, rfl⟩ := trodAll_nil m0
  obtain rfl : args = #[v0] := by cases args; simp_all
  obtain ⟨rfl, rfl⟩ := trodVars_none hV
  obtain ⟨cs0, rfl, -⟩ := okWide_struct Try.underlying58 (hval 0 58 v0 rfl rfl)
  have k0 := h0
  have lt0 : ∀ x ∈ s0, x.block < W.heap.size := by obtain ⟨m, hm⟩ := k0; exact DataW.trod_lt m _ _ _ hm
  obtain ⟨x0, r0⟩ : ∃ x, Cod.rep certC W x cs0.toList := by obtain ⟨fuel, hf⟩ := h0; exact (opens_struct (c := certC) Try.underlying58 (by kernel_rfl) (opensF_cons rfl (by kernel_rfl) (opens_int Try.underlying2) (opensF_cons rfl (by kernel_rfl) (opens_int Try.underlying2) (opensF_one rfl (by kernel_rfl) (opens_int Try.underlying2))))) _ _ _ hf
  clear hA0 hval0
  refine (walk x0 cs0.toList W r0).mono fun e W' ⟨he, bel⟩ => ?_
  subst he
  exact ⟨_, rfl, _, _, _, [], _, [], hW', trodAll_mk1 (shut_bool Try.underlying4 _), (trodAll_cons_mk (Below.trod laidOut (by kernel_rfl) (of_decide_eq_true (by kernel_rfl)) k0 bel lt0) trodAll_mk0), rfl, bel.frame _, fun h => by cases h⟩

theorem over : Rows.fnExactPackCertRow.holds Try.pinned (OpenSpec.ofChange Rows.fnExactPackCertSpec) :=
  OpenClaim.holds_of_wide 6 Try.f6 rfl rfl rfl rfl rfl rfl rfl ⟨rfl, rfl, rfl, rfl, rfl⟩ rfl rfl rfl rfl rfl (by kernel_rfl) Try.func6 (by kernel_rfl)
    (of_decide_eq_true (by kernel_rfl)) (by unfold Func.isWrapper; first | (rw [if_pos (by decide +kernel)]; kernel_rfl) | (rw [if_neg (by decide +kernel)]; exact ⟨rfl, rfl⟩))
    (fun os started H enc _ => lifted os started H enc)

/-- The given statement. -/
theorem proved : Rows.FnExactPackCertSaid := over
end Go.Proofs.Ytklglpmlfboglaa.fnExactPackCert

namespace Go.Proofs.Ytklglpmlfboglaa
theorem fnExactPackCert_holds : Rows.FnExactPackCertSaid := fnExactPackCert.proved
end Go.Proofs.Ytklglpmlfboglaa
