/- TranscriptOf of the program answers as the specification's, every field, leaves its arguments alone, and its answer owns its memory, behind another call too. For every argument; no condition. -/
import Derived.Test.YtpbkncliepkhaaaDoorRows
import Derived.WalkKit
import Derived.ProofKit
import Derived.OpenShut
import Derived.ChangeOld
import Derived.Below
import Derived.Test.YtpbkncliepkhaaaDoorOpen
import Derived.OpenVars
import Derived.LaidMore
import Derived.Stop.Joined
import Derived.SevenTiedAt
import Derived.Test.YtpbkncliepkhaaaDoorJoint1
import Derived.Test.YtpbkncliepkhaaaDoorJoint16
import Derived.Test.YtpbkncliepkhaaaDoorJoint15
import Derived.Test.YtpbkncliepkhaaaDoorCards
import Derived.Test.YtpbkncliepkhaaaDoorTie
namespace Go.Proofs.YtpbkncliepkhaaaDoor.fnExactTranscriptOf
open Go.ChangeShapes Go.WideShapes Go.ChangeAt Go.RowKit
set_option linter.unusedVariables false

theorem own : ownKnob Tryd.prog.godebug = none := by kernel_rfl
theorem laidOut : laidOutB Tryd.prog = true := by kernel_rfl

/-! The walk. -/
set_option maxRecDepth 4000 in
set_option maxHeartbeats 4000000 in
theorem walk (l0 : _) (p0 : Option Addr) (q0 : Nat) (w : World) (r0 : RdL msgC w p0 q0 l0) (hT : Tabs w) :
    Calls Tryd.prog 4 #[.slice p0 l0.length q0] w fun e w' => e = .returned (.bool true) ∧ Below w.heap.size w w' := by
  have rb0 : msgsC.rep w l0 [.slice p0 l0.length q0] := ⟨p0, q0, rfl, r0⟩
  replace r0 := rb0
  clear rb0
  have HR0 : Hid (msgsC.rep w l0 _) := r0
  clear r0
  by_cases hs0 : bulkM l0 ≤ 1048576
  · have hlen := trD_small l0
    have hlen1 : 1 + bytesResultT ((psC l0, trL l0)) ≤ 1000000000 := by omega
    have hlen2 : 1 + bytesResultT ((psC l0, trL l0)) ≤ 1048577 := by omega
    go_enter Tryd.func4, Tryd.ntmps4
    go_wp2_with fail
    refine (szMsgS_k l0 _ _ _ HR0.out (by omega) (by omega)).mono ?_
    rintro e w1 ⟨rfl, hb1⟩
    have z1 : Hid (w.heap.size ≤ w1.heap.size) := hb1.size
    have BW := hb1
    clear hb1
    rw [szR, if_pos (by omega)]
    go_wp2_with fail
    refine (toMsgS_k l0 _ _ (msgsC.keep HR0.out BW) (by omega)).mono ?_
    rintro e w2 ⟨us0, fp0, rfl, k0, hb2⟩
    obtain ⟨pc0, qc0, es, -⟩ := msgsC.toRep k0
    simp only [List.cons.injEq, and_true] at es
    subst es
    have gk0 : Hid (∀ k, k ∈ _ → w1.heap.size ≤ k ∧ k < w2.heap.size) := fun k hk => ⟨by have h := (k0.ins k hk).1; exact h, (k0.ins k hk).2⟩
    replace k0 := k0.win (Nat.le_refl _) gk0.out
    have z2 : Hid (w1.heap.size ≤ w2.heap.size) := hb2.size
    replace BW := Below.step BW hb2
    clear hb2
    go_wp2_with fail
    refine (specTr_k l0 _ _ (msgsC.toRep k0.now)).mono ?_
    rintro e w3 ⟨uss, fps, rfl, ks, hb3⟩
    obtain ⟨ps2, qs2, es, -⟩ := bytesResult_rep (bytesResultC.toRep ks)
    subst es
    have gks : Hid (∀ k, k ∈ _ → w2.heap.size ≤ k ∧ k < w3.heap.size) := fun k hk => ⟨by have h := (ks.ins k hk).1; exact h, (ks.ins k hk).2⟩
    replace ks := ks.win (Nat.le_refl _) gks.out
    have z3 : Hid (w2.heap.size ≤ w3.heap.size) := hb3.size
    replace k0 := k0.stay hb3
    replace BW := Below.step BW hb3
    clear hb3
    clear k0
    go_wp2_with fail
    refine (toMsgS_k l0 _ _ (msgsC.keep (msgsC.keep HR0.out BW) (alloc_below _ _)) (by omega)).mono ?_
    rintro e w4 ⟨us1, fp1, rfl, k1, hb4⟩
    obtain ⟨pc1, qc1, es, -⟩ := msgsC.toRep k1
    simp only [List.cons.injEq, and_true] at es
    subst es
    have gk1 : Hid (∀ k, k ∈ _ → (w3.heap.size + 1) ≤ k ∧ k < w4.heap.size) := fun k hk => ⟨by have h := (k1.ins k hk).1; rw [size_alloc] at h; exact h, (k1.ins k hk).2⟩
    replace k1 := k1.win (Nat.le_refl _) gk1.out
    have sA := (Has.new hb4).win
    have z4 : Hid (w3.heap.size + 1 ≤ w4.heap.size) := size_lt hb4
    replace hb4 := Below.res hb4
    replace ks := ks.stay hb4
    replace BW := Below.step BW hb4
    clear hb4
    go_wp2_with fail
    refine (implTr_k l0 _ _ (msgsC.toRep k1.now) (hT.keep BW)).mono ?_
    rintro e w5 ⟨usg, fpg, rfl, kg, hb5⟩
    obtain ⟨pg2, qg2, es, -⟩ := bytesResult_rep (bytesResultC.toRep kg)
    subst es
    have gkg : Hid (∀ k, k ∈ _ → w4.heap.size ≤ k ∧ k < w5.heap.size) := fun k hk => ⟨by have h := (kg.ins k hk).1; exact h, (kg.ins k hk).2⟩
    replace kg := kg.win (Nat.le_refl _) gkg.out
    have z5 : Hid (w4.heap.size ≤ w5.heap.size) := hb5.size
    replace ks := ks.stay hb5
    replace sA := sA.stay hb5
    replace k1 := k1.stay hb5
    replace BW := Below.step BW hb5
    clear hb5
    have csA0 := sA.now 0 _ rfl
    have csA1 := sA.now 1 _ rfl
    have zsA := Has.lt sA.now
    go_wp2_with fail
    refine (eqBytesResult_k ((psC l0, trL l0)) _ _ _ (bytesResultC.toRep (kg.stay (alloc_below _ _)).now) (bytesResultC.toRep (ks.stay (alloc_below _ _)).now)).mono ?_
    rintro e w6 ⟨rfl, hb6⟩
    have sB := (Has.new hb6).win
    have z6 : Hid (w5.heap.size + 1 ≤ w6.heap.size) := size_lt hb6
    replace hb6 := Below.res hb6
    replace ks := ks.stay hb6
    replace sA := sA.stay hb6
    replace k1 := k1.stay hb6
    replace kg := kg.stay hb6
    replace BW := Below.step BW hb6
    clear hb6 csA0 csA1 zsA
    go_wp2_with fail
    refine (toMsgS_k l0 _ _ (msgsC.keep HR0.out BW) (by omega)).mono ?_
    rintro e w7 ⟨us2, fp2, rfl, k2, hb7⟩
    obtain ⟨pc2, qc2, es, -⟩ := msgsC.toRep k2
    simp only [List.cons.injEq, and_true] at es
    subst es
    have gk2 : Hid (∀ k, k ∈ _ → w6.heap.size ≤ k ∧ k < w7.heap.size) := fun k hk => ⟨by have h := (k2.ins k hk).1; exact h, (k2.ins k hk).2⟩
    replace k2 := k2.win (Nat.le_refl _) gk2.out
    have z7 : Hid (w6.heap.size ≤ w7.heap.size) := hb7.size
    replace ks := ks.stay hb7
    replace sA := sA.stay hb7
    replace k1 := k1.stay hb7
    replace kg := kg.stay hb7
    replace sB := sB.stay hb7
    replace BW := Below.step BW hb7
    clear hb7
    go_wp2_with fail
    refine (eqMsgS_k l0 _ _ _ (msgsC.toRep k1.now) (msgsC.toRep k2.now)).mono ?_
    rintro e w8 ⟨rfl, hb8⟩
    have z8 : Hid (w7.heap.size ≤ w8.heap.size) := hb8.size
    replace ks := ks.stay hb8
    replace sA := sA.stay hb8
    replace k1 := k1.stay hb8
    replace kg := kg.stay hb8
    replace sB := sB.stay hb8
    replace k2 := k2.stay hb8
    replace BW := Below.step BW hb8
    clear hb8
    clear k2
    go_wp2_with fail
    refine (markMsgS_k l0 _ _ _ 1 _ (by first | rfl | simp | (simp; omega) | (push_cast; omega)) _ k1.now (by omega) (by omega)).mono ?_
    rintro e w9 ⟨rfl, -, hg⟩
    have z9 : Hid (w8.heap.size ≤ w9.heap.size) := hg.size
    have sg := Only.seg hg gk1.out
    replace ks := ks.seg sg (by have := z1.out; have := z2.out; have := z3.out; have := z4.out; have := z5.out; have := z6.out; have := z7.out; have := z8.out; have := z9.out; omega)
    replace sA := sA.seg sg (by have := z1.out; have := z2.out; have := z3.out; have := z4.out; have := z5.out; have := z6.out; have := z7.out; have := z8.out; have := z9.out; omega)
    replace kg := kg.seg sg (by have := z1.out; have := z2.out; have := z3.out; have := z4.out; have := z5.out; have := z6.out; have := z7.out; have := z8.out; have := z9.out; omega)
    replace sB := sB.seg sg (by have := z1.out; have := z2.out; have := z3.out; have := z4.out; have := z5.out; have := z6.out; have := z7.out; have := z8.out; have := z9.out; omega)
    replace BW := Below.seg BW sg (by have := z1.out; have := z2.out; have := z3.out; have := z4.out; have := z5.out; have := z6.out; have := z7.out; have := z8.out; have := z9.out; omega)
    clear hg sg k1
    have csA0 := sA.now 0 _ rfl
    have csA1 := sA.now 1 _ rfl
    have zsA := Has.lt sA.now
    have csB0 := sB.now 0 _ rfl
    have csB1 := sB.now 1 _ rfl
    have zsB := Has.lt sB.now
    go_wp2_with fail
    refine (eqBytesResult_k ((psC l0, trL l0)) _ _ _ (bytesResultC.toRep kg.now) (bytesResultC.toRep ks.now)).mono ?_
    rintro e w10 ⟨rfl, hb10⟩
    have z10 : Hid (w9.heap.size ≤ w10.heap.size) := hb10.size
    replace ks := ks.stay hb10
    replace sA := sA.stay hb10
    replace kg := kg.stay hb10
    replace sB := sB.stay hb10
    replace BW := Below.step BW hb10
    clear hb10 csA0 csA1 zsA csB0 csB1 zsB
    have csB0 := sB.now 0 _ rfl
    have csB1 := sB.now 1 _ rfl
    have zsB := Has.lt sB.now
    go_wp2_with fail
    refine (markBytesResult_k ((psC l0, trL l0)) _ _ _ 1 1 rfl _ kg.now hlen1).mono ?_
    rintro e w11 ⟨rfl, km, hg⟩
    have z11 : Hid (w10.heap.size ≤ w11.heap.size) := hg.size
    have sg := Only.seg hg gkg.out
    replace ks := ks.seg sg (by have := z1.out; have := z2.out; have := z3.out; have := z4.out; have := z5.out; have := z6.out; have := z7.out; have := z8.out; have := z9.out; have := z10.out; have := z11.out; omega)
    replace sA := sA.seg sg (by have := z1.out; have := z2.out; have := z3.out; have := z4.out; have := z5.out; have := z6.out; have := z7.out; have := z8.out; have := z9.out; have := z10.out; have := z11.out; omega)
    replace sB := sB.seg sg (by have := z1.out; have := z2.out; have := z3.out; have := z4.out; have := z5.out; have := z6.out; have := z7.out; have := z8.out; have := z9.out; have := z10.out; have := z11.out; omega)
    replace BW := Below.seg BW sg (by have := z1.out; have := z2.out; have := z3.out; have := z4.out; have := z5.out; have := z6.out; have := z7.out; have := z8.out; have := z9.out; have := z10.out; have := z11.out; omega)
    replace km := km.win (by have := z1.out; have := z2.out; have := z3.out; have := z4.out; have := z5.out; have := z6.out; have := z7.out; have := z8.out; have := z9.out; have := z10.out; have := z11.out; omega) gkg.out
    clear hg sg kg csB0 csB1 zsB
    have csB0 := sB.now 0 _ rfl
    have csB1 := sB.now 1 _ rfl
    have zsB := Has.lt sB.now
    go_wp2_with fail
    refine (heldBytesResult_k ((psC l0, trL l0)) _ 1 1 rfl _ (bytesResultC.toRep km.now) hlen2).mono ?_
    rintro e w12 ⟨rfl, hb12⟩
    have z12 : Hid (w11.heap.size ≤ w12.heap.size) := hb12.size
    replace ks := ks.stay hb12
    replace sA := sA.stay hb12
    replace sB := sB.stay hb12
    replace km := km.stay hb12
    replace BW := Below.step BW hb12
    clear hb12 csB0 csB1 zsB
    go_wp2_with fail
    refine (toMsgS_k l0 _ _ (msgsC.keep HR0.out BW) (by omega)).mono ?_
    rintro e w13 ⟨us3, fp3, rfl, k3, hb13⟩
    obtain ⟨pc3, qc3, es, -⟩ := msgsC.toRep k3
    simp only [List.cons.injEq, and_true] at es
    subst es
    have gk3 : Hid (∀ k, k ∈ _ → w12.heap.size ≤ k ∧ k < w13.heap.size) := fun k hk => ⟨by have h := (k3.ins k hk).1; exact h, (k3.ins k hk).2⟩
    replace k3 := k3.win (Nat.le_refl _) gk3.out
    have z13 : Hid (w12.heap.size ≤ w13.heap.size) := hb13.size
    replace ks := ks.stay hb13
    replace sA := sA.stay hb13
    replace sB := sB.stay hb13
    replace km := km.stay hb13
    replace BW := Below.step BW hb13
    clear hb13
    go_wp2_with fail
    refine (implTr_k l0 _ _ (msgsC.toRep k3.now) (hT.keep BW)).mono ?_
    rintro e w14 ⟨ush, fph, rfl, kh, hb14⟩
    obtain ⟨ph2, qh2, es, -⟩ := bytesResult_rep (bytesResultC.toRep kh)
    subst es
    have gkh : Hid (∀ k, k ∈ _ → w13.heap.size ≤ k ∧ k < w14.heap.size) := fun k hk => ⟨by have h := (kh.ins k hk).1; exact h, (kh.ins k hk).2⟩
    replace kh := kh.win (Nat.le_refl _) gkh.out
    have z14 : Hid (w13.heap.size ≤ w14.heap.size) := hb14.size
    replace ks := ks.stay hb14
    replace sA := sA.stay hb14
    replace sB := sB.stay hb14
    replace km := km.stay hb14
    replace k3 := k3.stay hb14
    replace BW := Below.step BW hb14
    clear hb14
    clear k3
    have csA0 := sA.now 0 _ rfl
    have csA1 := sA.now 1 _ rfl
    have zsA := Has.lt sA.now
    go_wp2_with fail
    refine (eqBytesResult_k ((psC l0, trL l0)) _ _ _ (bytesResultC.toRep (kh.stay (alloc_below _ _)).now) (bytesResultC.toRep (ks.stay (alloc_below _ _)).now)).mono ?_
    rintro e w15 ⟨rfl, hb15⟩
    have sC := (Has.new hb15).win
    have z15 : Hid (w14.heap.size + 1 ≤ w15.heap.size) := size_lt hb15
    replace hb15 := Below.res hb15
    replace ks := ks.stay hb15
    replace sA := sA.stay hb15
    replace sB := sB.stay hb15
    replace km := km.stay hb15
    replace kh := kh.stay hb15
    replace BW := Below.step BW hb15
    clear hb15 csA0 csA1 zsA
    clear sC sA ks kh
    have csB0 := sB.now 0 _ rfl
    have csB1 := sB.now 1 _ rfl
    have zsB := Has.lt sB.now
    go_wp2_with fail
    refine (heldBytesResult_k ((psC l0, trL l0)) _ 1 1 rfl _ (bytesResultC.toRep km.now) hlen2).mono ?_
    rintro e w16 ⟨rfl, hb16⟩
    have z16 : Hid (w15.heap.size ≤ w16.heap.size) := hb16.size
    replace sB := sB.stay hb16
    replace km := km.stay hb16
    replace BW := Below.step BW hb16
    clear hb16 csB0 csB1 zsB
    go_wp2
    go_ret
    exact ⟨rfl, BW⟩
  · go_enter Tryd.func4, Tryd.ntmps4
    go_wp2_with fail
    refine (szMsgS_k l0 _ _ _ HR0.out (by omega) (by omega)).mono ?_
    rintro e w1 ⟨rfl, hb1⟩
    have z1 : Hid (w.heap.size ≤ w1.heap.size) := hb1.size
    have BW := hb1
    clear hb1
    rw [szR, if_neg (by omega)]
    go_wp2
    go_ret
    exact ⟨rfl, BW⟩

/-! The row's step. -/
/-- The door's own heap meets the condition. -/
theorem door_met (os : Os) (args : Array Value) : laidMetH Tryd.prog Rows.fnExactTranscriptOfRow.laid ((World.doorLaid Tryd.prog 400 os).forCall (fun _ _ => 0) ⟨#[], args, []⟩).memory :=
  laidMet_of_run' 8 (by kernel_rfl) (by kernel_rfl)

set_option maxRecDepth 100000 in
set_option maxHeartbeats 1000000 in
theorem lifted (os : Os) (started : os.Started) (H : Type) (enc : TypeId × Value → H) :
    ReturnsInHanded {} Tryd.checked os 4 .any (fun w args => (Rows.fnExactTranscriptOfSpec.pre enc Tryd.prog Tryd.f4 [] false w args ∧ laidMetH Tryd.prog Rows.fnExactTranscriptOfRow.laid w) ∧ sizedMet enc Tryd.prog Tryd.f4 (OpenSpec.ofChange Rows.fnExactTranscriptOfSpec) false w args) (Rows.fnExactTranscriptOfSpec.post enc Tryd.prog Tryd.f4 false true false false) := by
  refine returnsInHanded_of_change_and (C := Tryd.checked) (X := fun w _ => laidMetH Tryd.prog Rows.fnExactTranscriptOfRow.laid w) (fun _ _ _ hh h => h.of_heap hh) own started (by kernel_rfl) Tryd.func4
    (ChangeSpec.witness_shaped (enc := enc) (C := Tryd.checked) (os := os) (X := fun w _ => laidMetH Tryd.prog Rows.fnExactTranscriptOfRow.laid w) false (World.doorLaid Tryd.prog 400 os) #[.slice none 0 0] 8 rfl (World.shaped_of_RefB (by kernel_rfl) (by kernel_rfl)) (by kernel_rfl) (by kernel_rfl) (by kernel_rfl) (door_met os _)) ?_
  intro W base args ds gs before hval0 hW hcnd _ hL _
  have hval : ∀ (j : Nat) t v, Tryd.f4.params[j]? = some t → args[j]? = some v → Value.okWide Tryd.prog W .any base t v := hval0
  have hW' := hW
  obtain ⟨p, q, hA0, hV, rfl, hfz, hnd⟩ := hW
  have hA : DataW.TrodAll enc Tryd.prog W 0 (fun _ => true) true Tryd.f4.params.toList args.toList ds p := hA0
  rw [Tryd.params4] at hA hval
  obtain ⟨v0, vs0, d0, ds0, s0, t0, hargs, rfl, rfl, h0, m0⟩ := trodAll_cons hA
  obtain ⟨rfl, rfl, rfl⟩ := trodAll_nil m0
  obtain rfl : args = #[v0] := by cases args; simp_all
  obtain ⟨v0a, v0b, v0c, v0d, v0e, v0f, v1a, v1b, v1c, v1d, v1e, v1f, rfl, -⟩ := trodVars_two hV
  obtain ⟨e0, len0, cap0, rfl⟩ := okWide_slice Tryd.underlying39 (hval 0 39 v0 rfl rfl)
  have k0 := h0
  have lt0 : ∀ x ∈ s0, x.block < W.heap.size := by obtain ⟨m, hm⟩ := k0; exact DataW.trod_lt m _ _ _ hm
  obtain ⟨l0, p0, q0, g0, r0⟩ : ∃ x, Cod.rep (listC 62 msgC) W x [.slice e0 len0 cap0] := by obtain ⟨fuel, hf⟩ := h0; exact (opens_list (e' := 62) (c := msgC) Tryd.underlying39 (by kernel_rfl) (by decide) (opens_struct (c := msgC) Tryd.underlying62 (by kernel_rfl) (opensF_cons rfl (by kernel_rfl) (opens_int Tryd.underlying2) (opensF_one rfl (by kernel_rfl) (opens_bytes Tryd.underlying22 Tryd.underlying5 (by kernel_rfl)))))) _ _ _ hf
  simp only [List.cons.injEq, Value.slice.injEq, and_true] at g0
  obtain ⟨rfl, rfl, rfl⟩ := g0
  clear hA0 hval0
  refine (walk l0 e0 cap0 W r0 (tabs_of hL)).mono fun e W' ⟨he, bel⟩ => ?_
  subst he
  exact ⟨_, rfl, _, _, _, [], _, _, hW', trodAll_mk1 (shut_bool Tryd.underlying4 _), (trodAll_cons_mk (Below.trod laidOut (by kernel_rfl) (of_decide_eq_true (by kernel_rfl)) k0 bel lt0) trodAll_mk0), Below.trodVars laidOut bel (by kernel_rfl) hV, bel.frame _, fun h => by cases h⟩

theorem over : Rows.fnExactTranscriptOfRow.holds Tryd.pinned (OpenSpec.ofChange Rows.fnExactTranscriptOfSpec) :=
  OpenClaim.holds_of_wide 4 Tryd.f4 rfl rfl rfl rfl rfl rfl rfl ⟨rfl, rfl, rfl, rfl, rfl⟩ rfl rfl rfl rfl rfl (by kernel_rfl) Tryd.func4 (by kernel_rfl)
    (of_decide_eq_true (by kernel_rfl)) (by unfold Func.isWrapper; first | (rw [if_pos (by decide +kernel)]; kernel_rfl) | (rw [if_neg (by decide +kernel)]; exact ⟨rfl, rfl⟩))
    (fun os started H enc _ => lifted os started H enc)

theorem plain (f : FuncId) (fn : Func) (hf : Tryd.pinned.checked.prog.funcNamed "loop.example/g00375/laws.FnExactTranscriptOf" = some f) (hfn : Tryd.pinned.checked.prog.funcs[f]? = some fn) :
    true = Tryd.pinned.checked.prog.looks [] ∧ ∀ (j : Nat) t, fn.params[j]? = some t → Tryd.pinned.checked.prog.wantsStandIn t = false := by
  obtain rfl : f = 4 := Option.some.inj ((show Tryd.prog.funcNamed "loop.example/g00375/laws.FnExactTranscriptOf" = some 4 by kernel_rfl).symm.trans hf) |>.symm
  obtain rfl : fn = Tryd.f4 := (Option.some.inj (Tryd.func4.symm.trans hfn)).symm
  refine ⟨by kernel_rfl, fun j t ht => ?_⟩
  rw [Tryd.params4] at ht
  have hm : t ∈ [39] := by simpa using Array.mem_of_getElem? ht
  have hall : ([39].all fun u => !Tryd.prog.wantsStandIn u) = true := by kernel_rfl
  exact (show Tryd.prog.wantsStandIn t = false by simpa using List.all_eq_true.1 hall t hm)
/-- The card. -/
theorem card : Rows.FnExactTranscriptOfCardSaid :=
  Claim7.holds_tied_plain_at .later [] _ _ _ _ over (fun _ h => by cases h) (by kernel_rfl) (fun _ h => by cases h) fnExactTranscriptOf_row_tie rfl ⟨rfl, rfl⟩ (by kernel_rfl) rfl plain (by kernel_rfl)
end Go.Proofs.YtpbkncliepkhaaaDoor.fnExactTranscriptOf

namespace Go.Proofs.YtpbkncliepkhaaaDoor
theorem fnExactTranscriptOf_holds : Rows.FnExactTranscriptOfCardSaid := fnExactTranscriptOf.card
end Go.Proofs.YtpbkncliepkhaaaDoor
