/- MsgFault of the program answers as the specification's, leaves its argument alone, and its answer owns its memory, behind another call too. For every argument; no condition. -/
import Derived.Test.YtoneggbbfjenpaaRows
import Derived.WalkKit
import Derived.ProofKit
import Derived.OpenShut
import Derived.ChangeOld
import Derived.Below
import Derived.Test.YtoneggbbfjenpaaOpen
import Derived.Test.YtoneggbbfjenpaaWin
import Derived.Test.YtoneggbbfjenpaaWireI
namespace Go.Proofs.Ytoneggbbfjenpaa.fnExactMsgFault
open Go.ChangeShapes Go.WideShapes Go.ChangeAt Go.RowKit
set_option linter.unusedVariables false

theorem own : ownKnob Try.prog.godebug = none := by kernel_rfl
theorem laidOut : laidOutB Try.prog = true := by kernel_rfl

/-! The walk. -/
theorem walk (x0 : _) (cs0 : List Value) (w : World) (r0 : Cod.rep msgC w x0 cs0) :
    Calls Try.prog 5 #[.agg cs0.toArray] w fun e w' => e = .returned (.bool true) ∧ Below w.heap.size w w' := by
  obtain ⟨p0, q0, rfl, rr0⟩ := msg_rep r0
  clear r0
  have r0 := rr0
  clear rr0
  change Calls _ _ #[.agg #[.int .i64 x0.1, .slice p0 x0.2.length q0]] _ _
  by_cases hl0 : x0.2.length ≤ 1048576
  · go_enter Try.func5, Try.ntmps5
    go_wp2_with fail
    refine (szMsg_c x0.1 p0 q0 x0.2.length _ _ r0.1 r0.2.1 (by omega) (by omega)).mono ?_
    rintro e w1 ⟨rfl, hb1⟩
    have sP0 := (Has.new hb1).win
    have z1 : Hid (w.heap.size + 1 ≤ w1.heap.size) := size_lt hb1
    replace hb1 := Below.res hb1
    have BW := hb1
    clear hb1
    rw [szR, if_pos (by omega)]
    have csP00 := sP0.now 0 _ rfl
    have csP01 := sP0.now 1 _ rfl
    have zsP0 := Has.lt sP0.now
    go_wp2_with fail
    refine (toMsg_c x0 _ _ _ (r0.keep BW) (by omega)).mono ?_
    rintro e w2 ⟨u0, rfl, k0, hb2⟩
    obtain ⟨pc0, qc0, rfl, -⟩ := k0.rd
    have gk0 : Hid (∀ k, k ∈ _ → w1.heap.size ≤ k ∧ k < w2.heap.size) := fun k hk => ⟨by have h := (k0.ins k hk).1; exact h, (k0.ins k hk).2⟩
    replace k0 := k0.win (Nat.le_refl _) gk0.out
    have z2 : Hid (w1.heap.size ≤ w2.heap.size) := hb2.size
    replace sP0 := sP0.stay hb2
    replace BW := Below.step BW hb2
    clear hb2 csP00 csP01 zsP0
    go_wp2_with fail
    refine (specMF_c x0 pc0 qc0 _).mono ?_
    rintro e w3 ⟨rfl, hb3⟩
    have z3 : Hid (w2.heap.size ≤ w3.heap.size) := hb3.size
    replace sP0 := sP0.stay hb3
    replace k0 := k0.stay hb3
    replace BW := Below.step BW hb3
    clear hb3
    clear k0
    have csP00 := sP0.now 0 _ rfl
    have csP01 := sP0.now 1 _ rfl
    have zsP0 := Has.lt sP0.now
    go_wp2_with fail
    refine (toMsg_c x0 _ _ _ (r0.keep BW) (by omega)).mono ?_
    rintro e w4 ⟨u1, rfl, k1, hb4⟩
    obtain ⟨pc1, qc1, rfl, -⟩ := k1.rd
    have gk1 : Hid (∀ k, k ∈ _ → w3.heap.size ≤ k ∧ k < w4.heap.size) := fun k hk => ⟨by have h := (k1.ins k hk).1; exact h, (k1.ins k hk).2⟩
    replace k1 := k1.win (Nat.le_refl _) gk1.out
    have z4 : Hid (w3.heap.size ≤ w4.heap.size) := hb4.size
    replace sP0 := sP0.stay hb4
    replace BW := Below.step BW hb4
    clear hb4 csP00 csP01 zsP0
    go_wp2_with fail
    refine (implMF_c x0 pc1 qc1 _ (Rd.own (k1.stay (alloc_below _ _)).now)).mono ?_
    rintro e w5 ⟨rfl, hb5⟩
    have sX0 := (Has.new hb5).win
    have z5 : Hid (w4.heap.size + 1 ≤ w5.heap.size) := size_lt hb5
    replace hb5 := Below.res hb5
    replace sP0 := sP0.stay hb5
    replace k1 := k1.stay hb5
    replace BW := Below.step BW hb5
    clear hb5
    have gsX0 := HW.at (sX0.now 0 _ rfl)
    have gsX1 := HW.at (sX0.now 1 _ rfl)
    have gsP0 := HW.at (sP0.now 0 _ rfl)
    have gsP1 := HW.at (sP0.now 1 _ rfl)
    have hne := HW.some w5
    go_wp2_with fail
    refine wp_region_odd_seg 2 3 rfl (by kernel_rfl) (by kernel_rfl) (by kernel_rfl) (by kernel_rfl) ?_
    simp only [List.take_succ_cons, List.take_zero]
    repeat (go_big_quiet_step (fail))
    refine wpQuiet_nil ?_
    refine wpG_call (k := 2) rfl (by kernel_rfl) (by kernel_rfl) (by go_simp) 28 _ #[.agg #[.int .i64 x0.1, .slice p0 x0.2.length q0]] (fun w => by go_simp) rfl ?_
    rintro _ ⟨sz1, rfl⟩
    refine (toMsg_c x0 _ _ _ ((r0.keep BW).keep sz1.h) (by omega)).mono ?_
    rintro e wz ⟨uz, rfl, kz, hbz⟩
    obtain ⟨pz, qz, rfl, -⟩ := kz.rd
    refine ⟨_, rfl, ⟨⟨_, hbz⟩, rfl⟩, ?_⟩
    have hbx := Below.step sz1.h hbz
    refine wpG_call (k := 3) rfl (by kernel_rfl) (by kernel_rfl) (by go_simp) 29 _ #[.agg #[.int .i64 x0.1, .slice pc1 x0.2.length qc1], .agg #[.int .i64 x0.1, .slice pz x0.2.length qz]] (fun w => by go_simp) rfl ?_
    rintro _ ⟨sz2, rfl⟩
    refine (eqMsg_c x0 pc1 pz qc1 qz _ (Rd.own ((k1.stay hbx).stay sz2.h).now) (Rd.own (kz.stay sz2.h))).mono ?_
    rintro e wy ⟨rfl, hby⟩
    refine ⟨_, rfl, ⟨⟨_, hby⟩, rfl⟩, ?_⟩
    replace hby := Below.step (Below.step hbx sz2.h) hby
    have hney := HW.some wy
    refine wpG_next 4 1 0 (by decide) (by kernel_rfl) (by kernel_rfl) (by kernel_rfl) ?_
    simp only [List.drop_succ_cons, List.drop_zero, List.take_succ_cons, List.take_zero]
    go_simp
    repeat (go_big_quiet_step (fail))
    refine wpQuiet_nil ?_
    refine wpG_end rfl ?_
    rintro _ ⟨sz3, rfl⟩
    have hb6 := Below.step hby sz3.h
    clear hby hbx hbz kz hne hney gsX0 gsX1 gsP0 gsP1
    generalize sz3.w = w6 at *
    clear sz3 sz2 sz1
    have z6 : Hid (w5.heap.size ≤ w6.heap.size) := hb6.size
    replace sP0 := sP0.stay hb6
    replace k1 := k1.stay hb6
    replace sX0 := sX0.stay hb6
    replace BW := Below.step BW hb6
    clear hb6
    go_wp2
    go_ret
    exact ⟨rfl, BW⟩
  · go_enter Try.func5, Try.ntmps5
    go_wp2_with fail
    refine (szMsg_c x0.1 p0 q0 x0.2.length _ _ r0.1 r0.2.1 (by omega) (by omega)).mono ?_
    rintro e w1 ⟨rfl, hb1⟩
    have sP0 := (Has.new hb1).win
    have z1 : Hid (w.heap.size + 1 ≤ w1.heap.size) := size_lt hb1
    replace hb1 := Below.res hb1
    have BW := hb1
    clear hb1
    rw [szR, if_neg (by omega)]
    go_wp2
    go_ret
    exact ⟨rfl, BW⟩

/-! The row's step. -/
set_option maxRecDepth 100000 in
set_option maxHeartbeats 1000000 in
theorem lifted (os : Os) (started : os.Started) (H : Type) (enc : TypeId × Value → H) :
    ReturnsInHanded {} Try.checked os 5 .any (Rows.fnExactMsgFaultSpec.pre6 enc Try.prog Try.f5 Rows.fnExactMsgFaultRow.domain false) (Rows.fnExactMsgFaultSpec.post enc Try.prog Try.f5 false true false false) := by
  refine returnsInHanded_of_change (C := Try.checked) own started (by kernel_rfl) Try.func5
    (ChangeSpec.witness6 (enc := enc) (C := Try.checked) false ⟨#[], #[.agg #[.int .i64 0, .slice none 0 0]], []⟩ 8 (by kernel_rfl) (by kernel_rfl) (by kernel_rfl) (by kernel_rfl)) ?_
  intro W base args ds gs before hval0 hW hcnd _
  have hval : ∀ (j : Nat) t v, Try.f5.params[j]? = some t → args[j]? = some v → Value.okWide Try.prog W .any base t v := hval0
  have hW' := hW
  obtain ⟨p, q, hA0, hV, rfl, hfz, hnd⟩ := hW
  have hA : DataW.TrodAll enc Try.prog W 0 (fun _ => true) true Try.f5.params.toList args.toList ds p := hA0
  rw [Try.params5] at hA hval
  obtain ⟨v0, vs0, d0, ds0, s0, t0, hargs, rfl, rfl, h0, m0⟩ := trodAll_cons hA
  obtain ⟨rfl, rfl, rfl⟩ := trodAll_nil m0
  obtain rfl : args = #[v0] := by cases args; simp_all
  obtain ⟨rfl, rfl⟩ := trodVars_none hV
  obtain ⟨cs0, rfl, -⟩ := okWide_struct Try.underlying45 (hval 0 45 v0 rfl rfl)
  have k0 := h0
  have lt0 : ∀ x ∈ s0, x.block < W.heap.size := by obtain ⟨m, hm⟩ := k0; exact DataW.trod_lt m _ _ _ hm
  obtain ⟨x0, r0⟩ : ∃ x, Cod.rep msgC W x cs0.toList := by obtain ⟨fuel, hf⟩ := h0; exact (opens_struct (c := msgC) Try.underlying45 (by kernel_rfl) (opensF_cons rfl (by kernel_rfl) (opens_int Try.underlying2) (opensF_one rfl (by kernel_rfl) (opens_bytes Try.underlying22 Try.underlying5 (by kernel_rfl))))) _ _ _ hf
  clear hA0 hval0
  refine (walk x0 cs0.toList W r0).mono fun e W' ⟨he, bel⟩ => ?_
  subst he
  exact ⟨_, rfl, _, _, _, [], _, [], hW', trodAll_mk1 (shut_bool Try.underlying4 _), (trodAll_cons_mk (Below.trod laidOut (by kernel_rfl) (of_decide_eq_true (by kernel_rfl)) k0 bel lt0) trodAll_mk0), rfl, bel.frame _, fun h => by cases h⟩

theorem over : Rows.fnExactMsgFaultRow.holds Try.pinned (OpenSpec.ofChange Rows.fnExactMsgFaultSpec) :=
  OpenClaim.holds_of_wide 5 Try.f5 rfl rfl rfl rfl rfl rfl rfl ⟨rfl, rfl, rfl, rfl, rfl⟩ rfl rfl rfl rfl rfl (by kernel_rfl) Try.func5 (by kernel_rfl)
    (of_decide_eq_true (by kernel_rfl)) (by unfold Func.isWrapper; first | (rw [if_pos (by decide +kernel)]; kernel_rfl) | (rw [if_neg (by decide +kernel)]; exact ⟨rfl, rfl⟩))
    (fun os started H enc _ => lifted os started H enc)

/-- The given statement. -/
theorem proved : Rows.FnExactMsgFaultSaid := over
end Go.Proofs.Ytoneggbbfjenpaa.fnExactMsgFault

namespace Go.Proofs.Ytoneggbbfjenpaa
theorem fnExactMsgFault_holds : Rows.FnExactMsgFaultSaid := fnExactMsgFault.proved
end Go.Proofs.Ytoneggbbfjenpaa
