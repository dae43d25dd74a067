/- EndFault of the program answers as the specification's, every field, leaves its arguments alone, and its answer owns its memory, behind another call too. For every argument; no condition. -/
import Derived.Test.YtiabacnmmojfjaaRows
import Derived.WalkKit
import Derived.ProofKit
import Derived.OpenShut
import Derived.ChangeOld
import Derived.Below
import Derived.Test.YtiabacnmmojfjaaJoint1
import Derived.Test.YtiabacnmmojfjaaShkI
namespace Go.Proofs.Ytiabacnmmojfjaa.fnExactEndFault
open Go.ChangeShapes Go.WideShapes Go.ChangeAt Go.RowKit
set_option linter.unusedVariables false

theorem own : ownKnob Try.prog.godebug = none := by kernel_rfl
theorem laidOut : laidOutB Try.prog = true := by kernel_rfl

/-! The walk. -/
set_option maxRecDepth 4000 in
set_option maxHeartbeats 4000000 in
theorem walk (x0 : _) (cs0 : List Value) (w : World) (r0 : Cod.rep endC w x0 cs0) :
    Calls Try.prog 4 #[.agg cs0.toArray] w fun e w' => e = .returned (.bool true) ∧ Below w.heap.size w w' := by
  obtain ⟨p01_2, q01_2, p01_4, q01_4, p04, q04, p05, q05, p06_1, q06_1, p06_2, q06_2, p06_3, q06_3, p06_4, q06_4, rfl, rr01_2, rr01_4, rr04, rr05, rr06_1, rr06_2, rr06_3, rr06_4⟩ := end_rep r0
  replace r0 := end_mk rr01_2 rr01_4 rr04 rr05 rr06_1 rr06_2 rr06_3 rr06_4
  clear rr01_2 rr01_4 rr04 rr05 rr06_1 rr06_2 rr06_3 rr06_4
  change Calls _ _ #[.agg #[.int .i64 x0.1.1, .slice p01_2 x0.1.2.1.length q01_2, .int .i64 x0.1.2.2.1, .slice p01_4 x0.1.2.2.2.length q01_4, .int .i64 x0.2.1, .int .i64 x0.2.2.1, .slice p04 x0.2.2.2.1.length q04, .slice p05 x0.2.2.2.2.1.length q05, .slice p06_1 x0.2.2.2.2.2.1.length q06_1, .slice p06_2 x0.2.2.2.2.2.2.1.length q06_2, .slice p06_3 x0.2.2.2.2.2.2.2.1.length q06_3, .slice p06_4 x0.2.2.2.2.2.2.2.2.length q06_4]] _ _
  have HR0 : Hid (endC.rep w x0 _) := r0
  clear r0
  by_cases hs0 : endN x0 ≤ 1048576
  · have ht0 := endT_le x0
    go_enter Try.func4, Try.ntmps4
    go_wp2_with fail
    refine (szEnd_k x0 _ _ _ (endC.keep HR0.out (alloc_below _ _)) (by omega) (by omega)).mono ?_
    rintro e w1 ⟨rfl, hb1⟩
    have sP0 := (Has.new hb1).win
    have z1 : Hid (w.heap.size + 1 ≤ w1.heap.size) := size_lt hb1
    replace hb1 := Below.res hb1
    have BW := hb1
    clear hb1
    rw [szR, if_pos (by omega)]
    have csP00 := sP0.now 0 _ rfl
    have csP01 := sP0.now 1 _ rfl
    have csP02 := sP0.now 2 _ rfl
    have csP03 := sP0.now 3 _ rfl
    have csP04 := sP0.now 4 _ rfl
    have csP05 := sP0.now 5 _ rfl
    have csP06 := sP0.now 6 _ rfl
    have csP07 := sP0.now 7 _ rfl
    have csP08 := sP0.now 8 _ rfl
    have csP09 := sP0.now 9 _ rfl
    have csP010 := sP0.now 10 _ rfl
    have csP011 := sP0.now 11 _ rfl
    have zsP0 := Has.lt sP0.now
    go_wp2_with fail
    refine (toEnd_k x0 _ _ (endC.keep HR0.out BW) (by omega)).mono ?_
    rintro e w2 ⟨us0, fp0, rfl, k0, hb2⟩
    obtain ⟨pc01_2, qc01_2, pc01_4, qc01_4, pc04, qc04, pc05, qc05, pc06_1, qc06_1, pc06_2, qc06_2, pc06_3, qc06_3, pc06_4, qc06_4, es, -, -, -, -, -, -, -, -⟩ := end_rep (endC.toRep k0)
    subst es
    have gk0 : Hid (∀ k, k ∈ _ → w1.heap.size ≤ k ∧ k < w2.heap.size) := fun k hk => ⟨by have h := (k0.ins k hk).1; exact h, (k0.ins k hk).2⟩
    replace k0 := k0.win (Nat.le_refl _) gk0.out
    have z2 : Hid (w1.heap.size ≤ w2.heap.size) := hb2.size
    replace sP0 := sP0.stay hb2
    replace BW := Below.step BW hb2
    clear hb2 csP00 csP01 csP02 csP03 csP04 csP05 csP06 csP07 csP08 csP09 csP010 csP011 zsP0
    go_wp2_with fail
    refine (specEf_k x0 _ _ (endC.toRep k0.now)).mono ?_
    rintro e w3 ⟨rfl, hb3⟩
    have z3 : Hid (w2.heap.size ≤ w3.heap.size) := hb3.size
    replace sP0 := sP0.stay hb3
    replace k0 := k0.stay hb3
    replace BW := Below.step BW hb3
    clear hb3
    clear k0
    have csP00 := sP0.now 0 _ rfl
    have csP01 := sP0.now 1 _ rfl
    have csP02 := sP0.now 2 _ rfl
    have csP03 := sP0.now 3 _ rfl
    have csP04 := sP0.now 4 _ rfl
    have csP05 := sP0.now 5 _ rfl
    have csP06 := sP0.now 6 _ rfl
    have csP07 := sP0.now 7 _ rfl
    have csP08 := sP0.now 8 _ rfl
    have csP09 := sP0.now 9 _ rfl
    have csP010 := sP0.now 10 _ rfl
    have csP011 := sP0.now 11 _ rfl
    have zsP0 := Has.lt sP0.now
    go_wp2_with fail
    refine (toEnd_k x0 _ _ (endC.keep HR0.out BW) (by omega)).mono ?_
    rintro e w4 ⟨us1, fp1, rfl, k1, hb4⟩
    obtain ⟨pc11_2, qc11_2, pc11_4, qc11_4, pc14, qc14, pc15, qc15, pc16_1, qc16_1, pc16_2, qc16_2, pc16_3, qc16_3, pc16_4, qc16_4, es, -, -, -, -, -, -, -, -⟩ := end_rep (endC.toRep k1)
    subst es
    have gk1 : Hid (∀ k, k ∈ _ → w3.heap.size ≤ k ∧ k < w4.heap.size) := fun k hk => ⟨by have h := (k1.ins k hk).1; exact h, (k1.ins k hk).2⟩
    replace k1 := k1.win (Nat.le_refl _) gk1.out
    have z4 : Hid (w3.heap.size ≤ w4.heap.size) := hb4.size
    replace sP0 := sP0.stay hb4
    replace BW := Below.step BW hb4
    clear hb4 csP00 csP01 csP02 csP03 csP04 csP05 csP06 csP07 csP08 csP09 csP010 csP011 zsP0
    go_wp2_with fail
    refine (implEf_k x0 _ _ (endC.toRep (k1.stay (alloc_below _ _)).now)).mono ?_
    rintro e w5 ⟨rfl, hb5⟩
    have sX0 := (Has.new hb5).win
    have z5 : Hid (w4.heap.size + 1 ≤ w5.heap.size) := size_lt hb5
    replace hb5 := Below.res hb5
    replace sP0 := sP0.stay hb5
    replace k1 := k1.stay hb5
    replace BW := Below.step BW hb5
    clear hb5
    have gsX0 := HW.at (sX0.now 0 _ rfl)
    have gsX1 := HW.at (sX0.now 1 _ rfl)
    have gsX2 := HW.at (sX0.now 2 _ rfl)
    have gsX3 := HW.at (sX0.now 3 _ rfl)
    have gsX4 := HW.at (sX0.now 4 _ rfl)
    have gsX5 := HW.at (sX0.now 5 _ rfl)
    have gsX6 := HW.at (sX0.now 6 _ rfl)
    have gsX7 := HW.at (sX0.now 7 _ rfl)
    have gsX8 := HW.at (sX0.now 8 _ rfl)
    have gsX9 := HW.at (sX0.now 9 _ rfl)
    have gsX10 := HW.at (sX0.now 10 _ rfl)
    have gsX11 := HW.at (sX0.now 11 _ rfl)
    have gsP0 := HW.at (sP0.now 0 _ rfl)
    have gsP1 := HW.at (sP0.now 1 _ rfl)
    have gsP2 := HW.at (sP0.now 2 _ rfl)
    have gsP3 := HW.at (sP0.now 3 _ rfl)
    have gsP4 := HW.at (sP0.now 4 _ rfl)
    have gsP5 := HW.at (sP0.now 5 _ rfl)
    have gsP6 := HW.at (sP0.now 6 _ rfl)
    have gsP7 := HW.at (sP0.now 7 _ rfl)
    have gsP8 := HW.at (sP0.now 8 _ rfl)
    have gsP9 := HW.at (sP0.now 9 _ rfl)
    have gsP10 := HW.at (sP0.now 10 _ rfl)
    have gsP11 := HW.at (sP0.now 11 _ rfl)
    have hne := HW.some w5
    go_wp2_with fail
    refine wp_region_odd_seg 2 3 rfl (by kernel_rfl) (by kernel_rfl) (by kernel_rfl) (by kernel_rfl) ?_
    simp only [List.take_succ_cons, List.take_zero]
    repeat (go_big_quiet_step (fail))
    refine wpQuiet_nil ?_
    refine wpG_call (k := 2) rfl (by kernel_rfl) (by kernel_rfl) (by go_simp) 13 _ #[.agg #[.int .i64 x0.1.1, .slice p01_2 x0.1.2.1.length q01_2, .int .i64 x0.1.2.2.1, .slice p01_4 x0.1.2.2.2.length q01_4, .int .i64 x0.2.1, .int .i64 x0.2.2.1, .slice p04 x0.2.2.2.1.length q04, .slice p05 x0.2.2.2.2.1.length q05, .slice p06_1 x0.2.2.2.2.2.1.length q06_1, .slice p06_2 x0.2.2.2.2.2.2.1.length q06_2, .slice p06_3 x0.2.2.2.2.2.2.2.1.length q06_3, .slice p06_4 x0.2.2.2.2.2.2.2.2.length q06_4]] (fun w => by go_simp) rfl ?_
    rintro _ ⟨sz1, rfl⟩
    refine (toEnd_k x0 _ _ (endC.keep (endC.keep HR0.out BW) sz1.h) (by omega)).mono ?_
    rintro e wz ⟨uz, fz, rfl, kz, hbz⟩
    obtain ⟨pz1_2, qz1_2, pz1_4, qz1_4, pz4, qz4, pz5, qz5, pz6_1, qz6_1, pz6_2, qz6_2, pz6_3, qz6_3, pz6_4, qz6_4, es, -, -, -, -, -, -, -, -⟩ := end_rep (endC.toRep kz)
    subst es
    refine ⟨_, rfl, ⟨⟨_, hbz⟩, rfl⟩, ?_⟩
    have hbx := Below.step sz1.h hbz
    refine wpG_call (k := 3) rfl (by kernel_rfl) (by kernel_rfl) (by go_simp) 15 _ #[.agg #[.int .i64 x0.1.1, .slice pc11_2 x0.1.2.1.length qc11_2, .int .i64 x0.1.2.2.1, .slice pc11_4 x0.1.2.2.2.length qc11_4, .int .i64 x0.2.1, .int .i64 x0.2.2.1, .slice pc14 x0.2.2.2.1.length qc14, .slice pc15 x0.2.2.2.2.1.length qc15, .slice pc16_1 x0.2.2.2.2.2.1.length qc16_1, .slice pc16_2 x0.2.2.2.2.2.2.1.length qc16_2, .slice pc16_3 x0.2.2.2.2.2.2.2.1.length qc16_3, .slice pc16_4 x0.2.2.2.2.2.2.2.2.length qc16_4], .agg #[.int .i64 x0.1.1, .slice pz1_2 x0.1.2.1.length qz1_2, .int .i64 x0.1.2.2.1, .slice pz1_4 x0.1.2.2.2.length qz1_4, .int .i64 x0.2.1, .int .i64 x0.2.2.1, .slice pz4 x0.2.2.2.1.length qz4, .slice pz5 x0.2.2.2.2.1.length qz5, .slice pz6_1 x0.2.2.2.2.2.1.length qz6_1, .slice pz6_2 x0.2.2.2.2.2.2.1.length qz6_2, .slice pz6_3 x0.2.2.2.2.2.2.2.1.length qz6_3, .slice pz6_4 x0.2.2.2.2.2.2.2.2.length qz6_4]] (fun w => by go_simp) rfl ?_
    rintro _ ⟨sz2, rfl⟩
    refine (eqEnd_k x0 _ _ _ (endC.toRep ((k1.stay hbx).stay sz2.h).now) (endC.toRep (endC.stay kz sz2.h))).mono ?_
    rintro e wy ⟨rfl, hby⟩
    refine ⟨_, rfl, ⟨⟨_, hby⟩, rfl⟩, ?_⟩
    replace hby := Below.step (Below.step hbx sz2.h) hby
    have hney := HW.some wy
    refine wpG_next 4 1 0 (by decide) (by kernel_rfl) (by kernel_rfl) (by kernel_rfl) ?_
    simp only [List.drop_succ_cons, List.drop_zero, List.take_succ_cons, List.take_zero]
    go_simp
    repeat (go_big_quiet_step (fail))
    refine wpQuiet_nil ?_
    refine wpG_end rfl ?_
    rintro _ ⟨sz3, rfl⟩
    have hb6 := Below.step hby sz3.h
    clear hby hbx hbz kz hne hney gsX0 gsX1 gsX2 gsX3 gsX4 gsX5 gsX6 gsX7 gsX8 gsX9 gsX10 gsX11 gsP0 gsP1 gsP2 gsP3 gsP4 gsP5 gsP6 gsP7 gsP8 gsP9 gsP10 gsP11
    generalize sz3.w = w6 at *
    clear sz3 sz2 sz1
    have z6 : Hid (w5.heap.size ≤ w6.heap.size) := hb6.size
    replace sP0 := sP0.stay hb6
    replace k1 := k1.stay hb6
    replace sX0 := sX0.stay hb6
    replace BW := Below.step BW hb6
    clear hb6
    go_wp2
    go_ret
    exact ⟨rfl, BW⟩
  · go_enter Try.func4, Try.ntmps4
    go_wp2_with fail
    refine (szEnd_k x0 _ _ _ (endC.keep HR0.out (alloc_below _ _)) (by omega) (by omega)).mono ?_
    rintro e w1 ⟨rfl, hb1⟩
    have sP0 := (Has.new hb1).win
    have z1 : Hid (w.heap.size + 1 ≤ w1.heap.size) := size_lt hb1
    replace hb1 := Below.res hb1
    have BW := hb1
    clear hb1
    rw [szR, if_neg (by omega)]
    go_wp2
    go_ret
    exact ⟨rfl, BW⟩

/-! The row's step. -/
set_option maxRecDepth 100000 in
set_option maxHeartbeats 1000000 in
theorem lifted (os : Os) (started : os.Started) (H : Type) (enc : TypeId × Value → H) :
    ReturnsInHanded {} Try.checked os 4 .any (Rows.fnExactEndFaultSpec.pre6 enc Try.prog Try.f4 Rows.fnExactEndFaultRow.domain false) (Rows.fnExactEndFaultSpec.post enc Try.prog Try.f4 false true false false) := by
  refine returnsInHanded_of_change (C := Try.checked) own started (by kernel_rfl) Try.func4
    (ChangeSpec.witness6 (enc := enc) (C := Try.checked) false ⟨#[], #[.agg #[.int .i64 0, .slice none 0 0, .int .i64 0, .slice none 0 0, .int .i64 0, .int .i64 0, .slice none 0 0, .slice none 0 0, .slice none 0 0, .slice none 0 0, .slice none 0 0, .slice none 0 0]], []⟩ 8 (by kernel_rfl) (by kernel_rfl) (by kernel_rfl) (by kernel_rfl)) ?_
  intro W base args ds gs before hval0 hW hcnd _
  have hval : ∀ (j : Nat) t v, Try.f4.params[j]? = some t → args[j]? = some v → Value.okWide Try.prog W .any base t v := hval0
  have hW' := hW
  obtain ⟨p, q, hA0, hV, rfl, hfz, hnd⟩ := hW
  have hA : DataW.TrodAll enc Try.prog W 0 (fun _ => true) true Try.f4.params.toList args.toList ds p := hA0
  rw [Try.params4] at hA hval
  obtain ⟨v0, vs0, d0, ds0, s0, t0, hargs, rfl, rfl, h0, m0⟩ := trodAll_cons hA
  obtain ⟨rfl, rfl, rfl⟩ := trodAll_nil m0
  obtain rfl : args = #[v0] := by cases args; simp_all
  obtain ⟨rfl, rfl⟩ := trodVars_none hV
  obtain ⟨cs0, rfl, -⟩ := okWide_struct Try.underlying35 (hval 0 35 v0 rfl rfl)
  have k0 := h0
  have lt0 : ∀ x ∈ s0, x.block < W.heap.size := by obtain ⟨m, hm⟩ := k0; exact DataW.trod_lt m _ _ _ hm
  obtain ⟨x0, r0⟩ : ∃ x, Cod.rep endC W x cs0.toList := by obtain ⟨fuel, hf⟩ := h0; exact (opens_struct (c := endC) Try.underlying35 (by kernel_rfl) (opensF_cons rfl (by kernel_rfl) (opens_struct (c := sideC) Try.underlying24 (by kernel_rfl) (opensF_cons rfl (by kernel_rfl) (opens_int Try.underlying2) (opensF_cons rfl (by kernel_rfl) (opens_bytes Try.underlying22 Try.underlying5 (by kernel_rfl)) (opensF_cons rfl (by kernel_rfl) (opens_int Try.underlying2) (opensF_one rfl (by kernel_rfl) (opens_bytes Try.underlying22 Try.underlying5 (by kernel_rfl))))))) (opensF_cons rfl (by kernel_rfl) (opens_int Try.underlying2) (opensF_cons rfl (by kernel_rfl) (opens_int Try.underlying2) (opensF_cons rfl (by kernel_rfl) (opens_list (e' := 87) (c := msgC) Try.underlying31 (by kernel_rfl) (by decide) (opens_struct (c := msgC) Try.underlying87 (by kernel_rfl) (opensF_cons rfl (by kernel_rfl) (opens_int Try.underlying2) (opensF_one rfl (by kernel_rfl) (opens_bytes Try.underlying22 Try.underlying5 (by kernel_rfl)))))) (opensF_cons rfl (by kernel_rfl) (opens_bytes Try.underlying22 Try.underlying5 (by kernel_rfl)) (opensF_one rfl (by kernel_rfl) (opens_struct (c := secretsC) Try.underlying33 (by kernel_rfl) (opensF_cons rfl (by kernel_rfl) (opens_bytes Try.underlying22 Try.underlying5 (by kernel_rfl)) (opensF_cons rfl (by kernel_rfl) (opens_bytes Try.underlying22 Try.underlying5 (by kernel_rfl)) (opensF_cons rfl (by kernel_rfl) (opens_bytes Try.underlying22 Try.underlying5 (by kernel_rfl)) (opensF_one rfl (by kernel_rfl) (opens_bytes Try.underlying22 Try.underlying5 (by kernel_rfl)))))))))))))) _ _ _ hf
  clear hA0 hval0
  refine (walk x0 cs0.toList W r0).mono fun e W' ⟨he, bel⟩ => ?_
  subst he
  exact ⟨_, rfl, _, _, _, [], _, [], hW', trodAll_mk1 (shut_bool Try.underlying4 _), (trodAll_cons_mk (Below.trod laidOut (by kernel_rfl) (of_decide_eq_true (by kernel_rfl)) k0 bel lt0) trodAll_mk0), rfl, bel.frame _, fun h => by cases h⟩

theorem over : Rows.fnExactEndFaultRow.holds Try.pinned (OpenSpec.ofChange Rows.fnExactEndFaultSpec) :=
  OpenClaim.holds_of_wide 4 Try.f4 rfl rfl rfl rfl rfl rfl rfl ⟨rfl, rfl, rfl, rfl, rfl⟩ rfl rfl rfl rfl rfl (by kernel_rfl) Try.func4 (by kernel_rfl)
    (of_decide_eq_true (by kernel_rfl)) (by unfold Func.isWrapper; first | (rw [if_pos (by decide +kernel)]; kernel_rfl) | (rw [if_neg (by decide +kernel)]; exact ⟨rfl, rfl⟩))
    (fun os started H enc _ => lifted os started H enc)

/-- The given statement. -/
theorem proved : Rows.FnExactEndFaultSaid := over
end Go.Proofs.Ytiabacnmmojfjaa.fnExactEndFault

namespace Go.Proofs.Ytiabacnmmojfjaa
theorem fnExactEndFault_holds : Rows.FnExactEndFaultSaid := fnExactEndFault.proved
end Go.Proofs.Ytiabacnmmojfjaa
