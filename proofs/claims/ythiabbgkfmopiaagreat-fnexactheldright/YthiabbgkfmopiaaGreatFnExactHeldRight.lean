/- HeldRight of the program answers as the specification's, every field, leaves its arguments alone, and its answer owns its memory, behind another call too. For every argument; no condition. -/
import Derived.Test.YthiabbgkfmopiaaGreatRows
import Derived.WalkKit
import Derived.ProofKit
import Derived.OpenShut
import Derived.ChangeOld
import Derived.Below
import Derived.Test.YthiabbgkfmopiaaGreatJoint5
import Derived.Test.YthiabbgkfmopiaaGreatWldR
import Derived.Test.YthiabbgkfmopiaaGreatWldT
namespace Go.Proofs.YthiabbgkfmopiaaGreat.fnExactHeldRight
open Go.ChangeShapes Go.WideShapes Go.ChangeAt Go.RowKit
set_option linter.unusedVariables false

theorem own : ownKnob Tryz.prog.godebug = none := by kernel_rfl
theorem laidOut : laidOutB Tryz.prog = true := by kernel_rfl

/-! The walk. -/
set_option maxRecDepth 4000 in
set_option maxHeartbeats 4000000 in
theorem walk (x0 : _) (cs0 : List Value) (w : World) (r0 : Cod.rep worldC w x0 cs0) :
    Calls Tryz.prog 3 #[.agg cs0.toArray] w fun e w' => e = .returned (.bool true) ∧ Below w.heap.size w w' := by
  obtain ⟨p02, q02, p03, q03, p04, q04, p05, q05, p06, q06, p07, q07, rfl, rr02, rr03, rr04, rr05, rr06, rr07⟩ := world_rep r0
  replace r0 := world_mk rr02 rr03 rr04 rr05 rr06 rr07
  clear rr02 rr03 rr04 rr05 rr06 rr07
  change Calls _ _ #[.agg #[.int .i64 x0.1, .slice p02 x0.2.1.length q02, .slice p03 x0.2.2.1.length q03, .slice p04 x0.2.2.2.1.length q04, .slice p05 x0.2.2.2.2.1.length q05, .slice p06 x0.2.2.2.2.2.1.length q06, .slice p07 x0.2.2.2.2.2.2.length q07]] _ _
  have HR0 : Hid (worldC.rep w x0 _) := r0
  clear r0
  by_cases hs0 : worldN x0 ≤ 1048576
  · skip
    go_enter Tryz.func3, Tryz.ntmps3
    go_wp2_with fail
    refine (szWorld_k x0 _ _ _ (worldC.keep HR0.out (alloc_below _ _)) (by omega) (by omega)).mono ?_
    rintro e w1 ⟨rfl, hb1⟩
    have sP0 := (Has.new hb1).win
    have z1 : Hid (w.heap.size + 1 ≤ w1.heap.size) := size_lt hb1
    replace hb1 := Below.res hb1
    have BW := hb1
    clear hb1
    rw [szR, if_pos (by omega)]
    have csP00 := sP0.now 0 _ rfl
    have csP01 := sP0.now 1 _ rfl
    have csP02 := sP0.now 2 _ rfl
    have csP03 := sP0.now 3 _ rfl
    have csP04 := sP0.now 4 _ rfl
    have csP05 := sP0.now 5 _ rfl
    have csP06 := sP0.now 6 _ rfl
    have zsP0 := Has.lt sP0.now
    go_wp2_with fail
    refine (toWorld_k x0 _ _ (worldC.keep HR0.out BW) (by omega)).mono ?_
    rintro e w2 ⟨us0, fp0, rfl, k0, hb2⟩
    obtain ⟨pc02, qc02, pc03, qc03, pc04, qc04, pc05, qc05, pc06, qc06, pc07, qc07, es, -, -, -, -, -, -⟩ := world_rep (worldC.toRep k0)
    subst es
    have gk0 : Hid (∀ k, k ∈ _ → w1.heap.size ≤ k ∧ k < w2.heap.size) := fun k hk => ⟨by have h := (k0.ins k hk).1; exact h, (k0.ins k hk).2⟩
    replace k0 := k0.win (Nat.le_refl _) gk0.out
    have z2 : Hid (w1.heap.size ≤ w2.heap.size) := hb2.size
    replace sP0 := sP0.stay hb2
    replace BW := Below.step BW hb2
    clear hb2 csP00 csP01 csP02 csP03 csP04 csP05 csP06 zsP0
    go_wp2_with fail
    refine (specHr_k x0 _ _ (worldC.toRep k0.now)).mono ?_
    rintro e w3 ⟨rfl, hb3⟩
    have z3 : Hid (w2.heap.size ≤ w3.heap.size) := hb3.size
    replace sP0 := sP0.stay hb3
    replace k0 := k0.stay hb3
    replace BW := Below.step BW hb3
    clear hb3
    clear k0
    have csP00 := sP0.now 0 _ rfl
    have csP01 := sP0.now 1 _ rfl
    have csP02 := sP0.now 2 _ rfl
    have csP03 := sP0.now 3 _ rfl
    have csP04 := sP0.now 4 _ rfl
    have csP05 := sP0.now 5 _ rfl
    have csP06 := sP0.now 6 _ rfl
    have zsP0 := Has.lt sP0.now
    go_wp2_with fail
    refine (toWorld_k x0 _ _ (worldC.keep HR0.out BW) (by omega)).mono ?_
    rintro e w4 ⟨us1, fp1, rfl, k1, hb4⟩
    obtain ⟨pc12, qc12, pc13, qc13, pc14, qc14, pc15, qc15, pc16, qc16, pc17, qc17, es, -, -, -, -, -, -⟩ := world_rep (worldC.toRep k1)
    subst es
    have gk1 : Hid (∀ k, k ∈ _ → w3.heap.size ≤ k ∧ k < w4.heap.size) := fun k hk => ⟨by have h := (k1.ins k hk).1; exact h, (k1.ins k hk).2⟩
    replace k1 := k1.win (Nat.le_refl _) gk1.out
    have z4 : Hid (w3.heap.size ≤ w4.heap.size) := hb4.size
    replace sP0 := sP0.stay hb4
    replace BW := Below.step BW hb4
    clear hb4 csP00 csP01 csP02 csP03 csP04 csP05 csP06 zsP0
    go_wp2_with fail
    refine (implHr_k x0 _ _ (worldC.toRep (k1.stay (alloc_below _ _)).now)).mono ?_
    rintro e w5 ⟨rfl, hb5⟩
    have sX0 := (Has.new hb5).win
    have z5 : Hid (w4.heap.size + 1 ≤ w5.heap.size) := size_lt hb5
    replace hb5 := Below.res hb5
    replace sP0 := sP0.stay hb5
    replace k1 := k1.stay hb5
    replace BW := Below.step BW hb5
    clear hb5
    have gsX0 := HW.at (sX0.now 0 _ rfl)
    have gsX1 := HW.at (sX0.now 1 _ rfl)
    have gsX2 := HW.at (sX0.now 2 _ rfl)
    have gsX3 := HW.at (sX0.now 3 _ rfl)
    have gsX4 := HW.at (sX0.now 4 _ rfl)
    have gsX5 := HW.at (sX0.now 5 _ rfl)
    have gsX6 := HW.at (sX0.now 6 _ rfl)
    have gsP0 := HW.at (sP0.now 0 _ rfl)
    have gsP1 := HW.at (sP0.now 1 _ rfl)
    have gsP2 := HW.at (sP0.now 2 _ rfl)
    have gsP3 := HW.at (sP0.now 3 _ rfl)
    have gsP4 := HW.at (sP0.now 4 _ rfl)
    have gsP5 := HW.at (sP0.now 5 _ rfl)
    have gsP6 := HW.at (sP0.now 6 _ rfl)
    have hne := HW.some w5
    go_wp2_with fail
    refine wp_region_odd_seg 2 3 rfl (by kernel_rfl) (by kernel_rfl) (by kernel_rfl) (by kernel_rfl) ?_
    simp only [List.take_succ_cons, List.take_zero]
    repeat (go_big_quiet_step (fail))
    refine wpQuiet_nil ?_
    refine wpG_call (k := 2) rfl (by kernel_rfl) (by kernel_rfl) (by go_simp) 6 _ #[.agg #[.int .i64 x0.1, .slice p02 x0.2.1.length q02, .slice p03 x0.2.2.1.length q03, .slice p04 x0.2.2.2.1.length q04, .slice p05 x0.2.2.2.2.1.length q05, .slice p06 x0.2.2.2.2.2.1.length q06, .slice p07 x0.2.2.2.2.2.2.length q07]] (fun w => by go_simp) rfl ?_
    rintro _ ⟨sz1, rfl⟩
    refine (toWorld_k x0 _ _ (worldC.keep (worldC.keep HR0.out BW) sz1.h) (by omega)).mono ?_
    rintro e wz ⟨uz, fz, rfl, kz, hbz⟩
    obtain ⟨pz2, qz2, pz3, qz3, pz4, qz4, pz5, qz5, pz6, qz6, pz7, qz7, es, -, -, -, -, -, -⟩ := world_rep (worldC.toRep kz)
    subst es
    refine ⟨_, rfl, ⟨⟨_, hbz⟩, rfl⟩, ?_⟩
    have hbx := Below.step sz1.h hbz
    refine wpG_call (k := 3) rfl (by kernel_rfl) (by kernel_rfl) (by go_simp) 8 _ #[.agg #[.int .i64 x0.1, .slice pc12 x0.2.1.length qc12, .slice pc13 x0.2.2.1.length qc13, .slice pc14 x0.2.2.2.1.length qc14, .slice pc15 x0.2.2.2.2.1.length qc15, .slice pc16 x0.2.2.2.2.2.1.length qc16, .slice pc17 x0.2.2.2.2.2.2.length qc17], .agg #[.int .i64 x0.1, .slice pz2 x0.2.1.length qz2, .slice pz3 x0.2.2.1.length qz3, .slice pz4 x0.2.2.2.1.length qz4, .slice pz5 x0.2.2.2.2.1.length qz5, .slice pz6 x0.2.2.2.2.2.1.length qz6, .slice pz7 x0.2.2.2.2.2.2.length qz7]] (fun w => by go_simp) rfl ?_
    rintro _ ⟨sz2, rfl⟩
    refine (eqWorld_k x0 _ _ _ (worldC.toRep ((k1.stay hbx).stay sz2.h).now) (worldC.toRep (worldC.stay kz sz2.h))).mono ?_
    rintro e wy ⟨rfl, hby⟩
    refine ⟨_, rfl, ⟨⟨_, hby⟩, rfl⟩, ?_⟩
    replace hby := Below.step (Below.step hbx sz2.h) hby
    have hney := HW.some wy
    refine wpG_next 4 1 0 (by decide) (by kernel_rfl) (by kernel_rfl) (by kernel_rfl) ?_
    simp only [List.drop_succ_cons, List.drop_zero, List.take_succ_cons, List.take_zero]
    go_simp
    repeat (go_big_quiet_step (fail))
    refine wpQuiet_nil ?_
    refine wpG_end rfl ?_
    rintro _ ⟨sz3, rfl⟩
    have hb6 := Below.step hby sz3.h
    clear hby hbx hbz kz hne hney gsX0 gsX1 gsX2 gsX3 gsX4 gsX5 gsX6 gsP0 gsP1 gsP2 gsP3 gsP4 gsP5 gsP6
    generalize sz3.w = w6 at *
    clear sz3 sz2 sz1
    have z6 : Hid (w5.heap.size ≤ w6.heap.size) := hb6.size
    replace sP0 := sP0.stay hb6
    replace k1 := k1.stay hb6
    replace sX0 := sX0.stay hb6
    replace BW := Below.step BW hb6
    clear hb6
    go_wp2
    go_ret
    exact ⟨rfl, BW⟩
  · go_enter Tryz.func3, Tryz.ntmps3
    go_wp2_with fail
    refine (szWorld_k x0 _ _ _ (worldC.keep HR0.out (alloc_below _ _)) (by omega) (by omega)).mono ?_
    rintro e w1 ⟨rfl, hb1⟩
    have sP0 := (Has.new hb1).win
    have z1 : Hid (w.heap.size + 1 ≤ w1.heap.size) := size_lt hb1
    replace hb1 := Below.res hb1
    have BW := hb1
    clear hb1
    rw [szR, if_neg (by omega)]
    go_wp2
    go_ret
    exact ⟨rfl, BW⟩

/-! The row's step. -/
set_option maxRecDepth 100000 in
set_option maxHeartbeats 1000000 in
theorem lifted (os : Os) (started : os.Started) (H : Type) (enc : TypeId × Value → H) :
    ReturnsInHanded {} Tryz.checked os 3 .any (Rows.fnExactHeldRightSpec.pre6 enc Tryz.prog Tryz.f3 Rows.fnExactHeldRightRow.domain false) (Rows.fnExactHeldRightSpec.post enc Tryz.prog Tryz.f3 false true false false) := by
  refine returnsInHanded_of_change (C := Tryz.checked) own started (by kernel_rfl) Tryz.func3
    (ChangeSpec.witness6 (enc := enc) (C := Tryz.checked) false ⟨#[], #[.agg #[.int .i64 0, .slice none 0 0, .slice none 0 0, .slice none 0 0, .slice none 0 0, .slice none 0 0, .slice none 0 0]], []⟩ 8 (by kernel_rfl) (by kernel_rfl) (by kernel_rfl) (by kernel_rfl)) ?_
  intro W base args ds gs before hval0 hW hcnd _
  have hval : ∀ (j : Nat) t v, Tryz.f3.params[j]? = some t → args[j]? = some v → Value.okWide Tryz.prog W .any base t v := hval0
  have hW' := hW
  obtain ⟨p, q, hA0, hV, rfl, hfz, hnd⟩ := hW
  have hA : DataW.TrodAll enc Tryz.prog W 0 (fun _ => true) true Tryz.f3.params.toList args.toList ds p := hA0
  rw [Tryz.params3] at hA hval
  obtain ⟨v0, vs0, d0, ds0, s0, t0, hargs, rfl, rfl, h0, m0⟩ := trodAll_cons hA
  obtain ⟨rfl, rfl, rfl⟩ := trodAll_nil m0
  obtain rfl : args = #[v0] := by cases args; simp_all
  obtain ⟨rfl, rfl⟩ := trodVars_none hV
  obtain ⟨cs0, rfl, -⟩ := okWide_struct Tryz.underlying29 (hval 0 29 v0 rfl rfl)
  have k0 := h0
  have lt0 : ∀ x ∈ s0, x.block < W.heap.size := by obtain ⟨m, hm⟩ := k0; exact DataW.trod_lt m _ _ _ hm
  obtain ⟨x0, r0⟩ : ∃ x, Cod.rep worldC W x cs0.toList := by obtain ⟨fuel, hf⟩ := h0; exact (opens_struct (c := worldC) Tryz.underlying29 (by kernel_rfl) (opensF_cons rfl (by kernel_rfl) (opens_int Tryz.underlying2) (opensF_cons rfl (by kernel_rfl) (opens_list (e' := 105) (c := certC) Tryz.underlying22 (by kernel_rfl) (by decide) (opens_struct (c := certC) Tryz.underlying105 (by kernel_rfl) (opensF_cons rfl (by kernel_rfl) (opens_int Tryz.underlying2) (opensF_cons rfl (by kernel_rfl) (opens_int Tryz.underlying2) (opensF_one rfl (by kernel_rfl) (opens_int Tryz.underlying2)))))) (opensF_cons rfl (by kernel_rfl) (opens_list (e' := 2) (c := (intC .i64)) Tryz.underlying23 (by kernel_rfl) (by decide) (opens_int Tryz.underlying2)) (opensF_cons rfl (by kernel_rfl) (opens_list (e' := 82) (c := signC) Tryz.underlying24 (by kernel_rfl) (by decide) (opens_struct (c := signC) Tryz.underlying82 (by kernel_rfl) (opensF_cons rfl (by kernel_rfl) (opens_int Tryz.underlying2) (opensF_cons rfl (by kernel_rfl) (opens_int Tryz.underlying2) (opensF_one rfl (by kernel_rfl) (opens_bytes Tryz.underlying51 Tryz.underlying5 (by kernel_rfl))))))) (opensF_cons rfl (by kernel_rfl) (opens_list (e' := 88) (c := linkC) Tryz.underlying25 (by kernel_rfl) (by decide) (opens_struct (c := linkC) Tryz.underlying88 (by kernel_rfl) (opensF_cons rfl (by kernel_rfl) (opens_int Tryz.underlying2) (opensF_cons rfl (by kernel_rfl) (opens_int Tryz.underlying2) (opensF_cons rfl (by kernel_rfl) (opens_struct (c := sessionC) Tryz.underlying86 (by kernel_rfl) (opensF_cons rfl (by kernel_rfl) (opens_bytes Tryz.underlying51 Tryz.underlying5 (by kernel_rfl)) (opensF_cons rfl (by kernel_rfl) (opens_int Tryz.underlying2) (opensF_cons rfl (by kernel_rfl) (opens_list (e' := 51) (c := bytC) Tryz.underlying26 (by kernel_rfl) (by decide) (opens_bytes Tryz.underlying51 Tryz.underlying5 (by kernel_rfl))) (opensF_cons rfl (by kernel_rfl) (opens_list (e' := 51) (c := bytC) Tryz.underlying26 (by kernel_rfl) (by decide) (opens_bytes Tryz.underlying51 Tryz.underlying5 (by kernel_rfl))) (opensF_one rfl (by kernel_rfl) (opens_list (e' := 148) (c := (prodC (intC .i64) (intC .i64))) Tryz.underlying84 (by kernel_rfl) (by decide) (opens_struct (c := (prodC (intC .i64) (intC .i64))) Tryz.underlying148 (by kernel_rfl) (opensF_cons rfl (by kernel_rfl) (opens_int Tryz.underlying2) (opensF_one rfl (by kernel_rfl) (opens_int Tryz.underlying2))))))))))) (opensF_one rfl (by kernel_rfl) (opens_struct (c := sessionC) Tryz.underlying86 (by kernel_rfl) (opensF_cons rfl (by kernel_rfl) (opens_bytes Tryz.underlying51 Tryz.underlying5 (by kernel_rfl)) (opensF_cons rfl (by kernel_rfl) (opens_int Tryz.underlying2) (opensF_cons rfl (by kernel_rfl) (opens_list (e' := 51) (c := bytC) Tryz.underlying26 (by kernel_rfl) (by decide) (opens_bytes Tryz.underlying51 Tryz.underlying5 (by kernel_rfl))) (opensF_cons rfl (by kernel_rfl) (opens_list (e' := 51) (c := bytC) Tryz.underlying26 (by kernel_rfl) (by decide) (opens_bytes Tryz.underlying51 Tryz.underlying5 (by kernel_rfl))) (opensF_one rfl (by kernel_rfl) (opens_list (e' := 148) (c := (prodC (intC .i64) (intC .i64))) Tryz.underlying84 (by kernel_rfl) (by decide) (opens_struct (c := (prodC (intC .i64) (intC .i64))) Tryz.underlying148 (by kernel_rfl) (opensF_cons rfl (by kernel_rfl) (opens_int Tryz.underlying2) (opensF_one rfl (by kernel_rfl) (opens_int Tryz.underlying2))))))))))))))))) (opensF_cons rfl (by kernel_rfl) (opens_list (e' := 51) (c := bytC) Tryz.underlying26 (by kernel_rfl) (by decide) (opens_bytes Tryz.underlying51 Tryz.underlying5 (by kernel_rfl))) (opensF_one rfl (by kernel_rfl) (opens_list (e' := 92) (c := eventC) Tryz.underlying27 (by kernel_rfl) (by decide) (opens_struct (c := eventC) Tryz.underlying92 (by kernel_rfl) (opensF_cons rfl (by kernel_rfl) (opens_int Tryz.underlying2) (opensF_cons rfl (by kernel_rfl) (opens_int Tryz.underlying2) (opensF_cons rfl (by kernel_rfl) (opens_int Tryz.underlying2) (opensF_cons rfl (by kernel_rfl) (opens_bytes Tryz.underlying51 Tryz.underlying5 (by kernel_rfl)) (opensF_cons rfl (by kernel_rfl) (opens_int Tryz.underlying2) (opensF_one rfl (by kernel_rfl) (opens_int Tryz.underlying2))))))))))))))))) _ _ _ hf
  clear hA0 hval0
  refine (walk x0 cs0.toList W r0).mono fun e W' ⟨he, bel⟩ => ?_
  subst he
  exact ⟨_, rfl, _, _, _, [], _, [], hW', trodAll_mk1 (shut_bool Tryz.underlying4 _), (trodAll_cons_mk (Below.trod laidOut (by kernel_rfl) (of_decide_eq_true (by kernel_rfl)) k0 bel lt0) trodAll_mk0), rfl, bel.frame _, fun h => by cases h⟩

theorem over : Rows.fnExactHeldRightRow.holds Tryz.pinned (OpenSpec.ofChange Rows.fnExactHeldRightSpec) :=
  OpenClaim.holds_of_wide 3 Tryz.f3 rfl rfl rfl rfl rfl rfl rfl ⟨rfl, rfl, rfl, rfl, rfl⟩ rfl rfl rfl rfl rfl (by kernel_rfl) Tryz.func3 (by kernel_rfl)
    (of_decide_eq_true (by kernel_rfl)) (by unfold Func.isWrapper; first | (rw [if_pos (by decide +kernel)]; kernel_rfl) | (rw [if_neg (by decide +kernel)]; exact ⟨rfl, rfl⟩))
    (fun os started H enc _ => lifted os started H enc)

/-- The given statement. -/
theorem proved : Rows.FnExactHeldRightSaid := over
end Go.Proofs.YthiabbgkfmopiaaGreat.fnExactHeldRight

namespace Go.Proofs.YthiabbgkfmopiaaGreat
theorem fnExactHeldRight_holds : Rows.FnExactHeldRightSaid := fnExactHeldRight.proved
end Go.Proofs.YthiabbgkfmopiaaGreat
