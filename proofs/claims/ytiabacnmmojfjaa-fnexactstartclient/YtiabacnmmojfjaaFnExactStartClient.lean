/- StartClient of the program answers as the specification's, every field, leaves its arguments alone, and its answer owns its memory, behind another call too. For every argument; no condition. -/
import Derived.Test.YtiabacnmmojfjaaRows
import Derived.WalkKit
import Derived.ProofKit
import Derived.OpenShut
import Derived.ChangeOld
import Derived.Below
import Derived.Test.YtiabacnmmojfjaaJoint1
import Derived.Test.YtiabacnmmojfjaaShkI
namespace Go.Proofs.Ytiabacnmmojfjaa.fnExactStartClient
open Go.ChangeShapes Go.WideShapes Go.ChangeAt Go.RowKit
set_option linter.unusedVariables false

theorem own : ownKnob Try.prog.godebug = none := by kernel_rfl
theorem laidOut : laidOutB Try.prog = true := by kernel_rfl

/-! The walk. -/
set_option maxRecDepth 4000 in
set_option maxHeartbeats 4000000 in
theorem walk (x0 : _) (cs0 : List Value) (w : World) (r0 : Cod.rep sideC w x0 cs0) :
    Calls Try.prog 5 #[.agg cs0.toArray] w fun e w' => e = .returned (.bool true) ∧ Below w.heap.size w w' := by
  obtain ⟨p02, q02, p04, q04, rfl, rr02, rr04⟩ := side_rep r0
  replace r0 := side_mk rr02 rr04
  clear rr02 rr04
  change Calls _ _ #[.agg #[.int .i64 x0.1, .slice p02 x0.2.1.length q02, .int .i64 x0.2.2.1, .slice p04 x0.2.2.2.length q04]] _ _
  have HR0 : Hid (sideC.rep w x0 _) := r0
  clear r0
  by_cases hs0 : sideN x0 ≤ 1048576
  · have ht0 := sideT_le x0
    have hlen := stE_small x0
    have hlen1 : 1 + endResultT (stE x0) ≤ 1000000000 := by omega
    have hlen2 : 1 + endResultT (stE x0) ≤ 1048577 := by omega
    go_enter Try.func5, Try.ntmps5
    go_wp2_with fail
    refine (szSide_k x0 _ _ _ (sideC.keep HR0.out (alloc_below _ _)) (by omega) (by omega)).mono ?_
    rintro e w1 ⟨rfl, hb1⟩
    have sP0 := (Has.new hb1).win
    have z1 : Hid (w.heap.size + 1 ≤ w1.heap.size) := size_lt hb1
    replace hb1 := Below.res hb1
    have BW := hb1
    clear hb1
    rw [szR, if_pos (by omega)]
    have csP00 := sP0.now 0 _ rfl
    have csP01 := sP0.now 1 _ rfl
    have csP02 := sP0.now 2 _ rfl
    have csP03 := sP0.now 3 _ rfl
    have zsP0 := Has.lt sP0.now
    go_wp2_with fail
    refine (toSide_k x0 _ _ (sideC.keep HR0.out BW) (by omega)).mono ?_
    rintro e w2 ⟨us0, fp0, rfl, k0, hb2⟩
    obtain ⟨pc02, qc02, pc04, qc04, es, -, -⟩ := side_rep (sideC.toRep k0)
    subst es
    have gk0 : Hid (∀ k, k ∈ _ → w1.heap.size ≤ k ∧ k < w2.heap.size) := fun k hk => ⟨by have h := (k0.ins k hk).1; exact h, (k0.ins k hk).2⟩
    replace k0 := k0.win (Nat.le_refl _) gk0.out
    have z2 : Hid (w1.heap.size ≤ w2.heap.size) := hb2.size
    replace sP0 := sP0.stay hb2
    replace BW := Below.step BW hb2
    clear hb2 csP00 csP01 csP02 csP03 zsP0
    go_wp2_with fail
    refine (specSt_k x0 _ _ (sideC.toRep k0.now)).mono ?_
    rintro e w3 ⟨uss, fps, rfl, ks, hb3⟩
    obtain ⟨ps2_1_2, qs2_1_2, ps2_1_4, qs2_1_4, ps2_4, qs2_4, ps2_5, qs2_5, ps2_6_1, qs2_6_1, ps2_6_2, qs2_6_2, ps2_6_3, qs2_6_3, ps2_6_4, qs2_6_4, ps3, qs3, es, -, -, -, -, -, -, -, -, -⟩ := endResult_rep (endResultC.toRep ks)
    subst es
    have gks : Hid (∀ k, k ∈ _ → w2.heap.size ≤ k ∧ k < w3.heap.size) := fun k hk => ⟨by have h := (ks.ins k hk).1; exact h, (ks.ins k hk).2⟩
    replace ks := ks.win (Nat.le_refl _) gks.out
    have z3 : Hid (w2.heap.size ≤ w3.heap.size) := hb3.size
    replace sP0 := sP0.stay hb3
    replace k0 := k0.stay hb3
    replace BW := Below.step BW hb3
    clear hb3
    clear k0
    have csP00 := sP0.now 0 _ rfl
    have csP01 := sP0.now 1 _ rfl
    have csP02 := sP0.now 2 _ rfl
    have csP03 := sP0.now 3 _ rfl
    have zsP0 := Has.lt sP0.now
    go_wp2_with fail
    refine (toSide_k x0 _ _ (sideC.keep (sideC.keep HR0.out BW) (alloc_below _ _)) (by omega)).mono ?_
    rintro e w4 ⟨us1, fp1, rfl, k1, hb4⟩
    obtain ⟨pc12, qc12, pc14, qc14, es, -, -⟩ := side_rep (sideC.toRep k1)
    subst es
    have gk1 : Hid (∀ k, k ∈ _ → (w3.heap.size + 1) ≤ k ∧ k < w4.heap.size) := fun k hk => ⟨by have h := (k1.ins k hk).1; rw [size_alloc] at h; exact h, (k1.ins k hk).2⟩
    replace k1 := k1.win (Nat.le_refl _) gk1.out
    have sA := (Has.new hb4).win
    have z4 : Hid (w3.heap.size + 1 ≤ w4.heap.size) := size_lt hb4
    replace hb4 := Below.res hb4
    replace sP0 := sP0.stay hb4
    replace ks := ks.stay hb4
    replace BW := Below.step BW hb4
    clear hb4 csP00 csP01 csP02 csP03 zsP0
    go_wp2_with fail
    refine (implSt_k x0 _ _ (sideC.toRep (k1.stay (alloc_below _ _)).now)).mono ?_
    rintro e w5 ⟨usg, fpg, rfl, kg, hb5⟩
    obtain ⟨pg2_1_2, qg2_1_2, pg2_1_4, qg2_1_4, pg2_4, qg2_4, pg2_5, qg2_5, pg2_6_1, qg2_6_1, pg2_6_2, qg2_6_2, pg2_6_3, qg2_6_3, pg2_6_4, qg2_6_4, pg3, qg3, es, -, -, -, -, -, -, -, -, -⟩ := endResult_rep (endResultC.toRep kg)
    subst es
    have gkg : Hid (∀ k, k ∈ _ → (w4.heap.size + 1) ≤ k ∧ k < w5.heap.size) := fun k hk => ⟨by have h := (kg.ins k hk).1; rw [size_alloc] at h; exact h, (kg.ins k hk).2⟩
    replace kg := kg.win (Nat.le_refl _) gkg.out
    have sX0 := (Has.new hb5).win
    have z5 : Hid (w4.heap.size + 1 ≤ w5.heap.size) := size_lt hb5
    replace hb5 := Below.res hb5
    replace sP0 := sP0.stay hb5
    replace ks := ks.stay hb5
    replace sA := sA.stay hb5
    replace k1 := k1.stay hb5
    replace BW := Below.step BW hb5
    clear hb5
    have csA0 := sA.now 0 _ rfl
    have csA1 := sA.now 1 _ rfl
    have csA2 := sA.now 2 _ rfl
    have csA3 := sA.now 3 _ rfl
    have csA4 := sA.now 4 _ rfl
    have csA5 := sA.now 5 _ rfl
    have csA6 := sA.now 6 _ rfl
    have csA7 := sA.now 7 _ rfl
    have csA8 := sA.now 8 _ rfl
    have csA9 := sA.now 9 _ rfl
    have csA10 := sA.now 10 _ rfl
    have csA11 := sA.now 11 _ rfl
    have csA12 := sA.now 12 _ rfl
    have csA13 := sA.now 13 _ rfl
    have zsA := Has.lt sA.now
    go_wp2_with fail
    refine (eqEndResult_k (stE x0) _ _ _ (endResultC.toRep (kg.stay (alloc_below _ _)).now) (endResultC.toRep (ks.stay (alloc_below _ _)).now)).mono ?_
    rintro e w6 ⟨rfl, hb6⟩
    have sB := (Has.new hb6).win
    have z6 : Hid (w5.heap.size + 1 ≤ w6.heap.size) := size_lt hb6
    replace hb6 := Below.res hb6
    replace sP0 := sP0.stay hb6
    replace ks := ks.stay hb6
    replace sA := sA.stay hb6
    replace k1 := k1.stay hb6
    replace sX0 := sX0.stay hb6
    replace kg := kg.stay hb6
    replace BW := Below.step BW hb6
    clear hb6 csA0 csA1 csA2 csA3 csA4 csA5 csA6 csA7 csA8 csA9 csA10 csA11 csA12 csA13 zsA
    have gsX0 := HW.at (sX0.now 0 _ rfl)
    have gsX1 := HW.at (sX0.now 1 _ rfl)
    have gsX2 := HW.at (sX0.now 2 _ rfl)
    have gsX3 := HW.at (sX0.now 3 _ rfl)
    have gsP0 := HW.at (sP0.now 0 _ rfl)
    have gsP1 := HW.at (sP0.now 1 _ rfl)
    have gsP2 := HW.at (sP0.now 2 _ rfl)
    have gsP3 := HW.at (sP0.now 3 _ rfl)
    have hne := HW.some w6
    go_wp2_with fail
    refine wp_region_odd_seg 2 3 rfl (by kernel_rfl) (by kernel_rfl) (by kernel_rfl) (by kernel_rfl) ?_
    simp only [List.take_succ_cons, List.take_zero]
    repeat (go_big_quiet_step (fail))
    refine wpQuiet_nil ?_
    refine wpG_call (k := 2) rfl (by kernel_rfl) (by kernel_rfl) (by go_simp) 8 _ #[.agg #[.int .i64 x0.1, .slice p02 x0.2.1.length q02, .int .i64 x0.2.2.1, .slice p04 x0.2.2.2.length q04]] (fun w => by go_simp) rfl ?_
    rintro _ ⟨sz1, rfl⟩
    refine (toSide_k x0 _ _ (sideC.keep (sideC.keep HR0.out BW) sz1.h) (by omega)).mono ?_
    rintro e wz ⟨uz, fz, rfl, kz, hbz⟩
    obtain ⟨pz2, qz2, pz4, qz4, es, -, -⟩ := side_rep (sideC.toRep kz)
    subst es
    refine ⟨_, rfl, ⟨⟨_, hbz⟩, rfl⟩, ?_⟩
    have hbx := Below.step sz1.h hbz
    refine wpG_call (k := 3) rfl (by kernel_rfl) (by kernel_rfl) (by go_simp) 10 _ #[.agg #[.int .i64 x0.1, .slice pc12 x0.2.1.length qc12, .int .i64 x0.2.2.1, .slice pc14 x0.2.2.2.length qc14], .agg #[.int .i64 x0.1, .slice pz2 x0.2.1.length qz2, .int .i64 x0.2.2.1, .slice pz4 x0.2.2.2.length qz4]] (fun w => by go_simp) rfl ?_
    rintro _ ⟨sz2, rfl⟩
    refine (eqSide_k x0 _ _ _ (sideC.toRep ((k1.stay hbx).stay sz2.h).now) (sideC.toRep (sideC.stay kz sz2.h))).mono ?_
    rintro e wy ⟨rfl, hby⟩
    refine ⟨_, rfl, ⟨⟨_, hby⟩, rfl⟩, ?_⟩
    replace hby := Below.step (Below.step hbx sz2.h) hby
    have hney := HW.some wy
    refine wpG_next 4 1 0 (by decide) (by kernel_rfl) (by kernel_rfl) (by kernel_rfl) ?_
    simp only [List.drop_succ_cons, List.drop_zero, List.take_succ_cons, List.take_zero]
    go_simp
    repeat (go_big_quiet_step (fail))
    refine wpQuiet_nil ?_
    refine wpG_end rfl ?_
    rintro _ ⟨sz3, rfl⟩
    have hb7 := Below.step hby sz3.h
    clear hby hbx hbz kz hne hney gsX0 gsX1 gsX2 gsX3 gsP0 gsP1 gsP2 gsP3
    generalize sz3.w = w7 at *
    clear sz3 sz2 sz1
    have z7 : Hid (w6.heap.size ≤ w7.heap.size) := hb7.size
    replace sP0 := sP0.stay hb7
    replace ks := ks.stay hb7
    replace sA := sA.stay hb7
    replace k1 := k1.stay hb7
    replace sX0 := sX0.stay hb7
    replace kg := kg.stay hb7
    replace sB := sB.stay hb7
    replace BW := Below.step BW hb7
    clear hb7
    have csX00 := sX0.now 0 _ rfl
    have csX01 := sX0.now 1 _ rfl
    have csX02 := sX0.now 2 _ rfl
    have csX03 := sX0.now 3 _ rfl
    have zsX0 := Has.lt sX0.now
    go_wp2_with fail
    refine (markSide_k x0 _ _ _ 1 _ (by first | rfl | simp | (simp; omega) | (push_cast; omega)) _ k1.now (by omega)).mono ?_
    rintro e w8 ⟨rfl, -, hg⟩
    have z8 : Hid (w7.heap.size ≤ w8.heap.size) := hg.size
    have sg := Only.seg hg gk1.out
    replace sP0 := sP0.seg sg (by have := z1.out; have := z2.out; have := z3.out; have := z4.out; have := z5.out; have := z6.out; have := z7.out; have := z8.out; omega)
    replace ks := ks.seg sg (by have := z1.out; have := z2.out; have := z3.out; have := z4.out; have := z5.out; have := z6.out; have := z7.out; have := z8.out; omega)
    replace sA := sA.seg sg (by have := z1.out; have := z2.out; have := z3.out; have := z4.out; have := z5.out; have := z6.out; have := z7.out; have := z8.out; omega)
    replace sX0 := sX0.seg sg (by have := z1.out; have := z2.out; have := z3.out; have := z4.out; have := z5.out; have := z6.out; have := z7.out; have := z8.out; omega)
    replace kg := kg.seg sg (by have := z1.out; have := z2.out; have := z3.out; have := z4.out; have := z5.out; have := z6.out; have := z7.out; have := z8.out; omega)
    replace sB := sB.seg sg (by have := z1.out; have := z2.out; have := z3.out; have := z4.out; have := z5.out; have := z6.out; have := z7.out; have := z8.out; omega)
    replace BW := Below.seg BW sg (by have := z1.out; have := z2.out; have := z3.out; have := z4.out; have := z5.out; have := z6.out; have := z7.out; have := z8.out; omega)
    clear hg sg k1 csX00 csX01 csX02 csX03 zsX0
    have csA0 := sA.now 0 _ rfl
    have csA1 := sA.now 1 _ rfl
    have csA2 := sA.now 2 _ rfl
    have csA3 := sA.now 3 _ rfl
    have csA4 := sA.now 4 _ rfl
    have csA5 := sA.now 5 _ rfl
    have csA6 := sA.now 6 _ rfl
    have csA7 := sA.now 7 _ rfl
    have csA8 := sA.now 8 _ rfl
    have csA9 := sA.now 9 _ rfl
    have csA10 := sA.now 10 _ rfl
    have csA11 := sA.now 11 _ rfl
    have csA12 := sA.now 12 _ rfl
    have csA13 := sA.now 13 _ rfl
    have zsA := Has.lt sA.now
    have csB0 := sB.now 0 _ rfl
    have csB1 := sB.now 1 _ rfl
    have csB2 := sB.now 2 _ rfl
    have csB3 := sB.now 3 _ rfl
    have csB4 := sB.now 4 _ rfl
    have csB5 := sB.now 5 _ rfl
    have csB6 := sB.now 6 _ rfl
    have csB7 := sB.now 7 _ rfl
    have csB8 := sB.now 8 _ rfl
    have csB9 := sB.now 9 _ rfl
    have csB10 := sB.now 10 _ rfl
    have csB11 := sB.now 11 _ rfl
    have csB12 := sB.now 12 _ rfl
    have csB13 := sB.now 13 _ rfl
    have zsB := Has.lt sB.now
    go_wp2_with fail
    refine (eqEndResult_k (stE x0) _ _ _ (endResultC.toRep kg.now) (endResultC.toRep ks.now)).mono ?_
    rintro e w9 ⟨rfl, hb9⟩
    have z9 : Hid (w8.heap.size ≤ w9.heap.size) := hb9.size
    replace sP0 := sP0.stay hb9
    replace ks := ks.stay hb9
    replace sA := sA.stay hb9
    replace sX0 := sX0.stay hb9
    replace kg := kg.stay hb9
    replace sB := sB.stay hb9
    replace BW := Below.step BW hb9
    clear hb9 csA0 csA1 csA2 csA3 csA4 csA5 csA6 csA7 csA8 csA9 csA10 csA11 csA12 csA13 zsA csB0 csB1 csB2 csB3 csB4 csB5 csB6 csB7 csB8 csB9 csB10 csB11 csB12 csB13 zsB
    have csB0 := sB.now 0 _ rfl
    have csB1 := sB.now 1 _ rfl
    have csB2 := sB.now 2 _ rfl
    have csB3 := sB.now 3 _ rfl
    have csB4 := sB.now 4 _ rfl
    have csB5 := sB.now 5 _ rfl
    have csB6 := sB.now 6 _ rfl
    have csB7 := sB.now 7 _ rfl
    have csB8 := sB.now 8 _ rfl
    have csB9 := sB.now 9 _ rfl
    have csB10 := sB.now 10 _ rfl
    have csB11 := sB.now 11 _ rfl
    have csB12 := sB.now 12 _ rfl
    have csB13 := sB.now 13 _ rfl
    have zsB := Has.lt sB.now
    go_wp2_with fail
    refine (markEndResult_k (stE x0) _ _ _ 1 1 rfl _ kg.now hlen1).mono ?_
    rintro e w10 ⟨rfl, km, hg⟩
    have z10 : Hid (w9.heap.size ≤ w10.heap.size) := hg.size
    have sg := Only.seg hg gkg.out
    replace sP0 := sP0.seg sg (by have := z1.out; have := z2.out; have := z3.out; have := z4.out; have := z5.out; have := z6.out; have := z7.out; have := z8.out; have := z9.out; have := z10.out; omega)
    replace ks := ks.seg sg (by have := z1.out; have := z2.out; have := z3.out; have := z4.out; have := z5.out; have := z6.out; have := z7.out; have := z8.out; have := z9.out; have := z10.out; omega)
    replace sA := sA.seg sg (by have := z1.out; have := z2.out; have := z3.out; have := z4.out; have := z5.out; have := z6.out; have := z7.out; have := z8.out; have := z9.out; have := z10.out; omega)
    replace sX0 := sX0.seg sg (by have := z1.out; have := z2.out; have := z3.out; have := z4.out; have := z5.out; have := z6.out; have := z7.out; have := z8.out; have := z9.out; have := z10.out; omega)
    replace sB := sB.seg sg (by have := z1.out; have := z2.out; have := z3.out; have := z4.out; have := z5.out; have := z6.out; have := z7.out; have := z8.out; have := z9.out; have := z10.out; omega)
    replace BW := Below.seg BW sg (by have := z1.out; have := z2.out; have := z3.out; have := z4.out; have := z5.out; have := z6.out; have := z7.out; have := z8.out; have := z9.out; have := z10.out; omega)
    replace km := km.win (by have := z1.out; have := z2.out; have := z3.out; have := z4.out; have := z5.out; have := z6.out; have := z7.out; have := z8.out; have := z9.out; have := z10.out; omega) gkg.out
    clear hg sg kg csB0 csB1 csB2 csB3 csB4 csB5 csB6 csB7 csB8 csB9 csB10 csB11 csB12 csB13 zsB
    have csB0 := sB.now 0 _ rfl
    have csB1 := sB.now 1 _ rfl
    have csB2 := sB.now 2 _ rfl
    have csB3 := sB.now 3 _ rfl
    have csB4 := sB.now 4 _ rfl
    have csB5 := sB.now 5 _ rfl
    have csB6 := sB.now 6 _ rfl
    have csB7 := sB.now 7 _ rfl
    have csB8 := sB.now 8 _ rfl
    have csB9 := sB.now 9 _ rfl
    have csB10 := sB.now 10 _ rfl
    have csB11 := sB.now 11 _ rfl
    have csB12 := sB.now 12 _ rfl
    have csB13 := sB.now 13 _ rfl
    have zsB := Has.lt sB.now
    go_wp2_with fail
    refine (heldEndResult_k (stE x0) _ 1 1 rfl _ (endResultC.toRep km.now) hlen2).mono ?_
    rintro e w11 ⟨rfl, hb11⟩
    have z11 : Hid (w10.heap.size ≤ w11.heap.size) := hb11.size
    replace sP0 := sP0.stay hb11
    replace ks := ks.stay hb11
    replace sA := sA.stay hb11
    replace sX0 := sX0.stay hb11
    replace sB := sB.stay hb11
    replace km := km.stay hb11
    replace BW := Below.step BW hb11
    clear hb11 csB0 csB1 csB2 csB3 csB4 csB5 csB6 csB7 csB8 csB9 csB10 csB11 csB12 csB13 zsB
    have csP00 := sP0.now 0 _ rfl
    have csP01 := sP0.now 1 _ rfl
    have csP02 := sP0.now 2 _ rfl
    have csP03 := sP0.now 3 _ rfl
    have zsP0 := Has.lt sP0.now
    go_wp2_with fail
    refine (toSide_k x0 _ _ (sideC.keep HR0.out BW) (by omega)).mono ?_
    rintro e w12 ⟨us2, fp2, rfl, k2, hb12⟩
    obtain ⟨pc22, qc22, pc24, qc24, es, -, -⟩ := side_rep (sideC.toRep k2)
    subst es
    have gk2 : Hid (∀ k, k ∈ _ → w11.heap.size ≤ k ∧ k < w12.heap.size) := fun k hk => ⟨by have h := (k2.ins k hk).1; exact h, (k2.ins k hk).2⟩
    replace k2 := k2.win (Nat.le_refl _) gk2.out
    have z12 : Hid (w11.heap.size ≤ w12.heap.size) := hb12.size
    replace sP0 := sP0.stay hb12
    replace ks := ks.stay hb12
    replace sA := sA.stay hb12
    replace sX0 := sX0.stay hb12
    replace sB := sB.stay hb12
    replace km := km.stay hb12
    replace BW := Below.step BW hb12
    clear hb12 csP00 csP01 csP02 csP03 zsP0
    go_wp2_with fail
    refine (implSt_k x0 _ _ (sideC.toRep k2.now)).mono ?_
    rintro e w13 ⟨ush, fph, rfl, kh, hb13⟩
    obtain ⟨ph2_1_2, qh2_1_2, ph2_1_4, qh2_1_4, ph2_4, qh2_4, ph2_5, qh2_5, ph2_6_1, qh2_6_1, ph2_6_2, qh2_6_2, ph2_6_3, qh2_6_3, ph2_6_4, qh2_6_4, ph3, qh3, es, -, -, -, -, -, -, -, -, -⟩ := endResult_rep (endResultC.toRep kh)
    subst es
    have gkh : Hid (∀ k, k ∈ _ → w12.heap.size ≤ k ∧ k < w13.heap.size) := fun k hk => ⟨by have h := (kh.ins k hk).1; exact h, (kh.ins k hk).2⟩
    replace kh := kh.win (Nat.le_refl _) gkh.out
    have z13 : Hid (w12.heap.size ≤ w13.heap.size) := hb13.size
    replace sP0 := sP0.stay hb13
    replace ks := ks.stay hb13
    replace sA := sA.stay hb13
    replace sX0 := sX0.stay hb13
    replace sB := sB.stay hb13
    replace km := km.stay hb13
    replace k2 := k2.stay hb13
    replace BW := Below.step BW hb13
    clear hb13
    clear k2
    have csA0 := sA.now 0 _ rfl
    have csA1 := sA.now 1 _ rfl
    have csA2 := sA.now 2 _ rfl
    have csA3 := sA.now 3 _ rfl
    have csA4 := sA.now 4 _ rfl
    have csA5 := sA.now 5 _ rfl
    have csA6 := sA.now 6 _ rfl
    have csA7 := sA.now 7 _ rfl
    have csA8 := sA.now 8 _ rfl
    have csA9 := sA.now 9 _ rfl
    have csA10 := sA.now 10 _ rfl
    have csA11 := sA.now 11 _ rfl
    have csA12 := sA.now 12 _ rfl
    have csA13 := sA.now 13 _ rfl
    have zsA := Has.lt sA.now
    go_wp2_with fail
    refine (eqEndResult_k (stE x0) _ _ _ (endResultC.toRep (kh.stay (alloc_below _ _)).now) (endResultC.toRep (ks.stay (alloc_below _ _)).now)).mono ?_
    rintro e w14 ⟨rfl, hb14⟩
    have sC := (Has.new hb14).win
    have z14 : Hid (w13.heap.size + 1 ≤ w14.heap.size) := size_lt hb14
    replace hb14 := Below.res hb14
    replace sP0 := sP0.stay hb14
    replace ks := ks.stay hb14
    replace sA := sA.stay hb14
    replace sX0 := sX0.stay hb14
    replace sB := sB.stay hb14
    replace km := km.stay hb14
    replace kh := kh.stay hb14
    replace BW := Below.step BW hb14
    clear hb14 csA0 csA1 csA2 csA3 csA4 csA5 csA6 csA7 csA8 csA9 csA10 csA11 csA12 csA13 zsA
    clear sC sA ks kh
    have csB0 := sB.now 0 _ rfl
    have csB1 := sB.now 1 _ rfl
    have csB2 := sB.now 2 _ rfl
    have csB3 := sB.now 3 _ rfl
    have csB4 := sB.now 4 _ rfl
    have csB5 := sB.now 5 _ rfl
    have csB6 := sB.now 6 _ rfl
    have csB7 := sB.now 7 _ rfl
    have csB8 := sB.now 8 _ rfl
    have csB9 := sB.now 9 _ rfl
    have csB10 := sB.now 10 _ rfl
    have csB11 := sB.now 11 _ rfl
    have csB12 := sB.now 12 _ rfl
    have csB13 := sB.now 13 _ rfl
    have zsB := Has.lt sB.now
    go_wp2_with fail
    refine (heldEndResult_k (stE x0) _ 1 1 rfl _ (endResultC.toRep km.now) hlen2).mono ?_
    rintro e w15 ⟨rfl, hb15⟩
    have z15 : Hid (w14.heap.size ≤ w15.heap.size) := hb15.size
    replace sP0 := sP0.stay hb15
    replace sX0 := sX0.stay hb15
    replace sB := sB.stay hb15
    replace km := km.stay hb15
    replace BW := Below.step BW hb15
    clear hb15 csB0 csB1 csB2 csB3 csB4 csB5 csB6 csB7 csB8 csB9 csB10 csB11 csB12 csB13 zsB
    go_wp2
    go_ret
    exact ⟨rfl, BW⟩
  · go_enter Try.func5, Try.ntmps5
    go_wp2_with fail
    refine (szSide_k x0 _ _ _ (sideC.keep HR0.out (alloc_below _ _)) (by omega) (by omega)).mono ?_
    rintro e w1 ⟨rfl, hb1⟩
    have sP0 := (Has.new hb1).win
    have z1 : Hid (w.heap.size + 1 ≤ w1.heap.size) := size_lt hb1
    replace hb1 := Below.res hb1
    have BW := hb1
    clear hb1
    rw [szR, if_neg (by omega)]
    go_wp2
    go_ret
    exact ⟨rfl, BW⟩

/-! The row's step. -/
set_option maxRecDepth 100000 in
set_option maxHeartbeats 1000000 in
theorem lifted (os : Os) (started : os.Started) (H : Type) (enc : TypeId × Value → H) :
    ReturnsInHanded {} Try.checked os 5 .any (Rows.fnExactStartClientSpec.pre6 enc Try.prog Try.f5 Rows.fnExactStartClientRow.domain false) (Rows.fnExactStartClientSpec.post enc Try.prog Try.f5 false true false false) := by
  refine returnsInHanded_of_change (C := Try.checked) own started (by kernel_rfl) Try.func5
    (ChangeSpec.witness6 (enc := enc) (C := Try.checked) false ⟨#[], #[.agg #[.int .i64 0, .slice none 0 0, .int .i64 0, .slice none 0 0]], []⟩ 8 (by kernel_rfl) (by kernel_rfl) (by kernel_rfl) (by kernel_rfl)) ?_
  intro W base args ds gs before hval0 hW hcnd _
  have hval : ∀ (j : Nat) t v, Try.f5.params[j]? = some t → args[j]? = some v → Value.okWide Try.prog W .any base t v := hval0
  have hW' := hW
  obtain ⟨p, q, hA0, hV, rfl, hfz, hnd⟩ := hW
  have hA : DataW.TrodAll enc Try.prog W 0 (fun _ => true) true Try.f5.params.toList args.toList ds p := hA0
  rw [Try.params5] at hA hval
  obtain ⟨v0, vs0, d0, ds0, s0, t0, hargs, rfl, rfl, h0, m0⟩ := trodAll_cons hA
  obtain ⟨rfl, rfl, rfl⟩ := trodAll_nil m0
  obtain rfl : args = #[v0] := by cases args; simp_all
  obtain ⟨rfl, rfl⟩ := trodVars_none hV
  obtain ⟨cs0, rfl, -⟩ := okWide_struct Try.underlying24 (hval 0 24 v0 rfl rfl)
  have k0 := h0
  have lt0 : ∀ x ∈ s0, x.block < W.heap.size := by obtain ⟨m, hm⟩ := k0; exact DataW.trod_lt m _ _ _ hm
  obtain ⟨x0, r0⟩ : ∃ x, Cod.rep sideC W x cs0.toList := by obtain ⟨fuel, hf⟩ := h0; exact (opens_struct (c := sideC) Try.underlying24 (by kernel_rfl) (opensF_cons rfl (by kernel_rfl) (opens_int Try.underlying2) (opensF_cons rfl (by kernel_rfl) (opens_bytes Try.underlying22 Try.underlying5 (by kernel_rfl)) (opensF_cons rfl (by kernel_rfl) (opens_int Try.underlying2) (opensF_one rfl (by kernel_rfl) (opens_bytes Try.underlying22 Try.underlying5 (by kernel_rfl))))))) _ _ _ hf
  clear hA0 hval0
  refine (walk x0 cs0.toList W r0).mono fun e W' ⟨he, bel⟩ => ?_
  subst he
  exact ⟨_, rfl, _, _, _, [], _, [], hW', trodAll_mk1 (shut_bool Try.underlying4 _), (trodAll_cons_mk (Below.trod laidOut (by kernel_rfl) (of_decide_eq_true (by kernel_rfl)) k0 bel lt0) trodAll_mk0), rfl, bel.frame _, fun h => by cases h⟩

theorem over : Rows.fnExactStartClientRow.holds Try.pinned (OpenSpec.ofChange Rows.fnExactStartClientSpec) :=
  OpenClaim.holds_of_wide 5 Try.f5 rfl rfl rfl rfl rfl rfl rfl ⟨rfl, rfl, rfl, rfl, rfl⟩ rfl rfl rfl rfl rfl (by kernel_rfl) Try.func5 (by kernel_rfl)
    (of_decide_eq_true (by kernel_rfl)) (by unfold Func.isWrapper; first | (rw [if_pos (by decide +kernel)]; kernel_rfl) | (rw [if_neg (by decide +kernel)]; exact ⟨rfl, rfl⟩))
    (fun os started H enc _ => lifted os started H enc)

/-- The given statement. -/
theorem proved : Rows.FnExactStartClientSaid := over
end Go.Proofs.Ytiabacnmmojfjaa.fnExactStartClient

namespace Go.Proofs.Ytiabacnmmojfjaa
theorem fnExactStartClient_holds : Rows.FnExactStartClientSaid := fnExactStartClient.proved
end Go.Proofs.Ytiabacnmmojfjaa
