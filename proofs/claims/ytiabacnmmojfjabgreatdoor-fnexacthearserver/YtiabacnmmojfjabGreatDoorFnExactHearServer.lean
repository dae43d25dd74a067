/- HearServer of the program answers as the specification's, every field, leaves its arguments alone, and its answer owns its memory, behind another call too. For every argument; no condition. -/
import Derived.Test.YtiabacnmmojfjabGreatDoorRows
import Derived.WalkKit
import Derived.ProofKit
import Derived.OpenShut
import Derived.ChangeOld
import Derived.Below
import Derived.Test.YtiabacnmmojfjabGreatDoorJoint4
import Derived.OpenVars
import Derived.LaidMore
import Derived.Stop.Joined
import Derived.SevenTiedAt
import Derived.Test.YtiabacnmmojfjabGreatDoorShkA
import Derived.Test.YtiabacnmmojfjabGreatDoorShkU
import Derived.Test.YtiabacnmmojfjabGreatDoorJoint28
import Derived.Test.YtiabacnmmojfjabGreatDoorShkH
import Derived.Test.YtiabacnmmojfjabGreatDoorJoint22
import Derived.Test.YtiabacnmmojfjabGreatDoorJoint21
import Derived.Test.YtiabacnmmojfjabGreatDoorShkX
import Derived.Test.YtiabacnmmojfjabGreatDoorShkZ
import Derived.Test.YtiabacnmmojfjabGreatDoorOdd
import Derived.Test.YtiabacnmmojfjabGreatDoorJoint26
import Derived.Test.YtiabacnmmojfjabGreatDoorCards
import Derived.Test.YtiabacnmmojfjabGreatDoorTie
namespace Go.Proofs.YtiabacnmmojfjabGreatDoor.fnExactHearServer
open Go.ChangeShapes Go.WideShapes Go.ChangeAt Go.RowKit
set_option linter.unusedVariables false
theorem own : ownKnob Tryz.prog.godebug = none := by kernel_rfl
theorem laidOut : laidOutB Tryz.prog = true := by kernel_rfl
/-! The walk. -/
set_option maxRecDepth 4000 in
set_option maxHeartbeats 4000000 in
theorem walk (x0 : _) (cs0 : List Value) (l1 : _) (p1 : Option Addr) (q1 : Nat) (w : World) (r0 : Cod.rep endC w x0 cs0) (r1 : RdL msgC w p1 q1 l1) (hT : Tabs w) :
  Calls Tryz.prog 3 #[.agg cs0.toArray, .slice p1 l1.length q1] w fun e w' => e = .returned (.bool true) ∧ Below w.heap.size w w' := by
 obtain ⟨p01_2, q01_2, p01_4, q01_4, p04, q04, p05, q05, p06_1, q06_1, p06_2, q06_2, p06_3, q06_3, p06_4, q06_4, rfl, rr01_2, rr01_4, rr04, rr05, rr06_1, rr06_2, rr06_3, rr06_4⟩ := end_rep r0
 replace r0 := end_mk rr01_2 rr01_4 rr04 rr05 rr06_1 rr06_2 rr06_3 rr06_4
 clear rr01_2 rr01_4 rr04 rr05 rr06_1 rr06_2 rr06_3 rr06_4
 have rb1 : msgsC.rep w l1 [.slice p1 l1.length q1] := ⟨p1, q1, rfl, r1⟩
 replace r1 := rb1
 clear rb1
 change Calls _ _ #[.agg #[.int .i64 x0.1.1, .slice p01_2 x0.1.2.1.length q01_2, .int .i64 x0.1.2.2.1, .slice p01_4 x0.1.2.2.2.length q01_4, .int .i64 x0.2.1, .int .i64 x0.2.2.1, .slice p04 x0.2.2.2.1.length q04, .slice p05 x0.2.2.2.2.1.length q05, .slice p06_1 x0.2.2.2.2.2.1.length q06_1, .slice p06_2 x0.2.2.2.2.2.2.1.length q06_2, .slice p06_3 x0.2.2.2.2.2.2.2.1.length q06_3, .slice p06_4 x0.2.2.2.2.2.2.2.2.length q06_4], _] _ _
 have HR0 : Hid (endC.rep w x0 _) := r0
 have HR1 : Hid (msgsC.rep w l1 _) := r1
 clear r0 r1
 by_cases hs0 : endN x0 ≤ 1048576
 ·by_cases hs1 : bulkM l1 ≤ 1048576 - (endN x0)
  ·have ht0 := endT_le x0
   have hlen := hvE_small x0 l1
   have hlen1 : 1 + endResultT (hvE x0 l1) ≤ 1000000000 := by omega
   have hlen2 : 1 + endResultT (hvE x0 l1) ≤ 1048577 := by omega
   go_enter Tryz.func3, Tryz.ntmps3
   go_wp2_with fail
   refine (szEnd_k x0 _ _ _ (endC.keep HR0.out (alloc_below _ _)) (by omega) (by omega)).mono ?_
   rintro e w1 ⟨rfl, hb1⟩
   have sP0 := (Has.new hb1).win
   have z1 : Hid (w.heap.size + 1 ≤ w1.heap.size) := size_lt hb1
   replace hb1 := Below.res hb1
   have BW := hb1
   clear hb1
   rw [szR, if_pos (by omega)]
   go_wp2_with fail
   refine (szMsgS_k l1 _ _ _ (msgsC.keep HR1.out BW) (by omega) (by omega)).mono ?_
   rintro e w2 ⟨rfl, hb2⟩
   have z2 : Hid (w1.heap.size ≤ w2.heap.size) := hb2.size
   replace sP0 := sP0.stay hb2
   replace BW := Below.step BW hb2
   clear hb2
   rw [szR, if_pos (by omega)]
   have csP00 := sP0.now 0 _ rfl
   have csP01 := sP0.now 1 _ rfl
   have csP02 := sP0.now 2 _ rfl
   have csP03 := sP0.now 3 _ rfl
   have csP04 := sP0.now 4 _ rfl
   have csP05 := sP0.now 5 _ rfl
   have csP06 := sP0.now 6 _ rfl
   have csP07 := sP0.now 7 _ rfl
   have csP08 := sP0.now 8 _ rfl
   have csP09 := sP0.now 9 _ rfl
   have csP010 := sP0.now 10 _ rfl
   have csP011 := sP0.now 11 _ rfl
   have zsP0 := Has.lt sP0.now
   go_wp2_with fail
   refine (toEnd_k x0 _ _ (endC.keep HR0.out BW) (by omega)).mono ?_
   rintro e w3 ⟨us0, fp0, rfl, k0, hb3⟩
   obtain ⟨pc01_2, qc01_2, pc01_4, qc01_4, pc04, qc04, pc05, qc05, pc06_1, qc06_1, pc06_2, qc06_2, pc06_3, qc06_3, pc06_4, qc06_4, es, -, -, -, -, -, -, -, -⟩ := end_rep (endC.toRep k0)
   subst es
   have gk0 : Hid (∀ k, k ∈ _ → w2.heap.size ≤ k ∧ k < w3.heap.size) := fun k hk => ⟨by have h := (k0.ins k hk).1; exact h, (k0.ins k hk).2⟩
   replace k0 := k0.win (Nat.le_refl _) gk0.out
   have z3 : Hid (w2.heap.size ≤ w3.heap.size) := hb3.size
   replace sP0 := sP0.stay hb3
   replace BW := Below.step BW hb3
   clear hb3 csP00 csP01 csP02 csP03 csP04 csP05 csP06 csP07 csP08 csP09 csP010 csP011 zsP0
   go_wp2_with fail
   refine (toMsgS_k l1 _ _ (msgsC.keep HR1.out BW) (by omega)).mono ?_
   rintro e w4 ⟨us1, fp1, rfl, k1, hb4⟩
   obtain ⟨pc1, qc1, es, -⟩ := msgsC.toRep k1
   simp only [List.cons.injEq, and_true] at es
   subst es
   have gk1 : Hid (∀ k, k ∈ _ → w3.heap.size ≤ k ∧ k < w4.heap.size) := fun k hk => ⟨by have h := (k1.ins k hk).1; exact h, (k1.ins k hk).2⟩
   replace k1 := k1.win (Nat.le_refl _) gk1.out
   have z4 : Hid (w3.heap.size ≤ w4.heap.size) := hb4.size
   replace sP0 := sP0.stay hb4
   replace k0 := k0.stay hb4
   replace BW := Below.step BW hb4
   clear hb4
   go_wp2_with fail
   refine (specHv_k x0 l1 _ _ _ (endC.toRep k0.now) (msgsC.toRep k1.now)).mono ?_
   rintro e w5 ⟨uss, fps, rfl, ks, hb5⟩
   obtain ⟨ps2_1_2, qs2_1_2, ps2_1_4, qs2_1_4, ps2_4, qs2_4, ps2_5, qs2_5, ps2_6_1, qs2_6_1, ps2_6_2, qs2_6_2, ps2_6_3, qs2_6_3, ps2_6_4, qs2_6_4, ps3, qs3, es, -, -, -, -, -, -, -, -, -⟩ := endResult_rep (endResultC.toRep ks)
   subst es
   have gks : Hid (∀ k, k ∈ _ → w4.heap.size ≤ k ∧ k < w5.heap.size) := fun k hk => ⟨by have h := (ks.ins k hk).1; exact h, (ks.ins k hk).2⟩
   replace ks := ks.win (Nat.le_refl _) gks.out
   have z5 : Hid (w4.heap.size ≤ w5.heap.size) := hb5.size
   replace sP0 := sP0.stay hb5
   replace k0 := k0.stay hb5
   replace k1 := k1.stay hb5
   replace BW := Below.step BW hb5
   clear hb5
   clear k0 k1
   have csP00 := sP0.now 0 _ rfl
   have csP01 := sP0.now 1 _ rfl
   have csP02 := sP0.now 2 _ rfl
   have csP03 := sP0.now 3 _ rfl
   have csP04 := sP0.now 4 _ rfl
   have csP05 := sP0.now 5 _ rfl
   have csP06 := sP0.now 6 _ rfl
   have csP07 := sP0.now 7 _ rfl
   have csP08 := sP0.now 8 _ rfl
   have csP09 := sP0.now 9 _ rfl
   have csP010 := sP0.now 10 _ rfl
   have csP011 := sP0.now 11 _ rfl
   have zsP0 := Has.lt sP0.now
   go_wp2_with fail
   refine (toEnd_k x0 _ _ (endC.keep (endC.keep HR0.out BW) (alloc_below _ _)) (by omega)).mono ?_
   rintro e w6 ⟨us2, fp2, rfl, k2, hb6⟩
   obtain ⟨pc21_2, qc21_2, pc21_4, qc21_4, pc24, qc24, pc25, qc25, pc26_1, qc26_1, pc26_2, qc26_2, pc26_3, qc26_3, pc26_4, qc26_4, es, -, -, -, -, -, -, -, -⟩ := end_rep (endC.toRep k2)
   subst es
   have gk2 : Hid (∀ k, k ∈ _ → (w5.heap.size + 1) ≤ k ∧ k < w6.heap.size) := fun k hk => ⟨by have h := (k2.ins k hk).1; rw [size_alloc] at h; exact h, (k2.ins k hk).2⟩
   replace k2 := k2.win (Nat.le_refl _) gk2.out
   have sA := (Has.new hb6).win
   have z6 : Hid (w5.heap.size + 1 ≤ w6.heap.size) := size_lt hb6
   replace hb6 := Below.res hb6
   replace sP0 := sP0.stay hb6
   replace ks := ks.stay hb6
   replace BW := Below.step BW hb6
   clear hb6 csP00 csP01 csP02 csP03 csP04 csP05 csP06 csP07 csP08 csP09 csP010 csP011 zsP0
   go_wp2_with fail
   refine (toMsgS_k l1 _ _ (msgsC.keep (msgsC.keep HR1.out BW) (alloc_below _ _)) (by omega)).mono ?_
   rintro e w7 ⟨us3, fp3, rfl, k3, hb7⟩
   obtain ⟨pc3, qc3, es, -⟩ := msgsC.toRep k3
   simp only [List.cons.injEq, and_true] at es
   subst es
   have gk3 : Hid (∀ k, k ∈ _ → (w6.heap.size + 1) ≤ k ∧ k < w7.heap.size) := fun k hk => ⟨by have h := (k3.ins k hk).1; rw [size_alloc] at h; exact h, (k3.ins k hk).2⟩
   replace k3 := k3.win (Nat.le_refl _) gk3.out
   have sX0 := (Has.new hb7).win
   have z7 : Hid (w6.heap.size + 1 ≤ w7.heap.size) := size_lt hb7
   replace hb7 := Below.res hb7
   replace sP0 := sP0.stay hb7
   replace ks := ks.stay hb7
   replace sA := sA.stay hb7
   replace k2 := k2.stay hb7
   replace BW := Below.step BW hb7
   clear hb7
   have csX00 := sX0.now 0 _ rfl
   have csX01 := sX0.now 1 _ rfl
   have csX02 := sX0.now 2 _ rfl
   have csX03 := sX0.now 3 _ rfl
   have csX04 := sX0.now 4 _ rfl
   have csX05 := sX0.now 5 _ rfl
   have csX06 := sX0.now 6 _ rfl
   have csX07 := sX0.now 7 _ rfl
   have csX08 := sX0.now 8 _ rfl
   have csX09 := sX0.now 9 _ rfl
   have csX010 := sX0.now 10 _ rfl
   have csX011 := sX0.now 11 _ rfl
   have zsX0 := Has.lt sX0.now
   go_wp2_with fail
   refine (implHv_k x0 l1 _ _ _ (endC.toRep k2.now) (msgsC.toRep k3.now) (hT.keep BW)).mono ?_
   rintro e w8 ⟨usg, fpg, rfl, kg, hb8⟩
   obtain ⟨pg2_1_2, qg2_1_2, pg2_1_4, qg2_1_4, pg2_4, qg2_4, pg2_5, qg2_5, pg2_6_1, qg2_6_1, pg2_6_2, qg2_6_2, pg2_6_3, qg2_6_3, pg2_6_4, qg2_6_4, pg3, qg3, es, -, -, -, -, -, -, -, -, -⟩ := endResult_rep (endResultC.toRep kg)
   subst es
   have gkg : Hid (∀ k, k ∈ _ → w7.heap.size ≤ k ∧ k < w8.heap.size) := fun k hk => ⟨by have h := (kg.ins k hk).1; exact h, (kg.ins k hk).2⟩
   replace kg := kg.win (Nat.le_refl _) gkg.out
   have z8 : Hid (w7.heap.size ≤ w8.heap.size) := hb8.size
   replace sP0 := sP0.stay hb8
   replace ks := ks.stay hb8
   replace sA := sA.stay hb8
   replace k2 := k2.stay hb8
   replace sX0 := sX0.stay hb8
   replace k3 := k3.stay hb8
   replace BW := Below.step BW hb8
   clear hb8 csX00 csX01 csX02 csX03 csX04 csX05 csX06 csX07 csX08 csX09 csX010 csX011 zsX0
   have csA0 := sA.now 0 _ rfl
   have csA1 := sA.now 1 _ rfl
   have csA2 := sA.now 2 _ rfl
   have csA3 := sA.now 3 _ rfl
   have csA4 := sA.now 4 _ rfl
   have csA5 := sA.now 5 _ rfl
   have csA6 := sA.now 6 _ rfl
   have csA7 := sA.now 7 _ rfl
   have csA8 := sA.now 8 _ rfl
   have csA9 := sA.now 9 _ rfl
   have csA10 := sA.now 10 _ rfl
   have csA11 := sA.now 11 _ rfl
   have csA12 := sA.now 12 _ rfl
   have csA13 := sA.now 13 _ rfl
   have zsA := Has.lt sA.now
   go_wp2_with fail
   refine (eqEndResult_k (hvE x0 l1) _ _ _ (endResultC.toRep (kg.stay (alloc_below _ _)).now) (endResultC.toRep (ks.stay (alloc_below _ _)).now)).mono ?_
   rintro e w9 ⟨rfl, hb9⟩
   have sB := (Has.new hb9).win
   have z9 : Hid (w8.heap.size + 1 ≤ w9.heap.size) := size_lt hb9
   replace hb9 := Below.res hb9
   replace sP0 := sP0.stay hb9
   replace ks := ks.stay hb9
   replace sA := sA.stay hb9
   replace k2 := k2.stay hb9
   replace sX0 := sX0.stay hb9
   replace k3 := k3.stay hb9
   replace kg := kg.stay hb9
   replace BW := Below.step BW hb9
   clear hb9 csA0 csA1 csA2 csA3 csA4 csA5 csA6 csA7 csA8 csA9 csA10 csA11 csA12 csA13 zsA
   have gsX0 := HW.at (sX0.now 0 _ rfl)
   have gsX1 := HW.at (sX0.now 1 _ rfl)
   have gsX2 := HW.at (sX0.now 2 _ rfl)
   have gsX3 := HW.at (sX0.now 3 _ rfl)
   have gsX4 := HW.at (sX0.now 4 _ rfl)
   have gsX5 := HW.at (sX0.now 5 _ rfl)
   have gsX6 := HW.at (sX0.now 6 _ rfl)
   have gsX7 := HW.at (sX0.now 7 _ rfl)
   have gsX8 := HW.at (sX0.now 8 _ rfl)
   have gsX9 := HW.at (sX0.now 9 _ rfl)
   have gsX10 := HW.at (sX0.now 10 _ rfl)
   have gsX11 := HW.at (sX0.now 11 _ rfl)
   have gsP0 := HW.at (sP0.now 0 _ rfl)
   have gsP1 := HW.at (sP0.now 1 _ rfl)
   have gsP2 := HW.at (sP0.now 2 _ rfl)
   have gsP3 := HW.at (sP0.now 3 _ rfl)
   have gsP4 := HW.at (sP0.now 4 _ rfl)
   have gsP5 := HW.at (sP0.now 5 _ rfl)
   have gsP6 := HW.at (sP0.now 6 _ rfl)
   have gsP7 := HW.at (sP0.now 7 _ rfl)
   have gsP8 := HW.at (sP0.now 8 _ rfl)
   have gsP9 := HW.at (sP0.now 9 _ rfl)
   have gsP10 := HW.at (sP0.now 10 _ rfl)
   have gsP11 := HW.at (sP0.now 11 _ rfl)
   have hne := HW.some w9
   go_wp2_with fail
   refine wp_region_odd_seg 2 3 rfl (by kernel_rfl) (by kernel_rfl) (by kernel_rfl) (by kernel_rfl) ?_
   simp only [List.take_succ_cons, List.take_zero]
   repeat (go_big_quiet_step (fail))
   refine wpQuiet_nil ?_
   refine wpG_call (k := 2) rfl (by kernel_rfl) (by kernel_rfl) (by go_simp) 9 _ #[.agg #[.int .i64 x0.1.1, .slice p01_2 x0.1.2.1.length q01_2, .int .i64 x0.1.2.2.1, .slice p01_4 x0.1.2.2.2.length q01_4, .int .i64 x0.2.1, .int .i64 x0.2.2.1, .slice p04 x0.2.2.2.1.length q04, .slice p05 x0.2.2.2.2.1.length q05, .slice p06_1 x0.2.2.2.2.2.1.length q06_1, .slice p06_2 x0.2.2.2.2.2.2.1.length q06_2, .slice p06_3 x0.2.2.2.2.2.2.2.1.length q06_3, .slice p06_4 x0.2.2.2.2.2.2.2.2.length q06_4]] (fun w => by go_simp) rfl ?_
   rintro _ ⟨sz1, rfl⟩
   refine (toEnd_k x0 _ _ (endC.keep (endC.keep HR0.out BW) sz1.h) (by omega)).mono ?_
   rintro e wz ⟨uz, fz, rfl, kz, hbz⟩
   obtain ⟨pz1_2, qz1_2, pz1_4, qz1_4, pz4, qz4, pz5, qz5, pz6_1, qz6_1, pz6_2, qz6_2, pz6_3, qz6_3, pz6_4, qz6_4, es, -, -, -, -, -, -, -, -⟩ := end_rep (endC.toRep kz)
   subst es
   refine ⟨_, rfl, ⟨⟨_, hbz⟩, rfl⟩, ?_⟩
   have hbx := Below.step sz1.h hbz
   refine wpG_call (k := 3) rfl (by kernel_rfl) (by kernel_rfl) (by go_simp) 13 _ #[.agg #[.int .i64 x0.1.1, .slice pc21_2 x0.1.2.1.length qc21_2, .int .i64 x0.1.2.2.1, .slice pc21_4 x0.1.2.2.2.length qc21_4, .int .i64 x0.2.1, .int .i64 x0.2.2.1, .slice pc24 x0.2.2.2.1.length qc24, .slice pc25 x0.2.2.2.2.1.length qc25, .slice pc26_1 x0.2.2.2.2.2.1.length qc26_1, .slice pc26_2 x0.2.2.2.2.2.2.1.length qc26_2, .slice pc26_3 x0.2.2.2.2.2.2.2.1.length qc26_3, .slice pc26_4 x0.2.2.2.2.2.2.2.2.length qc26_4], .agg #[.int .i64 x0.1.1, .slice pz1_2 x0.1.2.1.length qz1_2, .int .i64 x0.1.2.2.1, .slice pz1_4 x0.1.2.2.2.length qz1_4, .int .i64 x0.2.1, .int .i64 x0.2.2.1, .slice pz4 x0.2.2.2.1.length qz4, .slice pz5 x0.2.2.2.2.1.length qz5, .slice pz6_1 x0.2.2.2.2.2.1.length qz6_1, .slice pz6_2 x0.2.2.2.2.2.2.1.length qz6_2, .slice pz6_3 x0.2.2.2.2.2.2.2.1.length qz6_3, .slice pz6_4 x0.2.2.2.2.2.2.2.2.length qz6_4]] (fun w => by go_simp) rfl ?_
   rintro _ ⟨sz2, rfl⟩
   refine (eqEnd_k x0 _ _ _ (endC.toRep ((k2.stay hbx).stay sz2.h).now) (endC.toRep (endC.stay kz sz2.h))).mono ?_
   rintro e wy ⟨rfl, hby⟩
   refine ⟨_, rfl, ⟨⟨_, hby⟩, rfl⟩, ?_⟩
   replace hby := Below.step (Below.step hbx sz2.h) hby
   have hney := HW.some wy
   refine wpG_next 4 1 0 (by decide) (by kernel_rfl) (by kernel_rfl) (by kernel_rfl) ?_
   simp only [List.drop_succ_cons, List.drop_zero, List.take_succ_cons, List.take_zero]
   go_simp
   repeat (go_big_quiet_step (fail))
   refine wpQuiet_nil ?_
   refine wpG_end rfl ?_
   rintro _ ⟨sz3, rfl⟩
   have hb10 := Below.step hby sz3.h
   clear hby hbx hbz kz hne hney gsX0 gsX1 gsX2 gsX3 gsX4 gsX5 gsX6 gsX7 gsX8 gsX9 gsX10 gsX11 gsP0 gsP1 gsP2 gsP3 gsP4 gsP5 gsP6 gsP7 gsP8 gsP9 gsP10 gsP11
   generalize sz3.w = w10 at *
   clear sz3 sz2 sz1
   have z10 : Hid (w9.heap.size ≤ w10.heap.size) := hb10.size
   replace sP0 := sP0.stay hb10
   replace ks := ks.stay hb10
   replace sA := sA.stay hb10
   replace k2 := k2.stay hb10
   replace sX0 := sX0.stay hb10
   replace k3 := k3.stay hb10
   replace kg := kg.stay hb10
   replace sB := sB.stay hb10
   replace BW := Below.step BW hb10
   clear hb10
   go_wp2_with fail
   refine (toMsgS_k l1 _ _ (msgsC.keep HR1.out BW) (by omega)).mono ?_
   rintro e w11 ⟨us4, fp4, rfl, k4, hb11⟩
   obtain ⟨pc4, qc4, es, -⟩ := msgsC.toRep k4
   simp only [List.cons.injEq, and_true] at es
   subst es
   have gk4 : Hid (∀ k, k ∈ _ → w10.heap.size ≤ k ∧ k < w11.heap.size) := fun k hk => ⟨by have h := (k4.ins k hk).1; exact h, (k4.ins k hk).2⟩
   replace k4 := k4.win (Nat.le_refl _) gk4.out
   have z11 : Hid (w10.heap.size ≤ w11.heap.size) := hb11.size
   replace sP0 := sP0.stay hb11
   replace ks := ks.stay hb11
   replace sA := sA.stay hb11
   replace k2 := k2.stay hb11
   replace sX0 := sX0.stay hb11
   replace k3 := k3.stay hb11
   replace kg := kg.stay hb11
   replace sB := sB.stay hb11
   replace BW := Below.step BW hb11
   clear hb11
   go_wp2_with fail
   refine (eqMsgS_k l1 _ _ _ (msgsC.toRep k3.now) (msgsC.toRep k4.now)).mono ?_
   rintro e w12 ⟨rfl, hb12⟩
   have z12 : Hid (w11.heap.size ≤ w12.heap.size) := hb12.size
   replace sP0 := sP0.stay hb12
   replace ks := ks.stay hb12
   replace sA := sA.stay hb12
   replace k2 := k2.stay hb12
   replace sX0 := sX0.stay hb12
   replace k3 := k3.stay hb12
   replace kg := kg.stay hb12
   replace sB := sB.stay hb12
   replace k4 := k4.stay hb12
   replace BW := Below.step BW hb12
   clear hb12
   clear k4
   have csX00 := sX0.now 0 _ rfl
   have csX01 := sX0.now 1 _ rfl
   have csX02 := sX0.now 2 _ rfl
   have csX03 := sX0.now 3 _ rfl
   have csX04 := sX0.now 4 _ rfl
   have csX05 := sX0.now 5 _ rfl
   have csX06 := sX0.now 6 _ rfl
   have csX07 := sX0.now 7 _ rfl
   have csX08 := sX0.now 8 _ rfl
   have csX09 := sX0.now 9 _ rfl
   have csX010 := sX0.now 10 _ rfl
   have csX011 := sX0.now 11 _ rfl
   have zsX0 := Has.lt sX0.now
   go_wp2_with fail
   refine (markEnd_k x0 _ _ _ 1 _ (by first | rfl | simp | (simp; omega) | (push_cast; omega)) _ k2.now (by omega)).mono ?_
   rintro e w13 ⟨rfl, -, hg⟩
   have z13 : Hid (w12.heap.size ≤ w13.heap.size) := hg.size
   have sg := Only.seg hg gk2.out
   replace sP0 := sP0.seg sg (by have := z1.out; have := z2.out; have := z3.out; have := z4.out; have := z5.out; have := z6.out; have := z7.out; have := z8.out; have := z9.out; have := z10.out; have := z11.out; have := z12.out; have := z13.out; omega)
   replace ks := ks.seg sg (by have := z1.out; have := z2.out; have := z3.out; have := z4.out; have := z5.out; have := z6.out; have := z7.out; have := z8.out; have := z9.out; have := z10.out; have := z11.out; have := z12.out; have := z13.out; omega)
   replace sA := sA.seg sg (by have := z1.out; have := z2.out; have := z3.out; have := z4.out; have := z5.out; have := z6.out; have := z7.out; have := z8.out; have := z9.out; have := z10.out; have := z11.out; have := z12.out; have := z13.out; omega)
   replace sX0 := sX0.seg sg (by have := z1.out; have := z2.out; have := z3.out; have := z4.out; have := z5.out; have := z6.out; have := z7.out; have := z8.out; have := z9.out; have := z10.out; have := z11.out; have := z12.out; have := z13.out; omega)
   replace k3 := k3.seg sg (by have := z1.out; have := z2.out; have := z3.out; have := z4.out; have := z5.out; have := z6.out; have := z7.out; have := z8.out; have := z9.out; have := z10.out; have := z11.out; have := z12.out; have := z13.out; omega)
   replace kg := kg.seg sg (by have := z1.out; have := z2.out; have := z3.out; have := z4.out; have := z5.out; have := z6.out; have := z7.out; have := z8.out; have := z9.out; have := z10.out; have := z11.out; have := z12.out; have := z13.out; omega)
   replace sB := sB.seg sg (by have := z1.out; have := z2.out; have := z3.out; have := z4.out; have := z5.out; have := z6.out; have := z7.out; have := z8.out; have := z9.out; have := z10.out; have := z11.out; have := z12.out; have := z13.out; omega)
   replace BW := Below.seg BW sg (by have := z1.out; have := z2.out; have := z3.out; have := z4.out; have := z5.out; have := z6.out; have := z7.out; have := z8.out; have := z9.out; have := z10.out; have := z11.out; have := z12.out; have := z13.out; omega)
   clear hg sg k2 csX00 csX01 csX02 csX03 csX04 csX05 csX06 csX07 csX08 csX09 csX010 csX011 zsX0
   go_wp2_with fail
   refine (markMsgS_k l1 _ _ _ (1 + endT x0) _ (by first | rfl | simp | (simp; omega) | (push_cast; omega)) _ k3.now (by omega) (by omega)).mono ?_
   rintro e w14 ⟨rfl, -, hg⟩
   have z14 : Hid (w13.heap.size ≤ w14.heap.size) := hg.size
   have sg := Only.seg hg gk3.out
   replace sP0 := sP0.seg sg (by have := z1.out; have := z2.out; have := z3.out; have := z4.out; have := z5.out; have := z6.out; have := z7.out; have := z8.out; have := z9.out; have := z10.out; have := z11.out; have := z12.out; have := z13.out; have := z14.out; omega)
   replace ks := ks.seg sg (by have := z1.out; have := z2.out; have := z3.out; have := z4.out; have := z5.out; have := z6.out; have := z7.out; have := z8.out; have := z9.out; have := z10.out; have := z11.out; have := z12.out; have := z13.out; have := z14.out; omega)
   replace sA := sA.seg sg (by have := z1.out; have := z2.out; have := z3.out; have := z4.out; have := z5.out; have := z6.out; have := z7.out; have := z8.out; have := z9.out; have := z10.out; have := z11.out; have := z12.out; have := z13.out; have := z14.out; omega)
   replace sX0 := sX0.seg sg (by have := z1.out; have := z2.out; have := z3.out; have := z4.out; have := z5.out; have := z6.out; have := z7.out; have := z8.out; have := z9.out; have := z10.out; have := z11.out; have := z12.out; have := z13.out; have := z14.out; omega)
   replace kg := kg.seg sg (by have := z1.out; have := z2.out; have := z3.out; have := z4.out; have := z5.out; have := z6.out; have := z7.out; have := z8.out; have := z9.out; have := z10.out; have := z11.out; have := z12.out; have := z13.out; have := z14.out; omega)
   replace sB := sB.seg sg (by have := z1.out; have := z2.out; have := z3.out; have := z4.out; have := z5.out; have := z6.out; have := z7.out; have := z8.out; have := z9.out; have := z10.out; have := z11.out; have := z12.out; have := z13.out; have := z14.out; omega)
   replace BW := Below.seg BW sg (by have := z1.out; have := z2.out; have := z3.out; have := z4.out; have := z5.out; have := z6.out; have := z7.out; have := z8.out; have := z9.out; have := z10.out; have := z11.out; have := z12.out; have := z13.out; have := z14.out; omega)
   clear hg sg k3
   have csA0 := sA.now 0 _ rfl
   have csA1 := sA.now 1 _ rfl
   have csA2 := sA.now 2 _ rfl
   have csA3 := sA.now 3 _ rfl
   have csA4 := sA.now 4 _ rfl
   have csA5 := sA.now 5 _ rfl
   have csA6 := sA.now 6 _ rfl
   have csA7 := sA.now 7 _ rfl
   have csA8 := sA.now 8 _ rfl
   have csA9 := sA.now 9 _ rfl
   have csA10 := sA.now 10 _ rfl
   have csA11 := sA.now 11 _ rfl
   have csA12 := sA.now 12 _ rfl
   have csA13 := sA.now 13 _ rfl
   have zsA := Has.lt sA.now
   have csB0 := sB.now 0 _ rfl
   have csB1 := sB.now 1 _ rfl
   have csB2 := sB.now 2 _ rfl
   have csB3 := sB.now 3 _ rfl
   have csB4 := sB.now 4 _ rfl
   have csB5 := sB.now 5 _ rfl
   have csB6 := sB.now 6 _ rfl
   have csB7 := sB.now 7 _ rfl
   have csB8 := sB.now 8 _ rfl
   have csB9 := sB.now 9 _ rfl
   have csB10 := sB.now 10 _ rfl
   have csB11 := sB.now 11 _ rfl
   have csB12 := sB.now 12 _ rfl
   have csB13 := sB.now 13 _ rfl
   have zsB := Has.lt sB.now
   go_wp2_with fail
   refine (eqEndResult_k (hvE x0 l1) _ _ _ (endResultC.toRep kg.now) (endResultC.toRep ks.now)).mono ?_
   rintro e w15 ⟨rfl, hb15⟩
   have z15 : Hid (w14.heap.size ≤ w15.heap.size) := hb15.size
   replace sP0 := sP0.stay hb15
   replace ks := ks.stay hb15
   replace sA := sA.stay hb15
   replace sX0 := sX0.stay hb15
   replace kg := kg.stay hb15
   replace sB := sB.stay hb15
   replace BW := Below.step BW hb15
   clear hb15 csA0 csA1 csA2 csA3 csA4 csA5 csA6 csA7 csA8 csA9 csA10 csA11 csA12 csA13 zsA csB0 csB1 csB2 csB3 csB4 csB5 csB6 csB7 csB8 csB9 csB10 csB11 csB12 csB13 zsB
   have csB0 := sB.now 0 _ rfl
   have csB1 := sB.now 1 _ rfl
   have csB2 := sB.now 2 _ rfl
   have csB3 := sB.now 3 _ rfl
   have csB4 := sB.now 4 _ rfl
   have csB5 := sB.now 5 _ rfl
   have csB6 := sB.now 6 _ rfl
   have csB7 := sB.now 7 _ rfl
   have csB8 := sB.now 8 _ rfl
   have csB9 := sB.now 9 _ rfl
   have csB10 := sB.now 10 _ rfl
   have csB11 := sB.now 11 _ rfl
   have csB12 := sB.now 12 _ rfl
   have csB13 := sB.now 13 _ rfl
   have zsB := Has.lt sB.now
   go_wp2_with fail
   refine (markEndResult_k (hvE x0 l1) _ _ _ 1 1 rfl _ kg.now hlen1).mono ?_
   rintro e w16 ⟨rfl, km, hg⟩
   have z16 : Hid (w15.heap.size ≤ w16.heap.size) := hg.size
   have sg := Only.seg hg gkg.out
   replace sP0 := sP0.seg sg (by have := z1.out; have := z2.out; have := z3.out; have := z4.out; have := z5.out; have := z6.out; have := z7.out; have := z8.out; have := z9.out; have := z10.out; have := z11.out; have := z12.out; have := z13.out; have := z14.out; have := z15.out; have := z16.out; omega)
   replace ks := ks.seg sg (by have := z1.out; have := z2.out; have := z3.out; have := z4.out; have := z5.out; have := z6.out; have := z7.out; have := z8.out; have := z9.out; have := z10.out; have := z11.out; have := z12.out; have := z13.out; have := z14.out; have := z15.out; have := z16.out; omega)
   replace sA := sA.seg sg (by have := z1.out; have := z2.out; have := z3.out; have := z4.out; have := z5.out; have := z6.out; have := z7.out; have := z8.out; have := z9.out; have := z10.out; have := z11.out; have := z12.out; have := z13.out; have := z14.out; have := z15.out; have := z16.out; omega)
   replace sX0 := sX0.seg sg (by have := z1.out; have := z2.out; have := z3.out; have := z4.out; have := z5.out; have := z6.out; have := z7.out; have := z8.out; have := z9.out; have := z10.out; have := z11.out; have := z12.out; have := z13.out; have := z14.out; have := z15.out; have := z16.out; omega)
   replace sB := sB.seg sg (by have := z1.out; have := z2.out; have := z3.out; have := z4.out; have := z5.out; have := z6.out; have := z7.out; have := z8.out; have := z9.out; have := z10.out; have := z11.out; have := z12.out; have := z13.out; have := z14.out; have := z15.out; have := z16.out; omega)
   replace BW := Below.seg BW sg (by have := z1.out; have := z2.out; have := z3.out; have := z4.out; have := z5.out; have := z6.out; have := z7.out; have := z8.out; have := z9.out; have := z10.out; have := z11.out; have := z12.out; have := z13.out; have := z14.out; have := z15.out; have := z16.out; omega)
   replace km := km.win (by have := z1.out; have := z2.out; have := z3.out; have := z4.out; have := z5.out; have := z6.out; have := z7.out; have := z8.out; have := z9.out; have := z10.out; have := z11.out; have := z12.out; have := z13.out; have := z14.out; have := z15.out; have := z16.out; omega) gkg.out
   clear hg sg kg csB0 csB1 csB2 csB3 csB4 csB5 csB6 csB7 csB8 csB9 csB10 csB11 csB12 csB13 zsB
   have csB0 := sB.now 0 _ rfl
   have csB1 := sB.now 1 _ rfl
   have csB2 := sB.now 2 _ rfl
   have csB3 := sB.now 3 _ rfl
   have csB4 := sB.now 4 _ rfl
   have csB5 := sB.now 5 _ rfl
   have csB6 := sB.now 6 _ rfl
   have csB7 := sB.now 7 _ rfl
   have csB8 := sB.now 8 _ rfl
   have csB9 := sB.now 9 _ rfl
   have csB10 := sB.now 10 _ rfl
   have csB11 := sB.now 11 _ rfl
   have csB12 := sB.now 12 _ rfl
   have csB13 := sB.now 13 _ rfl
   have zsB := Has.lt sB.now
   go_wp2_with fail
   refine (heldEndResult_k (hvE x0 l1) _ 1 1 rfl _ (endResultC.toRep km.now) hlen2).mono ?_
   rintro e w17 ⟨rfl, hb17⟩
   have z17 : Hid (w16.heap.size ≤ w17.heap.size) := hb17.size
   replace sP0 := sP0.stay hb17
   replace ks := ks.stay hb17
   replace sA := sA.stay hb17
   replace sX0 := sX0.stay hb17
   replace sB := sB.stay hb17
   replace km := km.stay hb17
   replace BW := Below.step BW hb17
   clear hb17 csB0 csB1 csB2 csB3 csB4 csB5 csB6 csB7 csB8 csB9 csB10 csB11 csB12 csB13 zsB
   have csP00 := sP0.now 0 _ rfl
   have csP01 := sP0.now 1 _ rfl
   have csP02 := sP0.now 2 _ rfl
   have csP03 := sP0.now 3 _ rfl
   have csP04 := sP0.now 4 _ rfl
   have csP05 := sP0.now 5 _ rfl
   have csP06 := sP0.now 6 _ rfl
   have csP07 := sP0.now 7 _ rfl
   have csP08 := sP0.now 8 _ rfl
   have csP09 := sP0.now 9 _ rfl
   have csP010 := sP0.now 10 _ rfl
   have csP011 := sP0.now 11 _ rfl
   have zsP0 := Has.lt sP0.now
   go_wp2_with fail
   refine (toEnd_k x0 _ _ (endC.keep HR0.out BW) (by omega)).mono ?_
   rintro e w18 ⟨us5, fp5, rfl, k5, hb18⟩
   obtain ⟨pc51_2, qc51_2, pc51_4, qc51_4, pc54, qc54, pc55, qc55, pc56_1, qc56_1, pc56_2, qc56_2, pc56_3, qc56_3, pc56_4, qc56_4, es, -, -, -, -, -, -, -, -⟩ := end_rep (endC.toRep k5)
   subst es
   have gk5 : Hid (∀ k, k ∈ _ → w17.heap.size ≤ k ∧ k < w18.heap.size) := fun k hk => ⟨by have h := (k5.ins k hk).1; exact h, (k5.ins k hk).2⟩
   replace k5 := k5.win (Nat.le_refl _) gk5.out
   have z18 : Hid (w17.heap.size ≤ w18.heap.size) := hb18.size
   replace sP0 := sP0.stay hb18
   replace ks := ks.stay hb18
   replace sA := sA.stay hb18
   replace sX0 := sX0.stay hb18
   replace sB := sB.stay hb18
   replace km := km.stay hb18
   replace BW := Below.step BW hb18
   clear hb18 csP00 csP01 csP02 csP03 csP04 csP05 csP06 csP07 csP08 csP09 csP010 csP011 zsP0
   go_wp2_with fail
   refine (toMsgS_k l1 _ _ (msgsC.keep HR1.out BW) (by omega)).mono ?_
   rintro e w19 ⟨us6, fp6, rfl, k6, hb19⟩
   obtain ⟨pc6, qc6, es, -⟩ := msgsC.toRep k6
   simp only [List.cons.injEq, and_true] at es
   subst es
   have gk6 : Hid (∀ k, k ∈ _ → w18.heap.size ≤ k ∧ k < w19.heap.size) := fun k hk => ⟨by have h := (k6.ins k hk).1; exact h, (k6.ins k hk).2⟩
   replace k6 := k6.win (Nat.le_refl _) gk6.out
   have z19 : Hid (w18.heap.size ≤ w19.heap.size) := hb19.size
   replace sP0 := sP0.stay hb19
   replace ks := ks.stay hb19
   replace sA := sA.stay hb19
   replace sX0 := sX0.stay hb19
   replace sB := sB.stay hb19
   replace km := km.stay hb19
   replace k5 := k5.stay hb19
   replace BW := Below.step BW hb19
   clear hb19
   go_wp2_with fail
   refine (implHv_k x0 l1 _ _ _ (endC.toRep k5.now) (msgsC.toRep k6.now) (hT.keep BW)).mono ?_
   rintro e w20 ⟨ush, fph, rfl, kh, hb20⟩
   obtain ⟨ph2_1_2, qh2_1_2, ph2_1_4, qh2_1_4, ph2_4, qh2_4, ph2_5, qh2_5, ph2_6_1, qh2_6_1, ph2_6_2, qh2_6_2, ph2_6_3, qh2_6_3, ph2_6_4, qh2_6_4, ph3, qh3, es, -, -, -, -, -, -, -, -, -⟩ := endResult_rep (endResultC.toRep kh)
   subst es
   have gkh : Hid (∀ k, k ∈ _ → w19.heap.size ≤ k ∧ k < w20.heap.size) := fun k hk => ⟨by have h := (kh.ins k hk).1; exact h, (kh.ins k hk).2⟩
   replace kh := kh.win (Nat.le_refl _) gkh.out
   have z20 : Hid (w19.heap.size ≤ w20.heap.size) := hb20.size
   replace sP0 := sP0.stay hb20
   replace ks := ks.stay hb20
   replace sA := sA.stay hb20
   replace sX0 := sX0.stay hb20
   replace sB := sB.stay hb20
   replace km := km.stay hb20
   replace k5 := k5.stay hb20
   replace k6 := k6.stay hb20
   replace BW := Below.step BW hb20
   clear hb20
   clear k5 k6
   have csA0 := sA.now 0 _ rfl
   have csA1 := sA.now 1 _ rfl
   have csA2 := sA.now 2 _ rfl
   have csA3 := sA.now 3 _ rfl
   have csA4 := sA.now 4 _ rfl
   have csA5 := sA.now 5 _ rfl
   have csA6 := sA.now 6 _ rfl
   have csA7 := sA.now 7 _ rfl
   have csA8 := sA.now 8 _ rfl
   have csA9 := sA.now 9 _ rfl
   have csA10 := sA.now 10 _ rfl
   have csA11 := sA.now 11 _ rfl
   have csA12 := sA.now 12 _ rfl
   have csA13 := sA.now 13 _ rfl
   have zsA := Has.lt sA.now
   go_wp2_with fail
   refine (eqEndResult_k (hvE x0 l1) _ _ _ (endResultC.toRep (kh.stay (alloc_below _ _)).now) (endResultC.toRep (ks.stay (alloc_below _ _)).now)).mono ?_
   rintro e w21 ⟨rfl, hb21⟩
   have sC := (Has.new hb21).win
   have z21 : Hid (w20.heap.size + 1 ≤ w21.heap.size) := size_lt hb21
   replace hb21 := Below.res hb21
   replace sP0 := sP0.stay hb21
   replace ks := ks.stay hb21
   replace sA := sA.stay hb21
   replace sX0 := sX0.stay hb21
   replace sB := sB.stay hb21
   replace km := km.stay hb21
   replace kh := kh.stay hb21
   replace BW := Below.step BW hb21
   clear hb21 csA0 csA1 csA2 csA3 csA4 csA5 csA6 csA7 csA8 csA9 csA10 csA11 csA12 csA13 zsA
   clear sC sA ks kh
   have csB0 := sB.now 0 _ rfl
   have csB1 := sB.now 1 _ rfl
   have csB2 := sB.now 2 _ rfl
   have csB3 := sB.now 3 _ rfl
   have csB4 := sB.now 4 _ rfl
   have csB5 := sB.now 5 _ rfl
   have csB6 := sB.now 6 _ rfl
   have csB7 := sB.now 7 _ rfl
   have csB8 := sB.now 8 _ rfl
   have csB9 := sB.now 9 _ rfl
   have csB10 := sB.now 10 _ rfl
   have csB11 := sB.now 11 _ rfl
   have csB12 := sB.now 12 _ rfl
   have csB13 := sB.now 13 _ rfl
   have zsB := Has.lt sB.now
   go_wp2_with fail
   refine (heldEndResult_k (hvE x0 l1) _ 1 1 rfl _ (endResultC.toRep km.now) hlen2).mono ?_
   rintro e w22 ⟨rfl, hb22⟩
   have z22 : Hid (w21.heap.size ≤ w22.heap.size) := hb22.size
   replace sP0 := sP0.stay hb22
   replace sX0 := sX0.stay hb22
   replace sB := sB.stay hb22
   replace km := km.stay hb22
   replace BW := Below.step BW hb22
   clear hb22 csB0 csB1 csB2 csB3 csB4 csB5 csB6 csB7 csB8 csB9 csB10 csB11 csB12 csB13 zsB
   go_wp2
   go_ret
   exact ⟨rfl, BW⟩
  ·go_enter Tryz.func3, Tryz.ntmps3
   go_wp2_with fail
   refine (szEnd_k x0 _ _ _ (endC.keep HR0.out (alloc_below _ _)) (by omega) (by omega)).mono ?_
   rintro e w1 ⟨rfl, hb1⟩
   have sP0 := (Has.new hb1).win
   have z1 : Hid (w.heap.size + 1 ≤ w1.heap.size) := size_lt hb1
   replace hb1 := Below.res hb1
   have BW := hb1
   clear hb1
   rw [szR, if_pos (by omega)]
   go_wp2_with fail
   refine (szMsgS_k l1 _ _ _ (msgsC.keep HR1.out BW) (by omega) (by omega)).mono ?_
   rintro e w2 ⟨rfl, hb2⟩
   have z2 : Hid (w1.heap.size ≤ w2.heap.size) := hb2.size
   replace sP0 := sP0.stay hb2
   replace BW := Below.step BW hb2
   clear hb2
   rw [szR, if_neg (by omega)]
   go_wp2
   go_ret
   exact ⟨rfl, BW⟩
 ·go_enter Tryz.func3, Tryz.ntmps3
  go_wp2_with fail
  refine (szEnd_k x0 _ _ _ (endC.keep HR0.out (alloc_below _ _)) (by omega) (by omega)).mono ?_
  rintro e w1 ⟨rfl, hb1⟩
  have sP0 := (Has.new hb1).win
  have z1 : Hid (w.heap.size + 1 ≤ w1.heap.size) := size_lt hb1
  replace hb1 := Below.res hb1
  have BW := hb1
  clear hb1
  rw [szR, if_neg (by omega)]
  go_wp2
  go_ret
  exact ⟨rfl, BW⟩
/-! The row's step. -/
theorem door_met (os : Os) (args : Array Value) : laidMetH Tryz.prog Rows.fnExactHearServerRow.laid ((World.doorLaid Tryz.prog 400 os).forCall (fun _ _ => 0) ⟨#[], args, []⟩).memory :=
 laidMet_of_run' 8 (by kernel_rfl) (by kernel_rfl)
set_option maxRecDepth 100000 in
set_option maxHeartbeats 1000000 in
theorem lifted (os : Os) (started : os.Started) (H : Type) (enc : TypeId × Value → H) :
  ReturnsInHanded {} Tryz.checked os 3 .any (fun w args => (Rows.fnExactHearServerSpec.pre enc Tryz.prog Tryz.f3 [] false w args ∧ laidMetH Tryz.prog Rows.fnExactHearServerRow.laid w) ∧ sizedMet enc Tryz.prog Tryz.f3 (OpenSpec.ofChange Rows.fnExactHearServerSpec) false w args) (Rows.fnExactHearServerSpec.post enc Tryz.prog Tryz.f3 false true false false) := by
 refine returnsInHanded_of_change_and (C := Tryz.checked) (X := fun w _ => laidMetH Tryz.prog Rows.fnExactHearServerRow.laid w) (fun _ _ _ hh h => h.of_heap hh) own started (by kernel_rfl) Tryz.func3
  (ChangeSpec.witness_shaped (enc := enc) (C := Tryz.checked) (os := os) (X := fun w _ => laidMetH Tryz.prog Rows.fnExactHearServerRow.laid w) false (World.doorLaid Tryz.prog 400 os) #[.agg #[.int .i64 0, .slice none 0 0, .int .i64 0, .slice none 0 0, .int .i64 0, .int .i64 0, .slice none 0 0, .slice none 0 0, .slice none 0 0, .slice none 0 0, .slice none 0 0, .slice none 0 0], .slice none 0 0] 8 rfl (World.shaped_of_RefB (by kernel_rfl) (by kernel_rfl)) (by kernel_rfl) (by kernel_rfl) (by kernel_rfl) (door_met os _)) ?_
 intro W base args ds gs before hval0 hW hcnd _ hL _
 have hval : ∀ (j : Nat) t v, Tryz.f3.params[j]? = some t → args[j]? = some v → Value.okWide Tryz.prog W .any base t v := hval0
 have hW' := hW
 obtain ⟨p, q, hA0, hV, rfl, hfz, hnd⟩ := hW
 have hA : DataW.TrodAll enc Tryz.prog W 0 (fun _ => true) true Tryz.f3.params.toList args.toList ds p := hA0
 rw [Tryz.params3] at hA hval
 obtain ⟨v0, vs0, d0, ds0, s0, t0, hargs, rfl, rfl, h0, m0⟩ := trodAll_cons hA
 obtain ⟨v1, vs1, d1, ds1, s1, t1, rfl, rfl, rfl, h1, m1⟩ := trodAll_cons m0
 obtain ⟨rfl, rfl, rfl⟩ := trodAll_nil m1
 obtain rfl : args = #[v0, v1] := by cases args; simp_all
 obtain ⟨v0a, v0b, v0c, v0d, v0e, v0f, v1a, v1b, v1c, v1d, v1e, v1f, rfl, -⟩ := trodVars_two hV
 obtain ⟨cs0, rfl, -⟩ := okWide_struct Tryz.underlying29 (hval 0 29 v0 rfl rfl)
 have k0 := h0
 have lt0 : ∀ x ∈ s0, x.block < W.heap.size := by obtain ⟨m, hm⟩ := k0; exact DataW.trod_lt m _ _ _ hm
 obtain ⟨x0, r0⟩ : ∃ x, Cod.rep endC W x cs0.toList := by obtain ⟨fuel, hf⟩ := h0; exact (opens_struct (c := endC) Tryz.underlying29 (by kernel_rfl) (opensF_cons rfl (by kernel_rfl) (opens_struct (c := sideC) Tryz.underlying24 (by kernel_rfl) (opensF_cons rfl (by kernel_rfl) (opens_int Tryz.underlying2) (opensF_cons rfl (by kernel_rfl) (opens_bytes Tryz.underlying22 Tryz.underlying5 (by kernel_rfl)) (opensF_cons rfl (by kernel_rfl) (opens_int Tryz.underlying2) (opensF_one rfl (by kernel_rfl) (opens_bytes Tryz.underlying22 Tryz.underlying5 (by kernel_rfl))))))) (opensF_cons rfl (by kernel_rfl) (opens_int Tryz.underlying2) (opensF_cons rfl (by kernel_rfl) (opens_int Tryz.underlying2) (opensF_cons rfl (by kernel_rfl) (opens_list (e' := 50) (c := msgC) Tryz.underlying25 (by kernel_rfl) (by decide) (opens_struct (c := msgC) Tryz.underlying50 (by kernel_rfl) (opensF_cons rfl (by kernel_rfl) (opens_int Tryz.underlying2) (opensF_one rfl (by kernel_rfl) (opens_bytes Tryz.underlying22 Tryz.underlying5 (by kernel_rfl)))))) (opensF_cons rfl (by kernel_rfl) (opens_bytes Tryz.underlying22 Tryz.underlying5 (by kernel_rfl)) (opensF_one rfl (by kernel_rfl) (opens_struct (c := secretsC) Tryz.underlying27 (by kernel_rfl) (opensF_cons rfl (by kernel_rfl) (opens_bytes Tryz.underlying22 Tryz.underlying5 (by kernel_rfl)) (opensF_cons rfl (by kernel_rfl) (opens_bytes Tryz.underlying22 Tryz.underlying5 (by kernel_rfl)) (opensF_cons rfl (by kernel_rfl) (opens_bytes Tryz.underlying22 Tryz.underlying5 (by kernel_rfl)) (opensF_one rfl (by kernel_rfl) (opens_bytes Tryz.underlying22 Tryz.underlying5 (by kernel_rfl)))))))))))))) _ _ _ hf
 obtain ⟨e1, len1, cap1, rfl⟩ := okWide_slice Tryz.underlying25 (hval 1 25 v1 rfl rfl)
 have k1 := h1
 have lt1 : ∀ x ∈ s1, x.block < W.heap.size := by obtain ⟨m, hm⟩ := k1; exact DataW.trod_lt m _ _ _ hm
 obtain ⟨l1, p1, q1, g1, r1⟩ : ∃ x, Cod.rep (listC 50 msgC) W x [.slice e1 len1 cap1] := by obtain ⟨fuel, hf⟩ := h1; exact (opens_list (e' := 50) (c := msgC) Tryz.underlying25 (by kernel_rfl) (by decide) (opens_struct (c := msgC) Tryz.underlying50 (by kernel_rfl) (opensF_cons rfl (by kernel_rfl) (opens_int Tryz.underlying2) (opensF_one rfl (by kernel_rfl) (opens_bytes Tryz.underlying22 Tryz.underlying5 (by kernel_rfl)))))) _ _ _ hf
 simp only [List.cons.injEq, Value.slice.injEq, and_true] at g1
 obtain ⟨rfl, rfl, rfl⟩ := g1
 clear hA0 hval0
 refine (walk x0 cs0.toList l1 e1 cap1 W r0 r1 (tabs_of hL)).mono fun e W' ⟨he, bel⟩ => ?_
 subst he
 exact ⟨_, rfl, _, _, _, [], _, _, hW', trodAll_mk1 (shut_bool Tryz.underlying4 _), (trodAll_cons_mk (Below.trod laidOut (by kernel_rfl) (of_decide_eq_true (by kernel_rfl)) k0 bel lt0) (trodAll_cons_mk (Below.trod laidOut (by kernel_rfl) (of_decide_eq_true (by kernel_rfl)) k1 bel lt1) trodAll_mk0)), Below.trodVars laidOut bel (by kernel_rfl) hV, bel.frame _, fun h => by cases h⟩
theorem over : Rows.fnExactHearServerRow.holds Tryz.pinned (OpenSpec.ofChange Rows.fnExactHearServerSpec) :=
 OpenClaim.holds_of_wide 3 Tryz.f3 rfl rfl rfl rfl rfl rfl rfl ⟨rfl, rfl, rfl, rfl, rfl⟩ rfl rfl rfl rfl rfl (by kernel_rfl) Tryz.func3 (by kernel_rfl)
  (of_decide_eq_true (by kernel_rfl)) (by unfold Func.isWrapper; first | (rw [if_pos (by decide +kernel)]; kernel_rfl) | (rw [if_neg (by decide +kernel)]; exact ⟨rfl, rfl⟩))
  (fun os started H enc _ => lifted os started H enc)
theorem plain (f : FuncId) (fn : Func) (hf : Tryz.pinned.checked.prog.funcNamed "loop.example/g00375/laws.FnExactHearServer" = some f) (hfn : Tryz.pinned.checked.prog.funcs[f]? = some fn) :
  true = Tryz.pinned.checked.prog.looks [] ∧ ∀ (j : Nat) t, fn.params[j]? = some t → Tryz.pinned.checked.prog.wantsStandIn t = false := by
 obtain rfl : f = 3 := Option.some.inj ((show Tryz.prog.funcNamed "loop.example/g00375/laws.FnExactHearServer" = some 3 by kernel_rfl).symm.trans hf) |>.symm
 obtain rfl : fn = Tryz.f3 := (Option.some.inj (Tryz.func3.symm.trans hfn)).symm
 refine ⟨by kernel_rfl, fun j t ht => ?_⟩
 rw [Tryz.params3] at ht
 have hm : t ∈ [29, 25] := by simpa using Array.mem_of_getElem? ht
 have hall : ([29, 25].all fun u => !Tryz.prog.wantsStandIn u) = true := by kernel_rfl
 exact (show Tryz.prog.wantsStandIn t = false by simpa using List.all_eq_true.1 hall t hm)
theorem card : Rows.FnExactHearServerCardSaid :=
 Claim7.holds_tied_plain_at .later [] _ _ _ _ over (fun _ h => by cases h) (by kernel_rfl) (fun _ h => by cases h) fnExactHearServer_row_tie rfl ⟨rfl, rfl⟩ (by kernel_rfl) rfl plain (by kernel_rfl)
end Go.Proofs.YtiabacnmmojfjabGreatDoor.fnExactHearServer
namespace Go.Proofs.YtiabacnmmojfjabGreatDoor
theorem fnExactHearServer_holds : Rows.FnExactHearServerCardSaid := fnExactHearServer.card
end Go.Proofs.YtiabacnmmojfjabGreatDoor
