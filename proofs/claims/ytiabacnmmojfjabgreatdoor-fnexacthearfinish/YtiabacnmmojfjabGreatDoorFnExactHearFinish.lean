/- HearFinish of the program answers as the specification's, every field, leaves its arguments alone, and its answer owns its memory, behind another call too. For every argument; no condition. -/
import Derived.Test.YtiabacnmmojfjabGreatDoorRows
import Derived.WalkKit
import Derived.ProofKit
import Derived.OpenShut
import Derived.ChangeOld
import Derived.Below
import Derived.Test.YtiabacnmmojfjabGreatDoorJoint4
import Derived.OpenVars
import Derived.LaidMore
import Derived.Stop.Joined
import Derived.SevenTiedAt
import Derived.Test.YtiabacnmmojfjabGreatDoorShkA
import Derived.Test.YtiabacnmmojfjabGreatDoorShkU
import Derived.Test.YtiabacnmmojfjabGreatDoorJoint28
import Derived.Test.YtiabacnmmojfjabGreatDoorShkH
import Derived.Test.YtiabacnmmojfjabGreatDoorJoint22
import Derived.Test.YtiabacnmmojfjabGreatDoorJoint21
import Derived.Test.YtiabacnmmojfjabGreatDoorShkY
import Derived.Test.YtiabacnmmojfjabGreatDoorOdd
import Derived.Test.YtiabacnmmojfjabGreatDoorJoint6
import Derived.Test.YtiabacnmmojfjabGreatDoorJoint26
import Derived.Test.YtiabacnmmojfjabGreatDoorCards
import Derived.Test.YtiabacnmmojfjabGreatDoorTie
namespace Go.Proofs.YtiabacnmmojfjabGreatDoor.fnExactHearFinish
open Go.ChangeShapes Go.WideShapes Go.ChangeAt Go.RowKit
set_option linter.unusedVariables false
theorem own : ownKnob Tryz.prog.godebug = none := by kernel_rfl
theorem laidOut : laidOutB Tryz.prog = true := by kernel_rfl
/-! The walk. -/
set_option maxRecDepth 4000 in
set_option maxHeartbeats 4000000 in
theorem walk (x0 : _) (cs0 : List Value) (x1 : _) (cs1 : List Value) (w : World) (r0 : Cod.rep endC w x0 cs0) (r1 : Cod.rep msgC w x1 cs1) (hT : Tabs w) :
  Calls Tryz.prog 4 #[.agg cs0.toArray, .agg cs1.toArray] w fun e w' => e = .returned (.bool true) ∧ Below w.heap.size w w' := by
 obtain ⟨p01_2, q01_2, p01_4, q01_4, p04, q04, p05, q05, p06_1, q06_1, p06_2, q06_2, p06_3, q06_3, p06_4, q06_4, rfl, rr01_2, rr01_4, rr04, rr05, rr06_1, rr06_2, rr06_3, rr06_4⟩ := end_rep r0
 replace r0 := end_mk rr01_2 rr01_4 rr04 rr05 rr06_1 rr06_2 rr06_3 rr06_4
 clear rr01_2 rr01_4 rr04 rr05 rr06_1 rr06_2 rr06_3 rr06_4
 obtain ⟨p12, q12, rfl, rr12⟩ := msg_rep r1
 replace r1 := msg_mk rr12
 clear rr12
 change Calls _ _ #[.agg #[.int .i64 x0.1.1, .slice p01_2 x0.1.2.1.length q01_2, .int .i64 x0.1.2.2.1, .slice p01_4 x0.1.2.2.2.length q01_4, .int .i64 x0.2.1, .int .i64 x0.2.2.1, .slice p04 x0.2.2.2.1.length q04, .slice p05 x0.2.2.2.2.1.length q05, .slice p06_1 x0.2.2.2.2.2.1.length q06_1, .slice p06_2 x0.2.2.2.2.2.2.1.length q06_2, .slice p06_3 x0.2.2.2.2.2.2.2.1.length q06_3, .slice p06_4 x0.2.2.2.2.2.2.2.2.length q06_4], .agg #[.int .i64 x1.1, .slice p12 x1.2.length q12]] _ _
 have HR0 : Hid (endC.rep w x0 _) := r0
 have HR1 : Hid (msgC.rep w x1 _) := r1
 clear r0 r1
 by_cases hs0 : endN x0 ≤ 1048576
 ·by_cases hs1 : msgN x1 ≤ 1048576 - (endN x0)
  ·have ht0 := endT_le x0
   have ht1 := msgT_le x1
   have hlen := hnE_small x0 x1
   have hlen1 : 1 + endResultT (hnE x0 x1) ≤ 1000000000 := by omega
   have hlen2 : 1 + endResultT (hnE x0 x1) ≤ 1048577 := by omega
   go_enter Tryz.func4, Tryz.ntmps4
   go_wp2_with fail
   refine (szEnd_k x0 _ _ _ (endC.keep (endC.keep HR0.out (alloc_below _ _)) (alloc_below _ _)) (by omega) (by omega)).mono ?_
   rintro e w1 ⟨rfl, hb1⟩
   have sP1 := (Has.new hb1).win
   rw [size_alloc] at sP1
   have z1 : Hid (w.heap.size + 2 ≤ w1.heap.size) := by have h := size_lt hb1; rw [size_alloc] at h; exact h
   replace hb1 := Below.res hb1
   have sP0 := (Has.new hb1).win
   replace hb1 := Below.res hb1
   have BW := hb1
   clear hb1
   rw [szR, if_pos (by omega)]
   have csP10 := sP1.now 0 _ rfl
   have csP11 := sP1.now 1 _ rfl
   have zsP1 := Has.lt sP1.now
   go_wp2_with fail
   refine (szMsg_k x1 _ _ _ (msgC.keep HR1.out BW) (by omega) (by omega)).mono ?_
   rintro e w2 ⟨rfl, hb2⟩
   have z2 : Hid (w1.heap.size ≤ w2.heap.size) := hb2.size
   replace sP0 := sP0.stay hb2
   replace sP1 := sP1.stay hb2
   replace BW := Below.step BW hb2
   clear hb2 csP10 csP11 zsP1
   rw [szR, if_pos (by omega)]
   go_wp2_with fail
   apply share
   case h =>
    intro JN
    have BB := Below.refl w2.heap.size w2
    have hne := HW.some w2
    have gsP00 := HW.at (sP0.now 0 _ rfl)
    have gsP01 := HW.at (sP0.now 1 _ rfl)
    have gsP02 := HW.at (sP0.now 2 _ rfl)
    have gsP03 := HW.at (sP0.now 3 _ rfl)
    have gsP04 := HW.at (sP0.now 4 _ rfl)
    have gsP05 := HW.at (sP0.now 5 _ rfl)
    have gsP06 := HW.at (sP0.now 6 _ rfl)
    have gsP07 := HW.at (sP0.now 7 _ rfl)
    have gsP08 := HW.at (sP0.now 8 _ rfl)
    have gsP09 := HW.at (sP0.now 9 _ rfl)
    have gsP010 := HW.at (sP0.now 10 _ rfl)
    have gsP011 := HW.at (sP0.now 11 _ rfl)
    have gsP10 := HW.at (sP1.now 0 _ rfl)
    have gsP11 := HW.at (sP1.now 1 _ rfl)
    refine wp_region_pick [0, 2] 6 4 1 rfl rfl rfl (by kernel_rfl) (by kernel_rfl) (by kernel_rfl) (by kernel_rfl) ?_
    simp only [opsAt, List.getElem?_toArray, List.getElem?_cons_zero, List.getElem?_cons_succ]
    repeat (go_big_quiet_step (fail))
    refine wpQuiet_nil ?_
    clear gsP00 gsP01 gsP02 gsP03 gsP04 gsP05 gsP06 gsP07 gsP08 gsP09 gsP010 gsP011 gsP10 gsP11
    refine wpM_two (i := 1) (j := 5) (by kernel_rfl) ?_ ?_
    ·skip
     refine mOp_call rfl (by go_simp) 9 _ #[.agg #[.int .i64 x0.1.1, .slice p01_2 x0.1.2.1.length q01_2, .int .i64 x0.1.2.2.1, .slice p01_4 x0.1.2.2.2.length q01_4, .int .i64 x0.2.1, .int .i64 x0.2.2.1, .slice p04 x0.2.2.2.1.length q04, .slice p05 x0.2.2.2.2.1.length q05, .slice p06_1 x0.2.2.2.2.2.1.length q06_1, .slice p06_2 x0.2.2.2.2.2.2.1.length q06_2, .slice p06_3 x0.2.2.2.2.2.2.2.1.length q06_3, .slice p06_4 x0.2.2.2.2.2.2.2.2.length q06_4]] (fun w => by go_simp) rfl ?_
     rintro _ ⟨sg, rfl⟩
     refine (toEnd_k x0 _ _ (endC.keep (endC.keep HR0.out BW) (Below.step BB sg.h)) (by omega)).mono ?_
     rintro e wg1 ⟨uz0, fz0, rfl, kz0, hbx⟩
     obtain ⟨pz0s1_2, qz0s1_2, pz0s1_4, qz0s1_4, pz0s4, qz0s4, pz0s5, qz0s5, pz0s6_1, qz0s6_1, pz0s6_2, qz0s6_2, pz0s6_3, qz0s6_3, pz0s6_4, qz0s6_4, es, -, -, -, -, -, -, -, -⟩ := end_rep (endC.toRep kz0)
     subst es
     have hbg := Below.step sg.h hbx
     refine ⟨_, rfl, ⟨⟨wg1, hbx⟩, rfl⟩, ?_⟩
     have Kz0 := endC.low kz0 ((Below.step BB sg.h)).size
     replace BB := Below.step BB hbg
     clear hbg hbx sg kz0
     replace hne := HW.some wg1
     refine wpM_two (i := 3) (j := 5) (by kernel_rfl) ?_ ?_
     ·skip
      refine mOp_call rfl (by go_simp) 21 _ #[.agg #[.int .i64 x1.1, .slice p12 x1.2.length q12]] (fun w => by go_simp) rfl ?_
      rintro _ ⟨sg, rfl⟩
      refine (toMsg_k x1 _ _ (msgC.keep (msgC.keep HR1.out BW) (Below.step BB sg.h)) (by omega)).mono ?_
      rintro e wg2 ⟨uz1, fz1, rfl, kz1, hbx⟩
      obtain ⟨pz1s2, qz1s2, es, -⟩ := msg_rep (msgC.toRep kz1)
      subst es
      have hbg := Below.step sg.h hbx
      refine ⟨_, rfl, ⟨⟨wg2, hbx⟩, rfl⟩, ?_⟩
      have Kz1 := msgC.low kz1 ((Below.step BB sg.h)).size
      replace Kz0 := endC.stay Kz0 hbg
      replace BB := Below.step BB hbg
      clear hbg hbx sg kz1
      replace hne := HW.some wg2
      refine wpM_two (i := 4) (j := 5) (by kernel_rfl) ?_ ?_
      ·skip
       refine mOp_call rfl (by go_simp) 20 _ #[.agg #[.int .i64 x0.1.1, .slice pz0s1_2 x0.1.2.1.length qz0s1_2, .int .i64 x0.1.2.2.1, .slice pz0s1_4 x0.1.2.2.2.length qz0s1_4, .int .i64 x0.2.1, .int .i64 x0.2.2.1, .slice pz0s4 x0.2.2.2.1.length qz0s4, .slice pz0s5 x0.2.2.2.2.1.length qz0s5, .slice pz0s6_1 x0.2.2.2.2.2.1.length qz0s6_1, .slice pz0s6_2 x0.2.2.2.2.2.2.1.length qz0s6_2, .slice pz0s6_3 x0.2.2.2.2.2.2.2.1.length qz0s6_3, .slice pz0s6_4 x0.2.2.2.2.2.2.2.2.length qz0s6_4], .agg #[.int .i64 x1.1, .slice pz1s2 x1.2.length qz1s2]] (fun w => by go_simp) rfl ?_
       rintro _ ⟨sg, rfl⟩
       refine (specHn_k x0 x1 _ _ _ (endC.toRep (endC.stay Kz0 sg.h)) (msgC.toRep (msgC.stay Kz1 sg.h))).mono ?_
       rintro e wg3 ⟨uss, fps, rfl, kas, hbx⟩
       obtain ⟨ps2_1_2, qs2_1_2, ps2_1_4, qs2_1_4, ps2_4, qs2_4, ps2_5, qs2_5, ps2_6_1, qs2_6_1, ps2_6_2, qs2_6_2, ps2_6_3, qs2_6_3, ps2_6_4, qs2_6_4, ps3, qs3, es, -, -, -, -, -, -, -, -, -⟩ := endResult_rep (endResultC.toRep kas)
       subst es
       have hbg := Below.step sg.h hbx
       refine ⟨_, rfl, ⟨⟨wg3, hbx⟩, rfl⟩, ?_⟩
       have KAs := endResultC.low kas ((Below.step BB sg.h)).size
       replace Kz0 := endC.stay Kz0 hbg
       replace Kz1 := msgC.stay Kz1 hbg
       replace BB := Below.step BB hbg
       clear hbg hbx sg kas
       replace hne := HW.some wg3
       refine wpM_only (i := 5) (by kernel_rfl) ?_
       refine mOp_make rfl (by go_simp) ?_
       rintro _ ⟨sg, rfl⟩
       refine ⟨.pointer (some ⟨sg.w.heap.size, 0, none⟩), sg.w.alloc (.cells #[.int .i64 0, .int .i64 0, .slice none 0 0, .int .i64 0, .slice none 0 0, .int .i64 0, .int .i64 0, .slice none 0 0, .slice none 0 0, .slice none 0 0, .slice none 0 0, .slice none 0 0, .slice none 0 0, .slice none 0 0] 38), by go_simp, ⟨⟨_, alloc_below _ _⟩, rfl⟩, ?_⟩
       have hbg := Below.step sg.h (alloc_below sg.w (.cells #[.int .i64 0, .int .i64 0, .slice none 0 0, .int .i64 0, .slice none 0 0, .int .i64 0, .int .i64 0, .slice none 0 0, .slice none 0 0, .slice none 0 0, .slice none 0 0, .slice none 0 0, .slice none 0 0, .slice none 0 0] 38))
       have AZs := Arr.new sg.w [.int .i64 0, .int .i64 0, .slice none 0 0, .int .i64 0, .slice none 0 0, .int .i64 0, .int .i64 0, .slice none 0 0, .slice none 0 0, .slice none 0 0, .slice none 0 0, .slice none 0 0, .slice none 0 0, .slice none 0 0] 38
       have GZs := (show Hid (w2.heap.size ≤ sg.w.heap.size) from (Below.step BB sg.h).size)
       have NEs := (show ∀ k, k ∈ fps → k ≠ sg.w.heap.size from fun k h e => by have h1 := (endResultC.ins KAs k h).2; have h2 := sg.h.size; omega)
       replace Kz0 := endC.stay Kz0 hbg
       replace Kz1 := msgC.stay Kz1 hbg
       replace KAs := endResultC.stay KAs hbg
       replace BB := Below.step BB hbg
       clear hbg
       replace hne := HW.some (sg.w.alloc (.cells #[.int .i64 0, .int .i64 0, .slice none 0 0, .int .i64 0, .slice none 0 0, .int .i64 0, .int .i64 0, .slice none 0 0, .slice none 0 0, .slice none 0 0, .slice none 0 0, .slice none 0 0, .slice none 0 0, .slice none 0 0] 38))
       generalize hW : (sg.w.alloc (.cells #[.int .i64 0, .int .i64 0, .slice none 0 0, .int .i64 0, .slice none 0 0, .int .i64 0, .int .i64 0, .slice none 0 0, .slice none 0 0, .slice none 0 0, .slice none 0 0, .slice none 0 0, .slice none 0 0, .slice none 0 0] 38)) = wg4 at *
       clear hW
       generalize sg.w.heap.size = gzs at *
       clear sg
       refine wpM_end (by kernel_rfl) rfl (by kernel_rfl) (by decide) ?_
       rintro _ ⟨sz, rfl⟩
       simp only [List.drop_succ_cons, List.drop_zero]
       go_simp
       replace Kz0 := endC.stay Kz0 sz.h
       replace Kz1 := msgC.stay Kz1 sz.h
       replace KAs := endResultC.stay KAs sz.h
       replace AZs := AZs.stay sz.h
       replace BB := Below.step BB sz.h
       clear hne
       generalize sz.w = Ws at *
       clear sz
       revert NEs
       revert GZs
       revert AZs
       revert KAs
       revert Kz1
       revert Kz0
       revert BB
       revert gzs
       revert qs3
       revert ps3
       revert qs2_6_4
       revert ps2_6_4
       revert qs2_6_3
       revert ps2_6_3
       revert qs2_6_2
       revert ps2_6_2
       revert qs2_6_1
       revert ps2_6_1
       revert qs2_5
       revert ps2_5
       revert qs2_4
       revert ps2_4
       revert qs2_1_4
       revert ps2_1_4
       revert qs2_1_2
       revert ps2_1_2
       revert fps
       revert qz1s2
       revert pz1s2
       revert fz1
       revert qz0s6_4
       revert pz0s6_4
       revert qz0s6_3
       revert pz0s6_3
       revert qz0s6_2
       revert pz0s6_2
       revert qz0s6_1
       revert pz0s6_1
       revert qz0s5
       revert pz0s5
       revert qz0s4
       revert pz0s4
       revert qz0s1_4
       revert pz0s1_4
       revert qz0s1_2
       revert pz0s1_2
       revert fz0
       revert Ws
       exact JN.out
      ·skip
       refine mOp_make rfl (by go_simp) ?_
       rintro _ ⟨sg, rfl⟩
       refine ⟨.pointer (some ⟨sg.w.heap.size, 0, none⟩), sg.w.alloc (.cells #[.int .i64 0, .int .i64 0, .slice none 0 0, .int .i64 0, .slice none 0 0, .int .i64 0, .int .i64 0, .slice none 0 0, .slice none 0 0, .slice none 0 0, .slice none 0 0, .slice none 0 0, .slice none 0 0, .slice none 0 0] 38), by go_simp, ⟨⟨_, alloc_below _ _⟩, rfl⟩, ?_⟩
       have hbg := Below.step sg.h (alloc_below sg.w (.cells #[.int .i64 0, .int .i64 0, .slice none 0 0, .int .i64 0, .slice none 0 0, .int .i64 0, .int .i64 0, .slice none 0 0, .slice none 0 0, .slice none 0 0, .slice none 0 0, .slice none 0 0, .slice none 0 0, .slice none 0 0] 38))
       have AZs := Arr.new sg.w [.int .i64 0, .int .i64 0, .slice none 0 0, .int .i64 0, .slice none 0 0, .int .i64 0, .int .i64 0, .slice none 0 0, .slice none 0 0, .slice none 0 0, .slice none 0 0, .slice none 0 0, .slice none 0 0, .slice none 0 0] 38
       have GZs := (show Hid (w2.heap.size ≤ sg.w.heap.size) from (Below.step BB sg.h).size)
       replace Kz0 := endC.stay Kz0 hbg
       replace Kz1 := msgC.stay Kz1 hbg
       replace BB := Below.step BB hbg
       clear hbg
       replace hne := HW.some (sg.w.alloc (.cells #[.int .i64 0, .int .i64 0, .slice none 0 0, .int .i64 0, .slice none 0 0, .int .i64 0, .int .i64 0, .slice none 0 0, .slice none 0 0, .slice none 0 0, .slice none 0 0, .slice none 0 0, .slice none 0 0, .slice none 0 0] 38))
       generalize hW : (sg.w.alloc (.cells #[.int .i64 0, .int .i64 0, .slice none 0 0, .int .i64 0, .slice none 0 0, .int .i64 0, .int .i64 0, .slice none 0 0, .slice none 0 0, .slice none 0 0, .slice none 0 0, .slice none 0 0, .slice none 0 0, .slice none 0 0] 38)) = wg5 at *
       clear hW
       generalize sg.w.heap.size = gzs at *
       clear sg
       refine wpM_only (i := 4) (by kernel_rfl) ?_
       refine mOp_call rfl (by go_simp) 20 _ #[.agg #[.int .i64 x0.1.1, .slice pz0s1_2 x0.1.2.1.length qz0s1_2, .int .i64 x0.1.2.2.1, .slice pz0s1_4 x0.1.2.2.2.length qz0s1_4, .int .i64 x0.2.1, .int .i64 x0.2.2.1, .slice pz0s4 x0.2.2.2.1.length qz0s4, .slice pz0s5 x0.2.2.2.2.1.length qz0s5, .slice pz0s6_1 x0.2.2.2.2.2.1.length qz0s6_1, .slice pz0s6_2 x0.2.2.2.2.2.2.1.length qz0s6_2, .slice pz0s6_3 x0.2.2.2.2.2.2.2.1.length qz0s6_3, .slice pz0s6_4 x0.2.2.2.2.2.2.2.2.length qz0s6_4], .agg #[.int .i64 x1.1, .slice pz1s2 x1.2.length qz1s2]] (fun w => by go_simp) rfl ?_
       rintro _ ⟨sg, rfl⟩
       refine (specHn_k x0 x1 _ _ _ (endC.toRep (endC.stay Kz0 sg.h)) (msgC.toRep (msgC.stay Kz1 sg.h))).mono ?_
       rintro e wg6 ⟨uss, fps, rfl, kas, hbx⟩
       obtain ⟨ps2_1_2, qs2_1_2, ps2_1_4, qs2_1_4, ps2_4, qs2_4, ps2_5, qs2_5, ps2_6_1, qs2_6_1, ps2_6_2, qs2_6_2, ps2_6_3, qs2_6_3, ps2_6_4, qs2_6_4, ps3, qs3, es, -, -, -, -, -, -, -, -, -⟩ := endResult_rep (endResultC.toRep kas)
       subst es
       have hbg := Below.step sg.h hbx
       refine ⟨_, rfl, ⟨⟨wg6, hbx⟩, rfl⟩, ?_⟩
       have KAs := endResultC.low kas ((Below.step BB sg.h)).size
       have NEs := (show ∀ k, k ∈ fps → k ≠ gzs from fun k h e => by have h1 := (endResultC.ins kas k h).1; have h2 := AZs.lt; have h3 := sg.h.size; omega)
       replace Kz0 := endC.stay Kz0 hbg
       replace Kz1 := msgC.stay Kz1 hbg
       replace AZs := AZs.stay hbg
       replace BB := Below.step BB hbg
       clear hbg hbx sg kas
       replace hne := HW.some wg6
       refine wpM_end (by kernel_rfl) rfl (by kernel_rfl) (by decide) ?_
       rintro _ ⟨sz, rfl⟩
       simp only [List.drop_succ_cons, List.drop_zero]
       go_simp
       replace Kz0 := endC.stay Kz0 sz.h
       replace Kz1 := msgC.stay Kz1 sz.h
       replace AZs := AZs.stay sz.h
       replace KAs := endResultC.stay KAs sz.h
       replace BB := Below.step BB sz.h
       clear hne
       generalize sz.w = Ws at *
       clear sz
       revert NEs
       revert GZs
       revert AZs
       revert KAs
       revert Kz1
       revert Kz0
       revert BB
       revert gzs
       revert qs3
       revert ps3
       revert qs2_6_4
       revert ps2_6_4
       revert qs2_6_3
       revert ps2_6_3
       revert qs2_6_2
       revert ps2_6_2
       revert qs2_6_1
       revert ps2_6_1
       revert qs2_5
       revert ps2_5
       revert qs2_4
       revert ps2_4
       revert qs2_1_4
       revert ps2_1_4
       revert qs2_1_2
       revert ps2_1_2
       revert fps
       revert qz1s2
       revert pz1s2
       revert fz1
       revert qz0s6_4
       revert pz0s6_4
       revert qz0s6_3
       revert pz0s6_3
       revert qz0s6_2
       revert pz0s6_2
       revert qz0s6_1
       revert pz0s6_1
       revert qz0s5
       revert pz0s5
       revert qz0s4
       revert pz0s4
       revert qz0s1_4
       revert pz0s1_4
       revert qz0s1_2
       revert pz0s1_2
       revert fz0
       revert Ws
       exact JN.out
     ·skip
      refine mOp_make rfl (by go_simp) ?_
      rintro _ ⟨sg, rfl⟩
      refine ⟨.pointer (some ⟨sg.w.heap.size, 0, none⟩), sg.w.alloc (.cells #[.int .i64 0, .int .i64 0, .slice none 0 0, .int .i64 0, .slice none 0 0, .int .i64 0, .int .i64 0, .slice none 0 0, .slice none 0 0, .slice none 0 0, .slice none 0 0, .slice none 0 0, .slice none 0 0, .slice none 0 0] 38), by go_simp, ⟨⟨_, alloc_below _ _⟩, rfl⟩, ?_⟩
      have hbg := Below.step sg.h (alloc_below sg.w (.cells #[.int .i64 0, .int .i64 0, .slice none 0 0, .int .i64 0, .slice none 0 0, .int .i64 0, .int .i64 0, .slice none 0 0, .slice none 0 0, .slice none 0 0, .slice none 0 0, .slice none 0 0, .slice none 0 0, .slice none 0 0] 38))
      have AZs := Arr.new sg.w [.int .i64 0, .int .i64 0, .slice none 0 0, .int .i64 0, .slice none 0 0, .int .i64 0, .int .i64 0, .slice none 0 0, .slice none 0 0, .slice none 0 0, .slice none 0 0, .slice none 0 0, .slice none 0 0, .slice none 0 0] 38
      have GZs := (show Hid (w2.heap.size ≤ sg.w.heap.size) from (Below.step BB sg.h).size)
      replace Kz0 := endC.stay Kz0 hbg
      replace BB := Below.step BB hbg
      clear hbg
      replace hne := HW.some (sg.w.alloc (.cells #[.int .i64 0, .int .i64 0, .slice none 0 0, .int .i64 0, .slice none 0 0, .int .i64 0, .int .i64 0, .slice none 0 0, .slice none 0 0, .slice none 0 0, .slice none 0 0, .slice none 0 0, .slice none 0 0, .slice none 0 0] 38))
      generalize hW : (sg.w.alloc (.cells #[.int .i64 0, .int .i64 0, .slice none 0 0, .int .i64 0, .slice none 0 0, .int .i64 0, .int .i64 0, .slice none 0 0, .slice none 0 0, .slice none 0 0, .slice none 0 0, .slice none 0 0, .slice none 0 0, .slice none 0 0] 38)) = wg7 at *
      clear hW
      generalize sg.w.heap.size = gzs at *
      clear sg
      refine wpM_only (i := 3) (by kernel_rfl) ?_
      refine mOp_call rfl (by go_simp) 21 _ #[.agg #[.int .i64 x1.1, .slice p12 x1.2.length q12]] (fun w => by go_simp) rfl ?_
      rintro _ ⟨sg, rfl⟩
      refine (toMsg_k x1 _ _ (msgC.keep (msgC.keep HR1.out BW) (Below.step BB sg.h)) (by omega)).mono ?_
      rintro e wg8 ⟨uz1, fz1, rfl, kz1, hbx⟩
      obtain ⟨pz1s2, qz1s2, es, -⟩ := msg_rep (msgC.toRep kz1)
      subst es
      have hbg := Below.step sg.h hbx
      refine ⟨_, rfl, ⟨⟨wg8, hbx⟩, rfl⟩, ?_⟩
      have Kz1 := msgC.low kz1 ((Below.step BB sg.h)).size
      replace Kz0 := endC.stay Kz0 hbg
      replace AZs := AZs.stay hbg
      replace BB := Below.step BB hbg
      clear hbg hbx sg kz1
      replace hne := HW.some wg8
      refine wpM_only (i := 4) (by kernel_rfl) ?_
      refine mOp_call rfl (by go_simp) 20 _ #[.agg #[.int .i64 x0.1.1, .slice pz0s1_2 x0.1.2.1.length qz0s1_2, .int .i64 x0.1.2.2.1, .slice pz0s1_4 x0.1.2.2.2.length qz0s1_4, .int .i64 x0.2.1, .int .i64 x0.2.2.1, .slice pz0s4 x0.2.2.2.1.length qz0s4, .slice pz0s5 x0.2.2.2.2.1.length qz0s5, .slice pz0s6_1 x0.2.2.2.2.2.1.length qz0s6_1, .slice pz0s6_2 x0.2.2.2.2.2.2.1.length qz0s6_2, .slice pz0s6_3 x0.2.2.2.2.2.2.2.1.length qz0s6_3, .slice pz0s6_4 x0.2.2.2.2.2.2.2.2.length qz0s6_4], .agg #[.int .i64 x1.1, .slice pz1s2 x1.2.length qz1s2]] (fun w => by go_simp) rfl ?_
      rintro _ ⟨sg, rfl⟩
      refine (specHn_k x0 x1 _ _ _ (endC.toRep (endC.stay Kz0 sg.h)) (msgC.toRep (msgC.stay Kz1 sg.h))).mono ?_
      rintro e wg9 ⟨uss, fps, rfl, kas, hbx⟩
      obtain ⟨ps2_1_2, qs2_1_2, ps2_1_4, qs2_1_4, ps2_4, qs2_4, ps2_5, qs2_5, ps2_6_1, qs2_6_1, ps2_6_2, qs2_6_2, ps2_6_3, qs2_6_3, ps2_6_4, qs2_6_4, ps3, qs3, es, -, -, -, -, -, -, -, -, -⟩ := endResult_rep (endResultC.toRep kas)
      subst es
      have hbg := Below.step sg.h hbx
      refine ⟨_, rfl, ⟨⟨wg9, hbx⟩, rfl⟩, ?_⟩
      have KAs := endResultC.low kas ((Below.step BB sg.h)).size
      have NEs := (show ∀ k, k ∈ fps → k ≠ gzs from fun k h e => by have h1 := (endResultC.ins kas k h).1; have h2 := AZs.lt; have h3 := sg.h.size; omega)
      replace Kz0 := endC.stay Kz0 hbg
      replace AZs := AZs.stay hbg
      replace Kz1 := msgC.stay Kz1 hbg
      replace BB := Below.step BB hbg
      clear hbg hbx sg kas
      replace hne := HW.some wg9
      refine wpM_end (by kernel_rfl) rfl (by kernel_rfl) (by decide) ?_
      rintro _ ⟨sz, rfl⟩
      simp only [List.drop_succ_cons, List.drop_zero]
      go_simp
      replace Kz0 := endC.stay Kz0 sz.h
      replace AZs := AZs.stay sz.h
      replace Kz1 := msgC.stay Kz1 sz.h
      replace KAs := endResultC.stay KAs sz.h
      replace BB := Below.step BB sz.h
      clear hne
      generalize sz.w = Ws at *
      clear sz
      revert NEs
      revert GZs
      revert AZs
      revert KAs
      revert Kz1
      revert Kz0
      revert BB
      revert gzs
      revert qs3
      revert ps3
      revert qs2_6_4
      revert ps2_6_4
      revert qs2_6_3
      revert ps2_6_3
      revert qs2_6_2
      revert ps2_6_2
      revert qs2_6_1
      revert ps2_6_1
      revert qs2_5
      revert ps2_5
      revert qs2_4
      revert ps2_4
      revert qs2_1_4
      revert ps2_1_4
      revert qs2_1_2
      revert ps2_1_2
      revert fps
      revert qz1s2
      revert pz1s2
      revert fz1
      revert qz0s6_4
      revert pz0s6_4
      revert qz0s6_3
      revert pz0s6_3
      revert qz0s6_2
      revert pz0s6_2
      revert qz0s6_1
      revert pz0s6_1
      revert qz0s5
      revert pz0s5
      revert qz0s4
      revert pz0s4
      revert qz0s1_4
      revert pz0s1_4
      revert qz0s1_2
      revert pz0s1_2
      revert fz0
      revert Ws
      exact JN.out
    ·skip
     refine mOp_make rfl (by go_simp) ?_
     rintro _ ⟨sg, rfl⟩
     refine ⟨.pointer (some ⟨sg.w.heap.size, 0, none⟩), sg.w.alloc (.cells #[.int .i64 0, .int .i64 0, .slice none 0 0, .int .i64 0, .slice none 0 0, .int .i64 0, .int .i64 0, .slice none 0 0, .slice none 0 0, .slice none 0 0, .slice none 0 0, .slice none 0 0, .slice none 0 0, .slice none 0 0] 38), by go_simp, ⟨⟨_, alloc_below _ _⟩, rfl⟩, ?_⟩
     have hbg := Below.step sg.h (alloc_below sg.w (.cells #[.int .i64 0, .int .i64 0, .slice none 0 0, .int .i64 0, .slice none 0 0, .int .i64 0, .int .i64 0, .slice none 0 0, .slice none 0 0, .slice none 0 0, .slice none 0 0, .slice none 0 0, .slice none 0 0, .slice none 0 0] 38))
     have AZs := Arr.new sg.w [.int .i64 0, .int .i64 0, .slice none 0 0, .int .i64 0, .slice none 0 0, .int .i64 0, .int .i64 0, .slice none 0 0, .slice none 0 0, .slice none 0 0, .slice none 0 0, .slice none 0 0, .slice none 0 0, .slice none 0 0] 38
     have GZs := (show Hid (w2.heap.size ≤ sg.w.heap.size) from (Below.step BB sg.h).size)
     replace BB := Below.step BB hbg
     clear hbg
     replace hne := HW.some (sg.w.alloc (.cells #[.int .i64 0, .int .i64 0, .slice none 0 0, .int .i64 0, .slice none 0 0, .int .i64 0, .int .i64 0, .slice none 0 0, .slice none 0 0, .slice none 0 0, .slice none 0 0, .slice none 0 0, .slice none 0 0, .slice none 0 0] 38))
     generalize hW : (sg.w.alloc (.cells #[.int .i64 0, .int .i64 0, .slice none 0 0, .int .i64 0, .slice none 0 0, .int .i64 0, .int .i64 0, .slice none 0 0, .slice none 0 0, .slice none 0 0, .slice none 0 0, .slice none 0 0, .slice none 0 0, .slice none 0 0] 38)) = wg10 at *
     clear hW
     generalize sg.w.heap.size = gzs at *
     clear sg
     refine wpM_only (i := 1) (by kernel_rfl) ?_
     refine mOp_call rfl (by go_simp) 9 _ #[.agg #[.int .i64 x0.1.1, .slice p01_2 x0.1.2.1.length q01_2, .int .i64 x0.1.2.2.1, .slice p01_4 x0.1.2.2.2.length q01_4, .int .i64 x0.2.1, .int .i64 x0.2.2.1, .slice p04 x0.2.2.2.1.length q04, .slice p05 x0.2.2.2.2.1.length q05, .slice p06_1 x0.2.2.2.2.2.1.length q06_1, .slice p06_2 x0.2.2.2.2.2.2.1.length q06_2, .slice p06_3 x0.2.2.2.2.2.2.2.1.length q06_3, .slice p06_4 x0.2.2.2.2.2.2.2.2.length q06_4]] (fun w => by go_simp) rfl ?_
     rintro _ ⟨sg, rfl⟩
     refine (toEnd_k x0 _ _ (endC.keep (endC.keep HR0.out BW) (Below.step BB sg.h)) (by omega)).mono ?_
     rintro e wg11 ⟨uz0, fz0, rfl, kz0, hbx⟩
     obtain ⟨pz0s1_2, qz0s1_2, pz0s1_4, qz0s1_4, pz0s4, qz0s4, pz0s5, qz0s5, pz0s6_1, qz0s6_1, pz0s6_2, qz0s6_2, pz0s6_3, qz0s6_3, pz0s6_4, qz0s6_4, es, -, -, -, -, -, -, -, -⟩ := end_rep (endC.toRep kz0)
     subst es
     have hbg := Below.step sg.h hbx
     refine ⟨_, rfl, ⟨⟨wg11, hbx⟩, rfl⟩, ?_⟩
     have Kz0 := endC.low kz0 ((Below.step BB sg.h)).size
     replace AZs := AZs.stay hbg
     replace BB := Below.step BB hbg
     clear hbg hbx sg kz0
     replace hne := HW.some wg11
     refine wpM_only (i := 3) (by kernel_rfl) ?_
     refine mOp_call rfl (by go_simp) 21 _ #[.agg #[.int .i64 x1.1, .slice p12 x1.2.length q12]] (fun w => by go_simp) rfl ?_
     rintro _ ⟨sg, rfl⟩
     refine (toMsg_k x1 _ _ (msgC.keep (msgC.keep HR1.out BW) (Below.step BB sg.h)) (by omega)).mono ?_
     rintro e wg12 ⟨uz1, fz1, rfl, kz1, hbx⟩
     obtain ⟨pz1s2, qz1s2, es, -⟩ := msg_rep (msgC.toRep kz1)
     subst es
     have hbg := Below.step sg.h hbx
     refine ⟨_, rfl, ⟨⟨wg12, hbx⟩, rfl⟩, ?_⟩
     have Kz1 := msgC.low kz1 ((Below.step BB sg.h)).size
     replace AZs := AZs.stay hbg
     replace Kz0 := endC.stay Kz0 hbg
     replace BB := Below.step BB hbg
     clear hbg hbx sg kz1
     replace hne := HW.some wg12
     refine wpM_only (i := 4) (by kernel_rfl) ?_
     refine mOp_call rfl (by go_simp) 20 _ #[.agg #[.int .i64 x0.1.1, .slice pz0s1_2 x0.1.2.1.length qz0s1_2, .int .i64 x0.1.2.2.1, .slice pz0s1_4 x0.1.2.2.2.length qz0s1_4, .int .i64 x0.2.1, .int .i64 x0.2.2.1, .slice pz0s4 x0.2.2.2.1.length qz0s4, .slice pz0s5 x0.2.2.2.2.1.length qz0s5, .slice pz0s6_1 x0.2.2.2.2.2.1.length qz0s6_1, .slice pz0s6_2 x0.2.2.2.2.2.2.1.length qz0s6_2, .slice pz0s6_3 x0.2.2.2.2.2.2.2.1.length qz0s6_3, .slice pz0s6_4 x0.2.2.2.2.2.2.2.2.length qz0s6_4], .agg #[.int .i64 x1.1, .slice pz1s2 x1.2.length qz1s2]] (fun w => by go_simp) rfl ?_
     rintro _ ⟨sg, rfl⟩
     refine (specHn_k x0 x1 _ _ _ (endC.toRep (endC.stay Kz0 sg.h)) (msgC.toRep (msgC.stay Kz1 sg.h))).mono ?_
     rintro e wg13 ⟨uss, fps, rfl, kas, hbx⟩
     obtain ⟨ps2_1_2, qs2_1_2, ps2_1_4, qs2_1_4, ps2_4, qs2_4, ps2_5, qs2_5, ps2_6_1, qs2_6_1, ps2_6_2, qs2_6_2, ps2_6_3, qs2_6_3, ps2_6_4, qs2_6_4, ps3, qs3, es, -, -, -, -, -, -, -, -, -⟩ := endResult_rep (endResultC.toRep kas)
     subst es
     have hbg := Below.step sg.h hbx
     refine ⟨_, rfl, ⟨⟨wg13, hbx⟩, rfl⟩, ?_⟩
     have KAs := endResultC.low kas ((Below.step BB sg.h)).size
     have NEs := (show ∀ k, k ∈ fps → k ≠ gzs from fun k h e => by have h1 := (endResultC.ins kas k h).1; have h2 := AZs.lt; have h3 := sg.h.size; omega)
     replace AZs := AZs.stay hbg
     replace Kz0 := endC.stay Kz0 hbg
     replace Kz1 := msgC.stay Kz1 hbg
     replace BB := Below.step BB hbg
     clear hbg hbx sg kas
     replace hne := HW.some wg13
     refine wpM_end (by kernel_rfl) rfl (by kernel_rfl) (by decide) ?_
     rintro _ ⟨sz, rfl⟩
     simp only [List.drop_succ_cons, List.drop_zero]
     go_simp
     replace AZs := AZs.stay sz.h
     replace Kz0 := endC.stay Kz0 sz.h
     replace Kz1 := msgC.stay Kz1 sz.h
     replace KAs := endResultC.stay KAs sz.h
     replace BB := Below.step BB sz.h
     clear hne
     generalize sz.w = Ws at *
     clear sz
     revert NEs
     revert GZs
     revert AZs
     revert KAs
     revert Kz1
     revert Kz0
     revert BB
     revert gzs
     revert qs3
     revert ps3
     revert qs2_6_4
     revert ps2_6_4
     revert qs2_6_3
     revert ps2_6_3
     revert qs2_6_2
     revert ps2_6_2
     revert qs2_6_1
     revert ps2_6_1
     revert qs2_5
     revert ps2_5
     revert qs2_4
     revert ps2_4
     revert qs2_1_4
     revert ps2_1_4
     revert qs2_1_2
     revert ps2_1_2
     revert fps
     revert qz1s2
     revert pz1s2
     revert fz1
     revert qz0s6_4
     revert pz0s6_4
     revert qz0s6_3
     revert pz0s6_3
     revert qz0s6_2
     revert pz0s6_2
     revert qz0s6_1
     revert pz0s6_1
     revert qz0s5
     revert pz0s5
     revert qz0s4
     revert pz0s4
     revert qz0s1_4
     revert pz0s1_4
     revert qz0s1_2
     revert pz0s1_2
     revert fz0
     revert Ws
     exact JN.out
   intro Ws fz0 pz0s1_2 qz0s1_2 pz0s1_4 qz0s1_4 pz0s4 qz0s4 pz0s5 qz0s5 pz0s6_1 qz0s6_1 pz0s6_2 qz0s6_2 pz0s6_3 qz0s6_3 pz0s6_4 qz0s6_4 fz1 pz1s2 qz1s2 fps ps2_1_2 qs2_1_2 ps2_1_4 qs2_1_4 ps2_4 qs2_4 ps2_5 qs2_5 ps2_6_1 qs2_6_1 ps2_6_2 qs2_6_2 ps2_6_3 qs2_6_3 ps2_6_4 qs2_6_4 ps3 qs3 gzs BB Kz0 Kz1 KAs AZs GZs NEs
   have hress : Hid ((Tryz.prog.info? 38).map (·.size) = some 14) := by show _ = _; kernel_rfl
   refine wpList_store_row rfl 38 _ _ rfl gzs #[.int .i64 (hnE x0 x1).1, .int .i64 (hnE x0 x1).2.1.1.1, .slice ps2_1_2 (hnE x0 x1).2.1.1.2.1.length qs2_1_2, .int .i64 (hnE x0 x1).2.1.1.2.2.1, .slice ps2_1_4 (hnE x0 x1).2.1.1.2.2.2.length qs2_1_4, .int .i64 (hnE x0 x1).2.1.2.1, .int .i64 (hnE x0 x1).2.1.2.2.1, .slice ps2_4 (hnE x0 x1).2.1.2.2.2.1.length qs2_4, .slice ps2_5 (hnE x0 x1).2.1.2.2.2.2.1.length qs2_5, .slice ps2_6_1 (hnE x0 x1).2.1.2.2.2.2.2.1.length qs2_6_1, .slice ps2_6_2 (hnE x0 x1).2.1.2.2.2.2.2.2.1.length qs2_6_2, .slice ps2_6_3 (hnE x0 x1).2.1.2.2.2.2.2.2.2.1.length qs2_6_3, .slice ps2_6_4 (hnE x0 x1).2.1.2.2.2.2.2.2.2.2.length qs2_6_4, .slice ps3 (hnE x0 x1).2.2.length qs3] rfl rfl 38 #[.int .i64 0, .int .i64 0, .slice none 0 0, .int .i64 0, .slice none 0 0, .int .i64 0, .int .i64 0, .slice none 0 0, .slice none 0 0, .slice none 0 0, .slice none 0 0, .slice none 0 0, .slice none 0 0, .slice none 0 0] AZs hress.out rfl (by simp [Value.oneCell']) ?_
   have A2s := (Loc.arr (AZs.row [.int .i64 (hnE x0 x1).1, .int .i64 (hnE x0 x1).2.1.1.1, .slice ps2_1_2 (hnE x0 x1).2.1.1.2.1.length qs2_1_2, .int .i64 (hnE x0 x1).2.1.1.2.2.1, .slice ps2_1_4 (hnE x0 x1).2.1.1.2.2.2.length qs2_1_4, .int .i64 (hnE x0 x1).2.1.2.1, .int .i64 (hnE x0 x1).2.1.2.2.1, .slice ps2_4 (hnE x0 x1).2.1.2.2.2.1.length qs2_4, .slice ps2_5 (hnE x0 x1).2.1.2.2.2.2.1.length qs2_5, .slice ps2_6_1 (hnE x0 x1).2.1.2.2.2.2.2.1.length qs2_6_1, .slice ps2_6_2 (hnE x0 x1).2.1.2.2.2.2.2.2.1.length qs2_6_2, .slice ps2_6_3 (hnE x0 x1).2.1.2.2.2.2.2.2.2.1.length qs2_6_3, .slice ps2_6_4 (hnE x0 x1).2.1.2.2.2.2.2.2.2.2.length qs2_6_4, .slice ps3 (hnE x0 x1).2.2.length qs3])).1
   have hb3 : Below w2.heap.size w2 (Ws.setRow gzs #[.int .i64 (hnE x0 x1).1, .int .i64 (hnE x0 x1).2.1.1.1, .slice ps2_1_2 (hnE x0 x1).2.1.1.2.1.length qs2_1_2, .int .i64 (hnE x0 x1).2.1.1.2.2.1, .slice ps2_1_4 (hnE x0 x1).2.1.1.2.2.2.length qs2_1_4, .int .i64 (hnE x0 x1).2.1.2.1, .int .i64 (hnE x0 x1).2.1.2.2.1, .slice ps2_4 (hnE x0 x1).2.1.2.2.2.1.length qs2_4, .slice ps2_5 (hnE x0 x1).2.1.2.2.2.2.1.length qs2_5, .slice ps2_6_1 (hnE x0 x1).2.1.2.2.2.2.2.1.length qs2_6_1, .slice ps2_6_2 (hnE x0 x1).2.1.2.2.2.2.2.2.1.length qs2_6_2, .slice ps2_6_3 (hnE x0 x1).2.1.2.2.2.2.2.2.2.1.length qs2_6_3, .slice ps2_6_4 (hnE x0 x1).2.1.2.2.2.2.2.2.2.2.length qs2_6_4, .slice ps3 (hnE x0 x1).2.2.length qs3]) := Below.row BB GZs.out _
   replace KAs := endResultC.row KAs NEs #[.int .i64 (hnE x0 x1).1, .int .i64 (hnE x0 x1).2.1.1.1, .slice ps2_1_2 (hnE x0 x1).2.1.1.2.1.length qs2_1_2, .int .i64 (hnE x0 x1).2.1.1.2.2.1, .slice ps2_1_4 (hnE x0 x1).2.1.1.2.2.2.length qs2_1_4, .int .i64 (hnE x0 x1).2.1.2.1, .int .i64 (hnE x0 x1).2.1.2.2.1, .slice ps2_4 (hnE x0 x1).2.1.2.2.2.1.length qs2_4, .slice ps2_5 (hnE x0 x1).2.1.2.2.2.2.1.length qs2_5, .slice ps2_6_1 (hnE x0 x1).2.1.2.2.2.2.2.1.length qs2_6_1, .slice ps2_6_2 (hnE x0 x1).2.1.2.2.2.2.2.2.1.length qs2_6_2, .slice ps2_6_3 (hnE x0 x1).2.1.2.2.2.2.2.2.2.1.length qs2_6_3, .slice ps2_6_4 (hnE x0 x1).2.1.2.2.2.2.2.2.2.2.length qs2_6_4, .slice ps3 (hnE x0 x1).2.2.length qs3]
   have GLs : Hid (w2.heap.size ≤ gzs) := GZs.out
   have ZLs : gzs < Ws.heap.size := AZs.lt
   have SZs : (Ws.setRow gzs #[.int .i64 (hnE x0 x1).1, .int .i64 (hnE x0 x1).2.1.1.1, .slice ps2_1_2 (hnE x0 x1).2.1.1.2.1.length qs2_1_2, .int .i64 (hnE x0 x1).2.1.1.2.2.1, .slice ps2_1_4 (hnE x0 x1).2.1.1.2.2.2.length qs2_1_4, .int .i64 (hnE x0 x1).2.1.2.1, .int .i64 (hnE x0 x1).2.1.2.2.1, .slice ps2_4 (hnE x0 x1).2.1.2.2.2.1.length qs2_4, .slice ps2_5 (hnE x0 x1).2.1.2.2.2.2.1.length qs2_5, .slice ps2_6_1 (hnE x0 x1).2.1.2.2.2.2.2.1.length qs2_6_1, .slice ps2_6_2 (hnE x0 x1).2.1.2.2.2.2.2.2.1.length qs2_6_2, .slice ps2_6_3 (hnE x0 x1).2.1.2.2.2.2.2.2.2.1.length qs2_6_3, .slice ps2_6_4 (hnE x0 x1).2.1.2.2.2.2.2.2.2.2.length qs2_6_4, .slice ps3 (hnE x0 x1).2.2.length qs3]).heap.size = Ws.heap.size := size_setRow _ _ _
   clear BB AZs GZs NEs Kz0 Kz1
   generalize Ws.setRow gzs #[.int .i64 (hnE x0 x1).1, .int .i64 (hnE x0 x1).2.1.1.1, .slice ps2_1_2 (hnE x0 x1).2.1.1.2.1.length qs2_1_2, .int .i64 (hnE x0 x1).2.1.1.2.2.1, .slice ps2_1_4 (hnE x0 x1).2.1.1.2.2.2.length qs2_1_4, .int .i64 (hnE x0 x1).2.1.2.1, .int .i64 (hnE x0 x1).2.1.2.2.1, .slice ps2_4 (hnE x0 x1).2.1.2.2.2.1.length qs2_4, .slice ps2_5 (hnE x0 x1).2.1.2.2.2.2.1.length qs2_5, .slice ps2_6_1 (hnE x0 x1).2.1.2.2.2.2.2.1.length qs2_6_1, .slice ps2_6_2 (hnE x0 x1).2.1.2.2.2.2.2.2.1.length qs2_6_2, .slice ps2_6_3 (hnE x0 x1).2.1.2.2.2.2.2.2.2.1.length qs2_6_3, .slice ps2_6_4 (hnE x0 x1).2.1.2.2.2.2.2.2.2.2.length qs2_6_4, .slice ps3 (hnE x0 x1).2.2.length qs3] = w3 at *
   rw [← SZs] at ZLs
   clear SZs
   have gks : Hid (∀ k, k ∈ fps → w2.heap.size ≤ k ∧ k < w3.heap.size) := fun k hk => endResultC.ins KAs k hk
   have ks := (Cod.own.win KAs (Nat.le_refl _) gks.out)
   have sA := Win.wide (Has.win A2s) GLs.out ZLs (Nat.le_refl _)
   clear KAs A2s GLs ZLs hress
   have z3 : Hid (w2.heap.size ≤ w3.heap.size) := hb3.size
   replace sP0 := sP0.stay hb3
   replace sP1 := sP1.stay hb3
   replace BW := Below.step BW hb3
   clear hb3
   go_simp
   have csP00 := sP0.now 0 _ rfl
   have csP01 := sP0.now 1 _ rfl
   have csP02 := sP0.now 2 _ rfl
   have csP03 := sP0.now 3 _ rfl
   have csP04 := sP0.now 4 _ rfl
   have csP05 := sP0.now 5 _ rfl
   have csP06 := sP0.now 6 _ rfl
   have csP07 := sP0.now 7 _ rfl
   have csP08 := sP0.now 8 _ rfl
   have csP09 := sP0.now 9 _ rfl
   have csP010 := sP0.now 10 _ rfl
   have csP011 := sP0.now 11 _ rfl
   have zsP0 := Has.lt sP0.now
   go_wp2_with fail
   refine (toEnd_k x0 _ _ (endC.keep HR0.out BW) (by omega)).mono ?_
   rintro e w4 ⟨us0, fp0, rfl, k0, hb4⟩
   obtain ⟨pc01_2, qc01_2, pc01_4, qc01_4, pc04, qc04, pc05, qc05, pc06_1, qc06_1, pc06_2, qc06_2, pc06_3, qc06_3, pc06_4, qc06_4, es, -, -, -, -, -, -, -, -⟩ := end_rep (endC.toRep k0)
   subst es
   have gk0 : Hid (∀ k, k ∈ _ → w3.heap.size ≤ k ∧ k < w4.heap.size) := fun k hk => ⟨by have h := (k0.ins k hk).1; exact h, (k0.ins k hk).2⟩
   replace k0 := k0.win (Nat.le_refl _) gk0.out
   have z4 : Hid (w3.heap.size ≤ w4.heap.size) := hb4.size
   replace sP0 := sP0.stay hb4
   replace sP1 := sP1.stay hb4
   replace ks := ks.stay hb4
   replace sA := sA.stay hb4
   replace BW := Below.step BW hb4
   clear hb4 csP00 csP01 csP02 csP03 csP04 csP05 csP06 csP07 csP08 csP09 csP010 csP011 zsP0
   have csP10 := sP1.now 0 _ rfl
   have csP11 := sP1.now 1 _ rfl
   have zsP1 := Has.lt sP1.now
   go_wp2_with fail
   refine (toMsg_k x1 _ _ (msgC.keep (msgC.keep HR1.out BW) (alloc_below _ _)) (by omega)).mono ?_
   rintro e w5 ⟨us1, fp1, rfl, k1, hb5⟩
   obtain ⟨pc12, qc12, es, -⟩ := msg_rep (msgC.toRep k1)
   subst es
   have gk1 : Hid (∀ k, k ∈ _ → (w4.heap.size + 1) ≤ k ∧ k < w5.heap.size) := fun k hk => ⟨by have h := (k1.ins k hk).1; rw [size_alloc] at h; exact h, (k1.ins k hk).2⟩
   replace k1 := k1.win (Nat.le_refl _) gk1.out
   have sX0 := (Has.new hb5).win
   have z5 : Hid (w4.heap.size + 1 ≤ w5.heap.size) := size_lt hb5
   replace hb5 := Below.res hb5
   replace sP0 := sP0.stay hb5
   replace sP1 := sP1.stay hb5
   replace ks := ks.stay hb5
   replace sA := sA.stay hb5
   replace k0 := k0.stay hb5
   replace BW := Below.step BW hb5
   clear hb5 csP10 csP11 zsP1
   have csX00 := sX0.now 0 _ rfl
   have csX01 := sX0.now 1 _ rfl
   have csX02 := sX0.now 2 _ rfl
   have csX03 := sX0.now 3 _ rfl
   have csX04 := sX0.now 4 _ rfl
   have csX05 := sX0.now 5 _ rfl
   have csX06 := sX0.now 6 _ rfl
   have csX07 := sX0.now 7 _ rfl
   have csX08 := sX0.now 8 _ rfl
   have csX09 := sX0.now 9 _ rfl
   have csX010 := sX0.now 10 _ rfl
   have csX011 := sX0.now 11 _ rfl
   have zsX0 := Has.lt sX0.now
   go_wp2_with fail
   refine (implHn_k x0 x1 _ _ _ (endC.toRep (k0.stay (alloc_below _ _)).now) (msgC.toRep (k1.stay (alloc_below _ _)).now) ((hT.keep BW).keep (alloc_below _ _))).mono ?_
   rintro e w6 ⟨usg, fpg, rfl, kg, hb6⟩
   obtain ⟨pg2_1_2, qg2_1_2, pg2_1_4, qg2_1_4, pg2_4, qg2_4, pg2_5, qg2_5, pg2_6_1, qg2_6_1, pg2_6_2, qg2_6_2, pg2_6_3, qg2_6_3, pg2_6_4, qg2_6_4, pg3, qg3, es, -, -, -, -, -, -, -, -, -⟩ := endResult_rep (endResultC.toRep kg)
   subst es
   have gkg : Hid (∀ k, k ∈ _ → (w5.heap.size + 1) ≤ k ∧ k < w6.heap.size) := fun k hk => ⟨by have h := (kg.ins k hk).1; rw [size_alloc] at h; exact h, (kg.ins k hk).2⟩
   replace kg := kg.win (Nat.le_refl _) gkg.out
   have sX1 := (Has.new hb6).win
   have z6 : Hid (w5.heap.size + 1 ≤ w6.heap.size) := size_lt hb6
   replace hb6 := Below.res hb6
   replace sP0 := sP0.stay hb6
   replace sP1 := sP1.stay hb6
   replace ks := ks.stay hb6
   replace sA := sA.stay hb6
   replace k0 := k0.stay hb6
   replace sX0 := sX0.stay hb6
   replace k1 := k1.stay hb6
   replace BW := Below.step BW hb6
   clear hb6 csX00 csX01 csX02 csX03 csX04 csX05 csX06 csX07 csX08 csX09 csX010 csX011 zsX0
   have csA0 := sA.now 0 _ rfl
   have csA1 := sA.now 1 _ rfl
   have csA2 := sA.now 2 _ rfl
   have csA3 := sA.now 3 _ rfl
   have csA4 := sA.now 4 _ rfl
   have csA5 := sA.now 5 _ rfl
   have csA6 := sA.now 6 _ rfl
   have csA7 := sA.now 7 _ rfl
   have csA8 := sA.now 8 _ rfl
   have csA9 := sA.now 9 _ rfl
   have csA10 := sA.now 10 _ rfl
   have csA11 := sA.now 11 _ rfl
   have csA12 := sA.now 12 _ rfl
   have csA13 := sA.now 13 _ rfl
   have zsA := Has.lt sA.now
   go_wp2_with fail
   refine (eqEndResult_k (hnE x0 x1) _ _ _ (endResultC.toRep (kg.stay (alloc_below _ _)).now) (endResultC.toRep (ks.stay (alloc_below _ _)).now)).mono ?_
   rintro e w7 ⟨rfl, hb7⟩
   have sB := (Has.new hb7).win
   have z7 : Hid (w6.heap.size + 1 ≤ w7.heap.size) := size_lt hb7
   replace hb7 := Below.res hb7
   replace sP0 := sP0.stay hb7
   replace sP1 := sP1.stay hb7
   replace ks := ks.stay hb7
   replace sA := sA.stay hb7
   replace k0 := k0.stay hb7
   replace sX0 := sX0.stay hb7
   replace k1 := k1.stay hb7
   replace sX1 := sX1.stay hb7
   replace kg := kg.stay hb7
   replace BW := Below.step BW hb7
   clear hb7 csA0 csA1 csA2 csA3 csA4 csA5 csA6 csA7 csA8 csA9 csA10 csA11 csA12 csA13 zsA
   have gsX0 := HW.at (sX0.now 0 _ rfl)
   have gsX1 := HW.at (sX0.now 1 _ rfl)
   have gsX2 := HW.at (sX0.now 2 _ rfl)
   have gsX3 := HW.at (sX0.now 3 _ rfl)
   have gsX4 := HW.at (sX0.now 4 _ rfl)
   have gsX5 := HW.at (sX0.now 5 _ rfl)
   have gsX6 := HW.at (sX0.now 6 _ rfl)
   have gsX7 := HW.at (sX0.now 7 _ rfl)
   have gsX8 := HW.at (sX0.now 8 _ rfl)
   have gsX9 := HW.at (sX0.now 9 _ rfl)
   have gsX10 := HW.at (sX0.now 10 _ rfl)
   have gsX11 := HW.at (sX0.now 11 _ rfl)
   have gsP0 := HW.at (sP0.now 0 _ rfl)
   have gsP1 := HW.at (sP0.now 1 _ rfl)
   have gsP2 := HW.at (sP0.now 2 _ rfl)
   have gsP3 := HW.at (sP0.now 3 _ rfl)
   have gsP4 := HW.at (sP0.now 4 _ rfl)
   have gsP5 := HW.at (sP0.now 5 _ rfl)
   have gsP6 := HW.at (sP0.now 6 _ rfl)
   have gsP7 := HW.at (sP0.now 7 _ rfl)
   have gsP8 := HW.at (sP0.now 8 _ rfl)
   have gsP9 := HW.at (sP0.now 9 _ rfl)
   have gsP10 := HW.at (sP0.now 10 _ rfl)
   have gsP11 := HW.at (sP0.now 11 _ rfl)
   have hne := HW.some w7
   go_wp2_with fail
   refine wp_region_odd_seg 2 3 rfl (by kernel_rfl) (by kernel_rfl) (by kernel_rfl) (by kernel_rfl) ?_
   simp only [List.take_succ_cons, List.take_zero]
   repeat (go_big_quiet_step (fail))
   refine wpQuiet_nil ?_
   refine wpG_call (k := 2) rfl (by kernel_rfl) (by kernel_rfl) (by go_simp) 9 _ #[.agg #[.int .i64 x0.1.1, .slice p01_2 x0.1.2.1.length q01_2, .int .i64 x0.1.2.2.1, .slice p01_4 x0.1.2.2.2.length q01_4, .int .i64 x0.2.1, .int .i64 x0.2.2.1, .slice p04 x0.2.2.2.1.length q04, .slice p05 x0.2.2.2.2.1.length q05, .slice p06_1 x0.2.2.2.2.2.1.length q06_1, .slice p06_2 x0.2.2.2.2.2.2.1.length q06_2, .slice p06_3 x0.2.2.2.2.2.2.2.1.length q06_3, .slice p06_4 x0.2.2.2.2.2.2.2.2.length q06_4]] (fun w => by go_simp) rfl ?_
   rintro _ ⟨sz1, rfl⟩
   refine (toEnd_k x0 _ _ (endC.keep (endC.keep HR0.out BW) sz1.h) (by omega)).mono ?_
   rintro e wz ⟨uz, fz, rfl, kz, hbz⟩
   obtain ⟨pz1_2, qz1_2, pz1_4, qz1_4, pz4, qz4, pz5, qz5, pz6_1, qz6_1, pz6_2, qz6_2, pz6_3, qz6_3, pz6_4, qz6_4, es, -, -, -, -, -, -, -, -⟩ := end_rep (endC.toRep kz)
   subst es
   refine ⟨_, rfl, ⟨⟨_, hbz⟩, rfl⟩, ?_⟩
   have hbx := Below.step sz1.h hbz
   refine wpG_call (k := 3) rfl (by kernel_rfl) (by kernel_rfl) (by go_simp) 13 _ #[.agg #[.int .i64 x0.1.1, .slice pc01_2 x0.1.2.1.length qc01_2, .int .i64 x0.1.2.2.1, .slice pc01_4 x0.1.2.2.2.length qc01_4, .int .i64 x0.2.1, .int .i64 x0.2.2.1, .slice pc04 x0.2.2.2.1.length qc04, .slice pc05 x0.2.2.2.2.1.length qc05, .slice pc06_1 x0.2.2.2.2.2.1.length qc06_1, .slice pc06_2 x0.2.2.2.2.2.2.1.length qc06_2, .slice pc06_3 x0.2.2.2.2.2.2.2.1.length qc06_3, .slice pc06_4 x0.2.2.2.2.2.2.2.2.length qc06_4], .agg #[.int .i64 x0.1.1, .slice pz1_2 x0.1.2.1.length qz1_2, .int .i64 x0.1.2.2.1, .slice pz1_4 x0.1.2.2.2.length qz1_4, .int .i64 x0.2.1, .int .i64 x0.2.2.1, .slice pz4 x0.2.2.2.1.length qz4, .slice pz5 x0.2.2.2.2.1.length qz5, .slice pz6_1 x0.2.2.2.2.2.1.length qz6_1, .slice pz6_2 x0.2.2.2.2.2.2.1.length qz6_2, .slice pz6_3 x0.2.2.2.2.2.2.2.1.length qz6_3, .slice pz6_4 x0.2.2.2.2.2.2.2.2.length qz6_4]] (fun w => by go_simp) rfl ?_
   rintro _ ⟨sz2, rfl⟩
   refine (eqEnd_k x0 _ _ _ (endC.toRep ((k0.stay hbx).stay sz2.h).now) (endC.toRep (endC.stay kz sz2.h))).mono ?_
   rintro e wy ⟨rfl, hby⟩
   refine ⟨_, rfl, ⟨⟨_, hby⟩, rfl⟩, ?_⟩
   replace hby := Below.step (Below.step hbx sz2.h) hby
   have hney := HW.some wy
   refine wpG_next 4 1 0 (by decide) (by kernel_rfl) (by kernel_rfl) (by kernel_rfl) ?_
   simp only [List.drop_succ_cons, List.drop_zero, List.take_succ_cons, List.take_zero]
   go_simp
   repeat (go_big_quiet_step (fail))
   refine wpQuiet_nil ?_
   refine wpG_end rfl ?_
   rintro _ ⟨sz3, rfl⟩
   have hb8 := Below.step hby sz3.h
   clear hby hbx hbz kz hne hney gsX0 gsX1 gsX2 gsX3 gsX4 gsX5 gsX6 gsX7 gsX8 gsX9 gsX10 gsX11 gsP0 gsP1 gsP2 gsP3 gsP4 gsP5 gsP6 gsP7 gsP8 gsP9 gsP10 gsP11
   generalize sz3.w = w8 at *
   clear sz3 sz2 sz1
   have z8 : Hid (w7.heap.size ≤ w8.heap.size) := hb8.size
   replace sP0 := sP0.stay hb8
   replace sP1 := sP1.stay hb8
   replace ks := ks.stay hb8
   replace sA := sA.stay hb8
   replace k0 := k0.stay hb8
   replace sX0 := sX0.stay hb8
   replace k1 := k1.stay hb8
   replace sX1 := sX1.stay hb8
   replace kg := kg.stay hb8
   replace sB := sB.stay hb8
   replace BW := Below.step BW hb8
   clear hb8
   have gsX0 := HW.at (sX1.now 0 _ rfl)
   have gsX1 := HW.at (sX1.now 1 _ rfl)
   have gsP0 := HW.at (sP1.now 0 _ rfl)
   have gsP1 := HW.at (sP1.now 1 _ rfl)
   have hne := HW.some w8
   go_wp2_with fail
   refine wp_region_odd_seg 2 3 rfl (by kernel_rfl) (by kernel_rfl) (by kernel_rfl) (by kernel_rfl) ?_
   simp only [List.take_succ_cons, List.take_zero]
   repeat (go_big_quiet_step (fail))
   refine wpQuiet_nil ?_
   refine wpG_call (k := 2) rfl (by kernel_rfl) (by kernel_rfl) (by go_simp) 21 _ #[.agg #[.int .i64 x1.1, .slice p12 x1.2.length q12]] (fun w => by go_simp) rfl ?_
   rintro _ ⟨sz1, rfl⟩
   refine (toMsg_k x1 _ _ (msgC.keep (msgC.keep HR1.out BW) sz1.h) (by omega)).mono ?_
   rintro e wz ⟨uz, fz, rfl, kz, hbz⟩
   obtain ⟨pz2, qz2, es, -⟩ := msg_rep (msgC.toRep kz)
   subst es
   refine ⟨_, rfl, ⟨⟨_, hbz⟩, rfl⟩, ?_⟩
   have hbx := Below.step sz1.h hbz
   refine wpG_call (k := 3) rfl (by kernel_rfl) (by kernel_rfl) (by go_simp) 23 _ #[.agg #[.int .i64 x1.1, .slice pc12 x1.2.length qc12], .agg #[.int .i64 x1.1, .slice pz2 x1.2.length qz2]] (fun w => by go_simp) rfl ?_
   rintro _ ⟨sz2, rfl⟩
   refine (eqMsg_k x1 _ _ _ (msgC.toRep ((k1.stay hbx).stay sz2.h).now) (msgC.toRep (msgC.stay kz sz2.h))).mono ?_
   rintro e wy ⟨rfl, hby⟩
   refine ⟨_, rfl, ⟨⟨_, hby⟩, rfl⟩, ?_⟩
   replace hby := Below.step (Below.step hbx sz2.h) hby
   have hney := HW.some wy
   refine wpG_next 4 1 0 (by decide) (by kernel_rfl) (by kernel_rfl) (by kernel_rfl) ?_
   simp only [List.drop_succ_cons, List.drop_zero, List.take_succ_cons, List.take_zero]
   go_simp
   repeat (go_big_quiet_step (fail))
   refine wpQuiet_nil ?_
   refine wpG_end rfl ?_
   rintro _ ⟨sz3, rfl⟩
   have hb9 := Below.step hby sz3.h
   clear hby hbx hbz kz hne hney gsX0 gsX1 gsP0 gsP1
   generalize sz3.w = w9 at *
   clear sz3 sz2 sz1
   have z9 : Hid (w8.heap.size ≤ w9.heap.size) := hb9.size
   replace sP0 := sP0.stay hb9
   replace sP1 := sP1.stay hb9
   replace ks := ks.stay hb9
   replace sA := sA.stay hb9
   replace k0 := k0.stay hb9
   replace sX0 := sX0.stay hb9
   replace k1 := k1.stay hb9
   replace sX1 := sX1.stay hb9
   replace kg := kg.stay hb9
   replace sB := sB.stay hb9
   replace BW := Below.step BW hb9
   clear hb9
   have csX00 := sX0.now 0 _ rfl
   have csX01 := sX0.now 1 _ rfl
   have csX02 := sX0.now 2 _ rfl
   have csX03 := sX0.now 3 _ rfl
   have csX04 := sX0.now 4 _ rfl
   have csX05 := sX0.now 5 _ rfl
   have csX06 := sX0.now 6 _ rfl
   have csX07 := sX0.now 7 _ rfl
   have csX08 := sX0.now 8 _ rfl
   have csX09 := sX0.now 9 _ rfl
   have csX010 := sX0.now 10 _ rfl
   have csX011 := sX0.now 11 _ rfl
   have zsX0 := Has.lt sX0.now
   go_wp2_with fail
   refine (markEnd_k x0 _ _ _ 1 _ (by first | rfl | simp | (simp; omega) | (push_cast; omega)) _ k0.now (by omega)).mono ?_
   rintro e w10 ⟨rfl, -, hg⟩
   have z10 : Hid (w9.heap.size ≤ w10.heap.size) := hg.size
   have sg := Only.seg hg gk0.out
   replace sP0 := sP0.seg sg (by have := z1.out; have := z2.out; have := z3.out; have := z4.out; have := z5.out; have := z6.out; have := z7.out; have := z8.out; have := z9.out; have := z10.out; omega)
   replace sP1 := sP1.seg sg (by have := z1.out; have := z2.out; have := z3.out; have := z4.out; have := z5.out; have := z6.out; have := z7.out; have := z8.out; have := z9.out; have := z10.out; omega)
   replace ks := ks.seg sg (by have := z1.out; have := z2.out; have := z3.out; have := z4.out; have := z5.out; have := z6.out; have := z7.out; have := z8.out; have := z9.out; have := z10.out; omega)
   replace sA := sA.seg sg (by have := z1.out; have := z2.out; have := z3.out; have := z4.out; have := z5.out; have := z6.out; have := z7.out; have := z8.out; have := z9.out; have := z10.out; omega)
   replace sX0 := sX0.seg sg (by have := z1.out; have := z2.out; have := z3.out; have := z4.out; have := z5.out; have := z6.out; have := z7.out; have := z8.out; have := z9.out; have := z10.out; omega)
   replace k1 := k1.seg sg (by have := z1.out; have := z2.out; have := z3.out; have := z4.out; have := z5.out; have := z6.out; have := z7.out; have := z8.out; have := z9.out; have := z10.out; omega)
   replace sX1 := sX1.seg sg (by have := z1.out; have := z2.out; have := z3.out; have := z4.out; have := z5.out; have := z6.out; have := z7.out; have := z8.out; have := z9.out; have := z10.out; omega)
   replace kg := kg.seg sg (by have := z1.out; have := z2.out; have := z3.out; have := z4.out; have := z5.out; have := z6.out; have := z7.out; have := z8.out; have := z9.out; have := z10.out; omega)
   replace sB := sB.seg sg (by have := z1.out; have := z2.out; have := z3.out; have := z4.out; have := z5.out; have := z6.out; have := z7.out; have := z8.out; have := z9.out; have := z10.out; omega)
   replace BW := Below.seg BW sg (by have := z1.out; have := z2.out; have := z3.out; have := z4.out; have := z5.out; have := z6.out; have := z7.out; have := z8.out; have := z9.out; have := z10.out; omega)
   clear hg sg k0 csX00 csX01 csX02 csX03 csX04 csX05 csX06 csX07 csX08 csX09 csX010 csX011 zsX0
   have csX10 := sX1.now 0 _ rfl
   have csX11 := sX1.now 1 _ rfl
   have zsX1 := Has.lt sX1.now
   go_wp2_with fail
   refine (markMsg_k x1 _ _ _ (1 + endT x0) _ (by first | rfl | simp | (simp; omega) | (push_cast; omega)) _ k1.now (by omega)).mono ?_
   rintro e w11 ⟨rfl, -, hg⟩
   have z11 : Hid (w10.heap.size ≤ w11.heap.size) := hg.size
   have sg := Only.seg hg gk1.out
   replace sP0 := sP0.seg sg (by have := z1.out; have := z2.out; have := z3.out; have := z4.out; have := z5.out; have := z6.out; have := z7.out; have := z8.out; have := z9.out; have := z10.out; have := z11.out; omega)
   replace sP1 := sP1.seg sg (by have := z1.out; have := z2.out; have := z3.out; have := z4.out; have := z5.out; have := z6.out; have := z7.out; have := z8.out; have := z9.out; have := z10.out; have := z11.out; omega)
   replace ks := ks.seg sg (by have := z1.out; have := z2.out; have := z3.out; have := z4.out; have := z5.out; have := z6.out; have := z7.out; have := z8.out; have := z9.out; have := z10.out; have := z11.out; omega)
   replace sA := sA.seg sg (by have := z1.out; have := z2.out; have := z3.out; have := z4.out; have := z5.out; have := z6.out; have := z7.out; have := z8.out; have := z9.out; have := z10.out; have := z11.out; omega)
   replace sX0 := sX0.seg sg (by have := z1.out; have := z2.out; have := z3.out; have := z4.out; have := z5.out; have := z6.out; have := z7.out; have := z8.out; have := z9.out; have := z10.out; have := z11.out; omega)
   replace sX1 := sX1.seg sg (by have := z1.out; have := z2.out; have := z3.out; have := z4.out; have := z5.out; have := z6.out; have := z7.out; have := z8.out; have := z9.out; have := z10.out; have := z11.out; omega)
   replace kg := kg.seg sg (by have := z1.out; have := z2.out; have := z3.out; have := z4.out; have := z5.out; have := z6.out; have := z7.out; have := z8.out; have := z9.out; have := z10.out; have := z11.out; omega)
   replace sB := sB.seg sg (by have := z1.out; have := z2.out; have := z3.out; have := z4.out; have := z5.out; have := z6.out; have := z7.out; have := z8.out; have := z9.out; have := z10.out; have := z11.out; omega)
   replace BW := Below.seg BW sg (by have := z1.out; have := z2.out; have := z3.out; have := z4.out; have := z5.out; have := z6.out; have := z7.out; have := z8.out; have := z9.out; have := z10.out; have := z11.out; omega)
   clear hg sg k1 csX10 csX11 zsX1
   have csA0 := sA.now 0 _ rfl
   have csA1 := sA.now 1 _ rfl
   have csA2 := sA.now 2 _ rfl
   have csA3 := sA.now 3 _ rfl
   have csA4 := sA.now 4 _ rfl
   have csA5 := sA.now 5 _ rfl
   have csA6 := sA.now 6 _ rfl
   have csA7 := sA.now 7 _ rfl
   have csA8 := sA.now 8 _ rfl
   have csA9 := sA.now 9 _ rfl
   have csA10 := sA.now 10 _ rfl
   have csA11 := sA.now 11 _ rfl
   have csA12 := sA.now 12 _ rfl
   have csA13 := sA.now 13 _ rfl
   have zsA := Has.lt sA.now
   have csB0 := sB.now 0 _ rfl
   have csB1 := sB.now 1 _ rfl
   have csB2 := sB.now 2 _ rfl
   have csB3 := sB.now 3 _ rfl
   have csB4 := sB.now 4 _ rfl
   have csB5 := sB.now 5 _ rfl
   have csB6 := sB.now 6 _ rfl
   have csB7 := sB.now 7 _ rfl
   have csB8 := sB.now 8 _ rfl
   have csB9 := sB.now 9 _ rfl
   have csB10 := sB.now 10 _ rfl
   have csB11 := sB.now 11 _ rfl
   have csB12 := sB.now 12 _ rfl
   have csB13 := sB.now 13 _ rfl
   have zsB := Has.lt sB.now
   go_wp2_with fail
   refine (eqEndResult_k (hnE x0 x1) _ _ _ (endResultC.toRep kg.now) (endResultC.toRep ks.now)).mono ?_
   rintro e w12 ⟨rfl, hb12⟩
   have z12 : Hid (w11.heap.size ≤ w12.heap.size) := hb12.size
   replace sP0 := sP0.stay hb12
   replace sP1 := sP1.stay hb12
   replace ks := ks.stay hb12
   replace sA := sA.stay hb12
   replace sX0 := sX0.stay hb12
   replace sX1 := sX1.stay hb12
   replace kg := kg.stay hb12
   replace sB := sB.stay hb12
   replace BW := Below.step BW hb12
   clear hb12 csA0 csA1 csA2 csA3 csA4 csA5 csA6 csA7 csA8 csA9 csA10 csA11 csA12 csA13 zsA csB0 csB1 csB2 csB3 csB4 csB5 csB6 csB7 csB8 csB9 csB10 csB11 csB12 csB13 zsB
   have csB0 := sB.now 0 _ rfl
   have csB1 := sB.now 1 _ rfl
   have csB2 := sB.now 2 _ rfl
   have csB3 := sB.now 3 _ rfl
   have csB4 := sB.now 4 _ rfl
   have csB5 := sB.now 5 _ rfl
   have csB6 := sB.now 6 _ rfl
   have csB7 := sB.now 7 _ rfl
   have csB8 := sB.now 8 _ rfl
   have csB9 := sB.now 9 _ rfl
   have csB10 := sB.now 10 _ rfl
   have csB11 := sB.now 11 _ rfl
   have csB12 := sB.now 12 _ rfl
   have csB13 := sB.now 13 _ rfl
   have zsB := Has.lt sB.now
   go_wp2_with fail
   refine (markEndResult_k (hnE x0 x1) _ _ _ 1 1 rfl _ kg.now hlen1).mono ?_
   rintro e w13 ⟨rfl, km, hg⟩
   have z13 : Hid (w12.heap.size ≤ w13.heap.size) := hg.size
   have sg := Only.seg hg gkg.out
   replace sP0 := sP0.seg sg (by have := z1.out; have := z2.out; have := z3.out; have := z4.out; have := z5.out; have := z6.out; have := z7.out; have := z8.out; have := z9.out; have := z10.out; have := z11.out; have := z12.out; have := z13.out; omega)
   replace sP1 := sP1.seg sg (by have := z1.out; have := z2.out; have := z3.out; have := z4.out; have := z5.out; have := z6.out; have := z7.out; have := z8.out; have := z9.out; have := z10.out; have := z11.out; have := z12.out; have := z13.out; omega)
   replace ks := ks.seg sg (by have := z1.out; have := z2.out; have := z3.out; have := z4.out; have := z5.out; have := z6.out; have := z7.out; have := z8.out; have := z9.out; have := z10.out; have := z11.out; have := z12.out; have := z13.out; omega)
   replace sA := sA.seg sg (by have := z1.out; have := z2.out; have := z3.out; have := z4.out; have := z5.out; have := z6.out; have := z7.out; have := z8.out; have := z9.out; have := z10.out; have := z11.out; have := z12.out; have := z13.out; omega)
   replace sX0 := sX0.seg sg (by have := z1.out; have := z2.out; have := z3.out; have := z4.out; have := z5.out; have := z6.out; have := z7.out; have := z8.out; have := z9.out; have := z10.out; have := z11.out; have := z12.out; have := z13.out; omega)
   replace sX1 := sX1.seg sg (by have := z1.out; have := z2.out; have := z3.out; have := z4.out; have := z5.out; have := z6.out; have := z7.out; have := z8.out; have := z9.out; have := z10.out; have := z11.out; have := z12.out; have := z13.out; omega)
   replace sB := sB.seg sg (by have := z1.out; have := z2.out; have := z3.out; have := z4.out; have := z5.out; have := z6.out; have := z7.out; have := z8.out; have := z9.out; have := z10.out; have := z11.out; have := z12.out; have := z13.out; omega)
   replace BW := Below.seg BW sg (by have := z1.out; have := z2.out; have := z3.out; have := z4.out; have := z5.out; have := z6.out; have := z7.out; have := z8.out; have := z9.out; have := z10.out; have := z11.out; have := z12.out; have := z13.out; omega)
   replace km := km.win (by have := z1.out; have := z2.out; have := z3.out; have := z4.out; have := z5.out; have := z6.out; have := z7.out; have := z8.out; have := z9.out; have := z10.out; have := z11.out; have := z12.out; have := z13.out; omega) gkg.out
   clear hg sg kg csB0 csB1 csB2 csB3 csB4 csB5 csB6 csB7 csB8 csB9 csB10 csB11 csB12 csB13 zsB
   have csB0 := sB.now 0 _ rfl
   have csB1 := sB.now 1 _ rfl
   have csB2 := sB.now 2 _ rfl
   have csB3 := sB.now 3 _ rfl
   have csB4 := sB.now 4 _ rfl
   have csB5 := sB.now 5 _ rfl
   have csB6 := sB.now 6 _ rfl
   have csB7 := sB.now 7 _ rfl
   have csB8 := sB.now 8 _ rfl
   have csB9 := sB.now 9 _ rfl
   have csB10 := sB.now 10 _ rfl
   have csB11 := sB.now 11 _ rfl
   have csB12 := sB.now 12 _ rfl
   have csB13 := sB.now 13 _ rfl
   have zsB := Has.lt sB.now
   go_wp2_with fail
   refine (heldEndResult_k (hnE x0 x1) _ 1 1 rfl _ (endResultC.toRep km.now) hlen2).mono ?_
   rintro e w14 ⟨rfl, hb14⟩
   have z14 : Hid (w13.heap.size ≤ w14.heap.size) := hb14.size
   replace sP0 := sP0.stay hb14
   replace sP1 := sP1.stay hb14
   replace ks := ks.stay hb14
   replace sA := sA.stay hb14
   replace sX0 := sX0.stay hb14
   replace sX1 := sX1.stay hb14
   replace sB := sB.stay hb14
   replace km := km.stay hb14
   replace BW := Below.step BW hb14
   clear hb14 csB0 csB1 csB2 csB3 csB4 csB5 csB6 csB7 csB8 csB9 csB10 csB11 csB12 csB13 zsB
   go_wp2_with fail
   apply share
   case h =>
    intro JN
    have BB := Below.refl w14.heap.size w14
    have hne := HW.some w14
    have gsP00 := HW.at (sP0.now 0 _ rfl)
    have gsP01 := HW.at (sP0.now 1 _ rfl)
    have gsP02 := HW.at (sP0.now 2 _ rfl)
    have gsP03 := HW.at (sP0.now 3 _ rfl)
    have gsP04 := HW.at (sP0.now 4 _ rfl)
    have gsP05 := HW.at (sP0.now 5 _ rfl)
    have gsP06 := HW.at (sP0.now 6 _ rfl)
    have gsP07 := HW.at (sP0.now 7 _ rfl)
    have gsP08 := HW.at (sP0.now 8 _ rfl)
    have gsP09 := HW.at (sP0.now 9 _ rfl)
    have gsP010 := HW.at (sP0.now 10 _ rfl)
    have gsP011 := HW.at (sP0.now 11 _ rfl)
    have gsP10 := HW.at (sP1.now 0 _ rfl)
    have gsP11 := HW.at (sP1.now 1 _ rfl)
    refine wp_region_pick [0, 2] 6 4 1 rfl rfl rfl (by kernel_rfl) (by kernel_rfl) (by kernel_rfl) (by kernel_rfl) ?_
    simp only [opsAt, List.getElem?_toArray, List.getElem?_cons_zero, List.getElem?_cons_succ]
    repeat (go_big_quiet_step (fail))
    refine wpQuiet_nil ?_
    clear gsP00 gsP01 gsP02 gsP03 gsP04 gsP05 gsP06 gsP07 gsP08 gsP09 gsP010 gsP011 gsP10 gsP11
    refine wpM_two (i := 1) (j := 5) (by kernel_rfl) ?_ ?_
    ·skip
     refine mOp_call rfl (by go_simp) 9 _ #[.agg #[.int .i64 x0.1.1, .slice p01_2 x0.1.2.1.length q01_2, .int .i64 x0.1.2.2.1, .slice p01_4 x0.1.2.2.2.length q01_4, .int .i64 x0.2.1, .int .i64 x0.2.2.1, .slice p04 x0.2.2.2.1.length q04, .slice p05 x0.2.2.2.2.1.length q05, .slice p06_1 x0.2.2.2.2.2.1.length q06_1, .slice p06_2 x0.2.2.2.2.2.2.1.length q06_2, .slice p06_3 x0.2.2.2.2.2.2.2.1.length q06_3, .slice p06_4 x0.2.2.2.2.2.2.2.2.length q06_4]] (fun w => by go_simp) rfl ?_
     rintro _ ⟨sg, rfl⟩
     refine (toEnd_k x0 _ _ (endC.keep (endC.keep HR0.out BW) (Below.step BB sg.h)) (by omega)).mono ?_
     rintro e wg1 ⟨uz0, fz0, rfl, kz0, hbx⟩
     obtain ⟨pz0h1_2, qz0h1_2, pz0h1_4, qz0h1_4, pz0h4, qz0h4, pz0h5, qz0h5, pz0h6_1, qz0h6_1, pz0h6_2, qz0h6_2, pz0h6_3, qz0h6_3, pz0h6_4, qz0h6_4, es, -, -, -, -, -, -, -, -⟩ := end_rep (endC.toRep kz0)
     subst es
     have hbg := Below.step sg.h hbx
     refine ⟨_, rfl, ⟨⟨wg1, hbx⟩, rfl⟩, ?_⟩
     have Kz0 := endC.low kz0 ((Below.step BB sg.h)).size
     replace BB := Below.step BB hbg
     clear hbg hbx sg kz0
     replace hne := HW.some wg1
     refine wpM_two (i := 3) (j := 5) (by kernel_rfl) ?_ ?_
     ·skip
      refine mOp_call rfl (by go_simp) 21 _ #[.agg #[.int .i64 x1.1, .slice p12 x1.2.length q12]] (fun w => by go_simp) rfl ?_
      rintro _ ⟨sg, rfl⟩
      refine (toMsg_k x1 _ _ (msgC.keep (msgC.keep HR1.out BW) (Below.step BB sg.h)) (by omega)).mono ?_
      rintro e wg2 ⟨uz1, fz1, rfl, kz1, hbx⟩
      obtain ⟨pz1h2, qz1h2, es, -⟩ := msg_rep (msgC.toRep kz1)
      subst es
      have hbg := Below.step sg.h hbx
      refine ⟨_, rfl, ⟨⟨wg2, hbx⟩, rfl⟩, ?_⟩
      have Kz1 := msgC.low kz1 ((Below.step BB sg.h)).size
      replace Kz0 := endC.stay Kz0 hbg
      replace BB := Below.step BB hbg
      clear hbg hbx sg kz1
      replace hne := HW.some wg2
      refine wpM_two (i := 4) (j := 5) (by kernel_rfl) ?_ ?_
      ·skip
       refine mOp_call rfl (by go_simp) 22 _ #[.agg #[.int .i64 x0.1.1, .slice pz0h1_2 x0.1.2.1.length qz0h1_2, .int .i64 x0.1.2.2.1, .slice pz0h1_4 x0.1.2.2.2.length qz0h1_4, .int .i64 x0.2.1, .int .i64 x0.2.2.1, .slice pz0h4 x0.2.2.2.1.length qz0h4, .slice pz0h5 x0.2.2.2.2.1.length qz0h5, .slice pz0h6_1 x0.2.2.2.2.2.1.length qz0h6_1, .slice pz0h6_2 x0.2.2.2.2.2.2.1.length qz0h6_2, .slice pz0h6_3 x0.2.2.2.2.2.2.2.1.length qz0h6_3, .slice pz0h6_4 x0.2.2.2.2.2.2.2.2.length qz0h6_4], .agg #[.int .i64 x1.1, .slice pz1h2 x1.2.length qz1h2]] (fun w => by go_simp) rfl ?_
       rintro _ ⟨sg, rfl⟩
       refine (implHn_k x0 x1 _ _ _ (endC.toRep (endC.stay Kz0 sg.h)) (msgC.toRep (msgC.stay Kz1 sg.h)) ((hT.keep BW).keep (Below.step BB sg.h))).mono ?_
       rintro e wg3 ⟨ush, fph, rfl, kah, hbx⟩
       obtain ⟨ph2_1_2, qh2_1_2, ph2_1_4, qh2_1_4, ph2_4, qh2_4, ph2_5, qh2_5, ph2_6_1, qh2_6_1, ph2_6_2, qh2_6_2, ph2_6_3, qh2_6_3, ph2_6_4, qh2_6_4, ph3, qh3, es, -, -, -, -, -, -, -, -, -⟩ := endResult_rep (endResultC.toRep kah)
       subst es
       have hbg := Below.step sg.h hbx
       refine ⟨_, rfl, ⟨⟨wg3, hbx⟩, rfl⟩, ?_⟩
       have KAh := endResultC.low kah ((Below.step BB sg.h)).size
       replace Kz0 := endC.stay Kz0 hbg
       replace Kz1 := msgC.stay Kz1 hbg
       replace BB := Below.step BB hbg
       clear hbg hbx sg kah
       replace hne := HW.some wg3
       refine wpM_only (i := 5) (by kernel_rfl) ?_
       refine mOp_make rfl (by go_simp) ?_
       rintro _ ⟨sg, rfl⟩
       refine ⟨.pointer (some ⟨sg.w.heap.size, 0, none⟩), sg.w.alloc (.cells #[.int .i64 0, .int .i64 0, .slice none 0 0, .int .i64 0, .slice none 0 0, .int .i64 0, .int .i64 0, .slice none 0 0, .slice none 0 0, .slice none 0 0, .slice none 0 0, .slice none 0 0, .slice none 0 0, .slice none 0 0] 38), by go_simp, ⟨⟨_, alloc_below _ _⟩, rfl⟩, ?_⟩
       have hbg := Below.step sg.h (alloc_below sg.w (.cells #[.int .i64 0, .int .i64 0, .slice none 0 0, .int .i64 0, .slice none 0 0, .int .i64 0, .int .i64 0, .slice none 0 0, .slice none 0 0, .slice none 0 0, .slice none 0 0, .slice none 0 0, .slice none 0 0, .slice none 0 0] 38))
       have AZh := Arr.new sg.w [.int .i64 0, .int .i64 0, .slice none 0 0, .int .i64 0, .slice none 0 0, .int .i64 0, .int .i64 0, .slice none 0 0, .slice none 0 0, .slice none 0 0, .slice none 0 0, .slice none 0 0, .slice none 0 0, .slice none 0 0] 38
       have GZh := (show Hid (w14.heap.size ≤ sg.w.heap.size) from (Below.step BB sg.h).size)
       have NEh := (show ∀ k, k ∈ fph → k ≠ sg.w.heap.size from fun k h e => by have h1 := (endResultC.ins KAh k h).2; have h2 := sg.h.size; omega)
       replace Kz0 := endC.stay Kz0 hbg
       replace Kz1 := msgC.stay Kz1 hbg
       replace KAh := endResultC.stay KAh hbg
       replace BB := Below.step BB hbg
       clear hbg
       replace hne := HW.some (sg.w.alloc (.cells #[.int .i64 0, .int .i64 0, .slice none 0 0, .int .i64 0, .slice none 0 0, .int .i64 0, .int .i64 0, .slice none 0 0, .slice none 0 0, .slice none 0 0, .slice none 0 0, .slice none 0 0, .slice none 0 0, .slice none 0 0] 38))
       generalize hW : (sg.w.alloc (.cells #[.int .i64 0, .int .i64 0, .slice none 0 0, .int .i64 0, .slice none 0 0, .int .i64 0, .int .i64 0, .slice none 0 0, .slice none 0 0, .slice none 0 0, .slice none 0 0, .slice none 0 0, .slice none 0 0, .slice none 0 0] 38)) = wg4 at *
       clear hW
       generalize sg.w.heap.size = gzh at *
       clear sg
       refine wpM_end (by kernel_rfl) rfl (by kernel_rfl) (by decide) ?_
       rintro _ ⟨sz, rfl⟩
       simp only [List.drop_succ_cons, List.drop_zero]
       go_simp
       replace Kz0 := endC.stay Kz0 sz.h
       replace Kz1 := msgC.stay Kz1 sz.h
       replace KAh := endResultC.stay KAh sz.h
       replace AZh := AZh.stay sz.h
       replace BB := Below.step BB sz.h
       clear hne
       generalize sz.w = Wh at *
       clear sz
       revert NEh
       revert GZh
       revert AZh
       revert KAh
       revert Kz1
       revert Kz0
       revert BB
       revert gzh
       revert qh3
       revert ph3
       revert qh2_6_4
       revert ph2_6_4
       revert qh2_6_3
       revert ph2_6_3
       revert qh2_6_2
       revert ph2_6_2
       revert qh2_6_1
       revert ph2_6_1
       revert qh2_5
       revert ph2_5
       revert qh2_4
       revert ph2_4
       revert qh2_1_4
       revert ph2_1_4
       revert qh2_1_2
       revert ph2_1_2
       revert fph
       revert qz1h2
       revert pz1h2
       revert fz1
       revert qz0h6_4
       revert pz0h6_4
       revert qz0h6_3
       revert pz0h6_3
       revert qz0h6_2
       revert pz0h6_2
       revert qz0h6_1
       revert pz0h6_1
       revert qz0h5
       revert pz0h5
       revert qz0h4
       revert pz0h4
       revert qz0h1_4
       revert pz0h1_4
       revert qz0h1_2
       revert pz0h1_2
       revert fz0
       revert Wh
       exact JN.out
      ·skip
       refine mOp_make rfl (by go_simp) ?_
       rintro _ ⟨sg, rfl⟩
       refine ⟨.pointer (some ⟨sg.w.heap.size, 0, none⟩), sg.w.alloc (.cells #[.int .i64 0, .int .i64 0, .slice none 0 0, .int .i64 0, .slice none 0 0, .int .i64 0, .int .i64 0, .slice none 0 0, .slice none 0 0, .slice none 0 0, .slice none 0 0, .slice none 0 0, .slice none 0 0, .slice none 0 0] 38), by go_simp, ⟨⟨_, alloc_below _ _⟩, rfl⟩, ?_⟩
       have hbg := Below.step sg.h (alloc_below sg.w (.cells #[.int .i64 0, .int .i64 0, .slice none 0 0, .int .i64 0, .slice none 0 0, .int .i64 0, .int .i64 0, .slice none 0 0, .slice none 0 0, .slice none 0 0, .slice none 0 0, .slice none 0 0, .slice none 0 0, .slice none 0 0] 38))
       have AZh := Arr.new sg.w [.int .i64 0, .int .i64 0, .slice none 0 0, .int .i64 0, .slice none 0 0, .int .i64 0, .int .i64 0, .slice none 0 0, .slice none 0 0, .slice none 0 0, .slice none 0 0, .slice none 0 0, .slice none 0 0, .slice none 0 0] 38
       have GZh := (show Hid (w14.heap.size ≤ sg.w.heap.size) from (Below.step BB sg.h).size)
       replace Kz0 := endC.stay Kz0 hbg
       replace Kz1 := msgC.stay Kz1 hbg
       replace BB := Below.step BB hbg
       clear hbg
       replace hne := HW.some (sg.w.alloc (.cells #[.int .i64 0, .int .i64 0, .slice none 0 0, .int .i64 0, .slice none 0 0, .int .i64 0, .int .i64 0, .slice none 0 0, .slice none 0 0, .slice none 0 0, .slice none 0 0, .slice none 0 0, .slice none 0 0, .slice none 0 0] 38))
       generalize hW : (sg.w.alloc (.cells #[.int .i64 0, .int .i64 0, .slice none 0 0, .int .i64 0, .slice none 0 0, .int .i64 0, .int .i64 0, .slice none 0 0, .slice none 0 0, .slice none 0 0, .slice none 0 0, .slice none 0 0, .slice none 0 0, .slice none 0 0] 38)) = wg5 at *
       clear hW
       generalize sg.w.heap.size = gzh at *
       clear sg
       refine wpM_only (i := 4) (by kernel_rfl) ?_
       refine mOp_call rfl (by go_simp) 22 _ #[.agg #[.int .i64 x0.1.1, .slice pz0h1_2 x0.1.2.1.length qz0h1_2, .int .i64 x0.1.2.2.1, .slice pz0h1_4 x0.1.2.2.2.length qz0h1_4, .int .i64 x0.2.1, .int .i64 x0.2.2.1, .slice pz0h4 x0.2.2.2.1.length qz0h4, .slice pz0h5 x0.2.2.2.2.1.length qz0h5, .slice pz0h6_1 x0.2.2.2.2.2.1.length qz0h6_1, .slice pz0h6_2 x0.2.2.2.2.2.2.1.length qz0h6_2, .slice pz0h6_3 x0.2.2.2.2.2.2.2.1.length qz0h6_3, .slice pz0h6_4 x0.2.2.2.2.2.2.2.2.length qz0h6_4], .agg #[.int .i64 x1.1, .slice pz1h2 x1.2.length qz1h2]] (fun w => by go_simp) rfl ?_
       rintro _ ⟨sg, rfl⟩
       refine (implHn_k x0 x1 _ _ _ (endC.toRep (endC.stay Kz0 sg.h)) (msgC.toRep (msgC.stay Kz1 sg.h)) ((hT.keep BW).keep (Below.step BB sg.h))).mono ?_
       rintro e wg6 ⟨ush, fph, rfl, kah, hbx⟩
       obtain ⟨ph2_1_2, qh2_1_2, ph2_1_4, qh2_1_4, ph2_4, qh2_4, ph2_5, qh2_5, ph2_6_1, qh2_6_1, ph2_6_2, qh2_6_2, ph2_6_3, qh2_6_3, ph2_6_4, qh2_6_4, ph3, qh3, es, -, -, -, -, -, -, -, -, -⟩ := endResult_rep (endResultC.toRep kah)
       subst es
       have hbg := Below.step sg.h hbx
       refine ⟨_, rfl, ⟨⟨wg6, hbx⟩, rfl⟩, ?_⟩
       have KAh := endResultC.low kah ((Below.step BB sg.h)).size
       have NEh := (show ∀ k, k ∈ fph → k ≠ gzh from fun k h e => by have h1 := (endResultC.ins kah k h).1; have h2 := AZh.lt; have h3 := sg.h.size; omega)
       replace Kz0 := endC.stay Kz0 hbg
       replace Kz1 := msgC.stay Kz1 hbg
       replace AZh := AZh.stay hbg
       replace BB := Below.step BB hbg
       clear hbg hbx sg kah
       replace hne := HW.some wg6
       refine wpM_end (by kernel_rfl) rfl (by kernel_rfl) (by decide) ?_
       rintro _ ⟨sz, rfl⟩
       simp only [List.drop_succ_cons, List.drop_zero]
       go_simp
       replace Kz0 := endC.stay Kz0 sz.h
       replace Kz1 := msgC.stay Kz1 sz.h
       replace AZh := AZh.stay sz.h
       replace KAh := endResultC.stay KAh sz.h
       replace BB := Below.step BB sz.h
       clear hne
       generalize sz.w = Wh at *
       clear sz
       revert NEh
       revert GZh
       revert AZh
       revert KAh
       revert Kz1
       revert Kz0
       revert BB
       revert gzh
       revert qh3
       revert ph3
       revert qh2_6_4
       revert ph2_6_4
       revert qh2_6_3
       revert ph2_6_3
       revert qh2_6_2
       revert ph2_6_2
       revert qh2_6_1
       revert ph2_6_1
       revert qh2_5
       revert ph2_5
       revert qh2_4
       revert ph2_4
       revert qh2_1_4
       revert ph2_1_4
       revert qh2_1_2
       revert ph2_1_2
       revert fph
       revert qz1h2
       revert pz1h2
       revert fz1
       revert qz0h6_4
       revert pz0h6_4
       revert qz0h6_3
       revert pz0h6_3
       revert qz0h6_2
       revert pz0h6_2
       revert qz0h6_1
       revert pz0h6_1
       revert qz0h5
       revert pz0h5
       revert qz0h4
       revert pz0h4
       revert qz0h1_4
       revert pz0h1_4
       revert qz0h1_2
       revert pz0h1_2
       revert fz0
       revert Wh
       exact JN.out
     ·skip
      refine mOp_make rfl (by go_simp) ?_
      rintro _ ⟨sg, rfl⟩
      refine ⟨.pointer (some ⟨sg.w.heap.size, 0, none⟩), sg.w.alloc (.cells #[.int .i64 0, .int .i64 0, .slice none 0 0, .int .i64 0, .slice none 0 0, .int .i64 0, .int .i64 0, .slice none 0 0, .slice none 0 0, .slice none 0 0, .slice none 0 0, .slice none 0 0, .slice none 0 0, .slice none 0 0] 38), by go_simp, ⟨⟨_, alloc_below _ _⟩, rfl⟩, ?_⟩
      have hbg := Below.step sg.h (alloc_below sg.w (.cells #[.int .i64 0, .int .i64 0, .slice none 0 0, .int .i64 0, .slice none 0 0, .int .i64 0, .int .i64 0, .slice none 0 0, .slice none 0 0, .slice none 0 0, .slice none 0 0, .slice none 0 0, .slice none 0 0, .slice none 0 0] 38))
      have AZh := Arr.new sg.w [.int .i64 0, .int .i64 0, .slice none 0 0, .int .i64 0, .slice none 0 0, .int .i64 0, .int .i64 0, .slice none 0 0, .slice none 0 0, .slice none 0 0, .slice none 0 0, .slice none 0 0, .slice none 0 0, .slice none 0 0] 38
      have GZh := (show Hid (w14.heap.size ≤ sg.w.heap.size) from (Below.step BB sg.h).size)
      replace Kz0 := endC.stay Kz0 hbg
      replace BB := Below.step BB hbg
      clear hbg
      replace hne := HW.some (sg.w.alloc (.cells #[.int .i64 0, .int .i64 0, .slice none 0 0, .int .i64 0, .slice none 0 0, .int .i64 0, .int .i64 0, .slice none 0 0, .slice none 0 0, .slice none 0 0, .slice none 0 0, .slice none 0 0, .slice none 0 0, .slice none 0 0] 38))
      generalize hW : (sg.w.alloc (.cells #[.int .i64 0, .int .i64 0, .slice none 0 0, .int .i64 0, .slice none 0 0, .int .i64 0, .int .i64 0, .slice none 0 0, .slice none 0 0, .slice none 0 0, .slice none 0 0, .slice none 0 0, .slice none 0 0, .slice none 0 0] 38)) = wg7 at *
      clear hW
      generalize sg.w.heap.size = gzh at *
      clear sg
      refine wpM_only (i := 3) (by kernel_rfl) ?_
      refine mOp_call rfl (by go_simp) 21 _ #[.agg #[.int .i64 x1.1, .slice p12 x1.2.length q12]] (fun w => by go_simp) rfl ?_
      rintro _ ⟨sg, rfl⟩
      refine (toMsg_k x1 _ _ (msgC.keep (msgC.keep HR1.out BW) (Below.step BB sg.h)) (by omega)).mono ?_
      rintro e wg8 ⟨uz1, fz1, rfl, kz1, hbx⟩
      obtain ⟨pz1h2, qz1h2, es, -⟩ := msg_rep (msgC.toRep kz1)
      subst es
      have hbg := Below.step sg.h hbx
      refine ⟨_, rfl, ⟨⟨wg8, hbx⟩, rfl⟩, ?_⟩
      have Kz1 := msgC.low kz1 ((Below.step BB sg.h)).size
      replace Kz0 := endC.stay Kz0 hbg
      replace AZh := AZh.stay hbg
      replace BB := Below.step BB hbg
      clear hbg hbx sg kz1
      replace hne := HW.some wg8
      refine wpM_only (i := 4) (by kernel_rfl) ?_
      refine mOp_call rfl (by go_simp) 22 _ #[.agg #[.int .i64 x0.1.1, .slice pz0h1_2 x0.1.2.1.length qz0h1_2, .int .i64 x0.1.2.2.1, .slice pz0h1_4 x0.1.2.2.2.length qz0h1_4, .int .i64 x0.2.1, .int .i64 x0.2.2.1, .slice pz0h4 x0.2.2.2.1.length qz0h4, .slice pz0h5 x0.2.2.2.2.1.length qz0h5, .slice pz0h6_1 x0.2.2.2.2.2.1.length qz0h6_1, .slice pz0h6_2 x0.2.2.2.2.2.2.1.length qz0h6_2, .slice pz0h6_3 x0.2.2.2.2.2.2.2.1.length qz0h6_3, .slice pz0h6_4 x0.2.2.2.2.2.2.2.2.length qz0h6_4], .agg #[.int .i64 x1.1, .slice pz1h2 x1.2.length qz1h2]] (fun w => by go_simp) rfl ?_
      rintro _ ⟨sg, rfl⟩
      refine (implHn_k x0 x1 _ _ _ (endC.toRep (endC.stay Kz0 sg.h)) (msgC.toRep (msgC.stay Kz1 sg.h)) ((hT.keep BW).keep (Below.step BB sg.h))).mono ?_
      rintro e wg9 ⟨ush, fph, rfl, kah, hbx⟩
      obtain ⟨ph2_1_2, qh2_1_2, ph2_1_4, qh2_1_4, ph2_4, qh2_4, ph2_5, qh2_5, ph2_6_1, qh2_6_1, ph2_6_2, qh2_6_2, ph2_6_3, qh2_6_3, ph2_6_4, qh2_6_4, ph3, qh3, es, -, -, -, -, -, -, -, -, -⟩ := endResult_rep (endResultC.toRep kah)
      subst es
      have hbg := Below.step sg.h hbx
      refine ⟨_, rfl, ⟨⟨wg9, hbx⟩, rfl⟩, ?_⟩
      have KAh := endResultC.low kah ((Below.step BB sg.h)).size
      have NEh := (show ∀ k, k ∈ fph → k ≠ gzh from fun k h e => by have h1 := (endResultC.ins kah k h).1; have h2 := AZh.lt; have h3 := sg.h.size; omega)
      replace Kz0 := endC.stay Kz0 hbg
      replace AZh := AZh.stay hbg
      replace Kz1 := msgC.stay Kz1 hbg
      replace BB := Below.step BB hbg
      clear hbg hbx sg kah
      replace hne := HW.some wg9
      refine wpM_end (by kernel_rfl) rfl (by kernel_rfl) (by decide) ?_
      rintro _ ⟨sz, rfl⟩
      simp only [List.drop_succ_cons, List.drop_zero]
      go_simp
      replace Kz0 := endC.stay Kz0 sz.h
      replace AZh := AZh.stay sz.h
      replace Kz1 := msgC.stay Kz1 sz.h
      replace KAh := endResultC.stay KAh sz.h
      replace BB := Below.step BB sz.h
      clear hne
      generalize sz.w = Wh at *
      clear sz
      revert NEh
      revert GZh
      revert AZh
      revert KAh
      revert Kz1
      revert Kz0
      revert BB
      revert gzh
      revert qh3
      revert ph3
      revert qh2_6_4
      revert ph2_6_4
      revert qh2_6_3
      revert ph2_6_3
      revert qh2_6_2
      revert ph2_6_2
      revert qh2_6_1
      revert ph2_6_1
      revert qh2_5
      revert ph2_5
      revert qh2_4
      revert ph2_4
      revert qh2_1_4
      revert ph2_1_4
      revert qh2_1_2
      revert ph2_1_2
      revert fph
      revert qz1h2
      revert pz1h2
      revert fz1
      revert qz0h6_4
      revert pz0h6_4
      revert qz0h6_3
      revert pz0h6_3
      revert qz0h6_2
      revert pz0h6_2
      revert qz0h6_1
      revert pz0h6_1
      revert qz0h5
      revert pz0h5
      revert qz0h4
      revert pz0h4
      revert qz0h1_4
      revert pz0h1_4
      revert qz0h1_2
      revert pz0h1_2
      revert fz0
      revert Wh
      exact JN.out
    ·skip
     refine mOp_make rfl (by go_simp) ?_
     rintro _ ⟨sg, rfl⟩
     refine ⟨.pointer (some ⟨sg.w.heap.size, 0, none⟩), sg.w.alloc (.cells #[.int .i64 0, .int .i64 0, .slice none 0 0, .int .i64 0, .slice none 0 0, .int .i64 0, .int .i64 0, .slice none 0 0, .slice none 0 0, .slice none 0 0, .slice none 0 0, .slice none 0 0, .slice none 0 0, .slice none 0 0] 38), by go_simp, ⟨⟨_, alloc_below _ _⟩, rfl⟩, ?_⟩
     have hbg := Below.step sg.h (alloc_below sg.w (.cells #[.int .i64 0, .int .i64 0, .slice none 0 0, .int .i64 0, .slice none 0 0, .int .i64 0, .int .i64 0, .slice none 0 0, .slice none 0 0, .slice none 0 0, .slice none 0 0, .slice none 0 0, .slice none 0 0, .slice none 0 0] 38))
     have AZh := Arr.new sg.w [.int .i64 0, .int .i64 0, .slice none 0 0, .int .i64 0, .slice none 0 0, .int .i64 0, .int .i64 0, .slice none 0 0, .slice none 0 0, .slice none 0 0, .slice none 0 0, .slice none 0 0, .slice none 0 0, .slice none 0 0] 38
     have GZh := (show Hid (w14.heap.size ≤ sg.w.heap.size) from (Below.step BB sg.h).size)
     replace BB := Below.step BB hbg
     clear hbg
     replace hne := HW.some (sg.w.alloc (.cells #[.int .i64 0, .int .i64 0, .slice none 0 0, .int .i64 0, .slice none 0 0, .int .i64 0, .int .i64 0, .slice none 0 0, .slice none 0 0, .slice none 0 0, .slice none 0 0, .slice none 0 0, .slice none 0 0, .slice none 0 0] 38))
     generalize hW : (sg.w.alloc (.cells #[.int .i64 0, .int .i64 0, .slice none 0 0, .int .i64 0, .slice none 0 0, .int .i64 0, .int .i64 0, .slice none 0 0, .slice none 0 0, .slice none 0 0, .slice none 0 0, .slice none 0 0, .slice none 0 0, .slice none 0 0] 38)) = wg10 at *
     clear hW
     generalize sg.w.heap.size = gzh at *
     clear sg
     refine wpM_only (i := 1) (by kernel_rfl) ?_
     refine mOp_call rfl (by go_simp) 9 _ #[.agg #[.int .i64 x0.1.1, .slice p01_2 x0.1.2.1.length q01_2, .int .i64 x0.1.2.2.1, .slice p01_4 x0.1.2.2.2.length q01_4, .int .i64 x0.2.1, .int .i64 x0.2.2.1, .slice p04 x0.2.2.2.1.length q04, .slice p05 x0.2.2.2.2.1.length q05, .slice p06_1 x0.2.2.2.2.2.1.length q06_1, .slice p06_2 x0.2.2.2.2.2.2.1.length q06_2, .slice p06_3 x0.2.2.2.2.2.2.2.1.length q06_3, .slice p06_4 x0.2.2.2.2.2.2.2.2.length q06_4]] (fun w => by go_simp) rfl ?_
     rintro _ ⟨sg, rfl⟩
     refine (toEnd_k x0 _ _ (endC.keep (endC.keep HR0.out BW) (Below.step BB sg.h)) (by omega)).mono ?_
     rintro e wg11 ⟨uz0, fz0, rfl, kz0, hbx⟩
     obtain ⟨pz0h1_2, qz0h1_2, pz0h1_4, qz0h1_4, pz0h4, qz0h4, pz0h5, qz0h5, pz0h6_1, qz0h6_1, pz0h6_2, qz0h6_2, pz0h6_3, qz0h6_3, pz0h6_4, qz0h6_4, es, -, -, -, -, -, -, -, -⟩ := end_rep (endC.toRep kz0)
     subst es
     have hbg := Below.step sg.h hbx
     refine ⟨_, rfl, ⟨⟨wg11, hbx⟩, rfl⟩, ?_⟩
     have Kz0 := endC.low kz0 ((Below.step BB sg.h)).size
     replace AZh := AZh.stay hbg
     replace BB := Below.step BB hbg
     clear hbg hbx sg kz0
     replace hne := HW.some wg11
     refine wpM_only (i := 3) (by kernel_rfl) ?_
     refine mOp_call rfl (by go_simp) 21 _ #[.agg #[.int .i64 x1.1, .slice p12 x1.2.length q12]] (fun w => by go_simp) rfl ?_
     rintro _ ⟨sg, rfl⟩
     refine (toMsg_k x1 _ _ (msgC.keep (msgC.keep HR1.out BW) (Below.step BB sg.h)) (by omega)).mono ?_
     rintro e wg12 ⟨uz1, fz1, rfl, kz1, hbx⟩
     obtain ⟨pz1h2, qz1h2, es, -⟩ := msg_rep (msgC.toRep kz1)
     subst es
     have hbg := Below.step sg.h hbx
     refine ⟨_, rfl, ⟨⟨wg12, hbx⟩, rfl⟩, ?_⟩
     have Kz1 := msgC.low kz1 ((Below.step BB sg.h)).size
     replace AZh := AZh.stay hbg
     replace Kz0 := endC.stay Kz0 hbg
     replace BB := Below.step BB hbg
     clear hbg hbx sg kz1
     replace hne := HW.some wg12
     refine wpM_only (i := 4) (by kernel_rfl) ?_
     refine mOp_call rfl (by go_simp) 22 _ #[.agg #[.int .i64 x0.1.1, .slice pz0h1_2 x0.1.2.1.length qz0h1_2, .int .i64 x0.1.2.2.1, .slice pz0h1_4 x0.1.2.2.2.length qz0h1_4, .int .i64 x0.2.1, .int .i64 x0.2.2.1, .slice pz0h4 x0.2.2.2.1.length qz0h4, .slice pz0h5 x0.2.2.2.2.1.length qz0h5, .slice pz0h6_1 x0.2.2.2.2.2.1.length qz0h6_1, .slice pz0h6_2 x0.2.2.2.2.2.2.1.length qz0h6_2, .slice pz0h6_3 x0.2.2.2.2.2.2.2.1.length qz0h6_3, .slice pz0h6_4 x0.2.2.2.2.2.2.2.2.length qz0h6_4], .agg #[.int .i64 x1.1, .slice pz1h2 x1.2.length qz1h2]] (fun w => by go_simp) rfl ?_
     rintro _ ⟨sg, rfl⟩
     refine (implHn_k x0 x1 _ _ _ (endC.toRep (endC.stay Kz0 sg.h)) (msgC.toRep (msgC.stay Kz1 sg.h)) ((hT.keep BW).keep (Below.step BB sg.h))).mono ?_
     rintro e wg13 ⟨ush, fph, rfl, kah, hbx⟩
     obtain ⟨ph2_1_2, qh2_1_2, ph2_1_4, qh2_1_4, ph2_4, qh2_4, ph2_5, qh2_5, ph2_6_1, qh2_6_1, ph2_6_2, qh2_6_2, ph2_6_3, qh2_6_3, ph2_6_4, qh2_6_4, ph3, qh3, es, -, -, -, -, -, -, -, -, -⟩ := endResult_rep (endResultC.toRep kah)
     subst es
     have hbg := Below.step sg.h hbx
     refine ⟨_, rfl, ⟨⟨wg13, hbx⟩, rfl⟩, ?_⟩
     have KAh := endResultC.low kah ((Below.step BB sg.h)).size
     have NEh := (show ∀ k, k ∈ fph → k ≠ gzh from fun k h e => by have h1 := (endResultC.ins kah k h).1; have h2 := AZh.lt; have h3 := sg.h.size; omega)
     replace AZh := AZh.stay hbg
     replace Kz0 := endC.stay Kz0 hbg
     replace Kz1 := msgC.stay Kz1 hbg
     replace BB := Below.step BB hbg
     clear hbg hbx sg kah
     replace hne := HW.some wg13
     refine wpM_end (by kernel_rfl) rfl (by kernel_rfl) (by decide) ?_
     rintro _ ⟨sz, rfl⟩
     simp only [List.drop_succ_cons, List.drop_zero]
     go_simp
     replace AZh := AZh.stay sz.h
     replace Kz0 := endC.stay Kz0 sz.h
     replace Kz1 := msgC.stay Kz1 sz.h
     replace KAh := endResultC.stay KAh sz.h
     replace BB := Below.step BB sz.h
     clear hne
     generalize sz.w = Wh at *
     clear sz
     revert NEh
     revert GZh
     revert AZh
     revert KAh
     revert Kz1
     revert Kz0
     revert BB
     revert gzh
     revert qh3
     revert ph3
     revert qh2_6_4
     revert ph2_6_4
     revert qh2_6_3
     revert ph2_6_3
     revert qh2_6_2
     revert ph2_6_2
     revert qh2_6_1
     revert ph2_6_1
     revert qh2_5
     revert ph2_5
     revert qh2_4
     revert ph2_4
     revert qh2_1_4
     revert ph2_1_4
     revert qh2_1_2
     revert ph2_1_2
     revert fph
     revert qz1h2
     revert pz1h2
     revert fz1
     revert qz0h6_4
     revert pz0h6_4
     revert qz0h6_3
     revert pz0h6_3
     revert qz0h6_2
     revert pz0h6_2
     revert qz0h6_1
     revert pz0h6_1
     revert qz0h5
     revert pz0h5
     revert qz0h4
     revert pz0h4
     revert qz0h1_4
     revert pz0h1_4
     revert qz0h1_2
     revert pz0h1_2
     revert fz0
     revert Wh
     exact JN.out
   intro Wh fz0 pz0h1_2 qz0h1_2 pz0h1_4 qz0h1_4 pz0h4 qz0h4 pz0h5 qz0h5 pz0h6_1 qz0h6_1 pz0h6_2 qz0h6_2 pz0h6_3 qz0h6_3 pz0h6_4 qz0h6_4 fz1 pz1h2 qz1h2 fph ph2_1_2 qh2_1_2 ph2_1_4 qh2_1_4 ph2_4 qh2_4 ph2_5 qh2_5 ph2_6_1 qh2_6_1 ph2_6_2 qh2_6_2 ph2_6_3 qh2_6_3 ph2_6_4 qh2_6_4 ph3 qh3 gzh BB Kz0 Kz1 KAh AZh GZh NEh
   have hresh : Hid ((Tryz.prog.info? 38).map (·.size) = some 14) := by show _ = _; kernel_rfl
   refine wpList_store_row rfl 38 _ _ rfl gzh #[.int .i64 (hnE x0 x1).1, .int .i64 (hnE x0 x1).2.1.1.1, .slice ph2_1_2 (hnE x0 x1).2.1.1.2.1.length qh2_1_2, .int .i64 (hnE x0 x1).2.1.1.2.2.1, .slice ph2_1_4 (hnE x0 x1).2.1.1.2.2.2.length qh2_1_4, .int .i64 (hnE x0 x1).2.1.2.1, .int .i64 (hnE x0 x1).2.1.2.2.1, .slice ph2_4 (hnE x0 x1).2.1.2.2.2.1.length qh2_4, .slice ph2_5 (hnE x0 x1).2.1.2.2.2.2.1.length qh2_5, .slice ph2_6_1 (hnE x0 x1).2.1.2.2.2.2.2.1.length qh2_6_1, .slice ph2_6_2 (hnE x0 x1).2.1.2.2.2.2.2.2.1.length qh2_6_2, .slice ph2_6_3 (hnE x0 x1).2.1.2.2.2.2.2.2.2.1.length qh2_6_3, .slice ph2_6_4 (hnE x0 x1).2.1.2.2.2.2.2.2.2.2.length qh2_6_4, .slice ph3 (hnE x0 x1).2.2.length qh3] rfl rfl 38 #[.int .i64 0, .int .i64 0, .slice none 0 0, .int .i64 0, .slice none 0 0, .int .i64 0, .int .i64 0, .slice none 0 0, .slice none 0 0, .slice none 0 0, .slice none 0 0, .slice none 0 0, .slice none 0 0, .slice none 0 0] AZh hresh.out rfl (by simp [Value.oneCell']) ?_
   have A2h := (Loc.arr (AZh.row [.int .i64 (hnE x0 x1).1, .int .i64 (hnE x0 x1).2.1.1.1, .slice ph2_1_2 (hnE x0 x1).2.1.1.2.1.length qh2_1_2, .int .i64 (hnE x0 x1).2.1.1.2.2.1, .slice ph2_1_4 (hnE x0 x1).2.1.1.2.2.2.length qh2_1_4, .int .i64 (hnE x0 x1).2.1.2.1, .int .i64 (hnE x0 x1).2.1.2.2.1, .slice ph2_4 (hnE x0 x1).2.1.2.2.2.1.length qh2_4, .slice ph2_5 (hnE x0 x1).2.1.2.2.2.2.1.length qh2_5, .slice ph2_6_1 (hnE x0 x1).2.1.2.2.2.2.2.1.length qh2_6_1, .slice ph2_6_2 (hnE x0 x1).2.1.2.2.2.2.2.2.1.length qh2_6_2, .slice ph2_6_3 (hnE x0 x1).2.1.2.2.2.2.2.2.2.1.length qh2_6_3, .slice ph2_6_4 (hnE x0 x1).2.1.2.2.2.2.2.2.2.2.length qh2_6_4, .slice ph3 (hnE x0 x1).2.2.length qh3])).1
   have hb15 : Below w14.heap.size w14 (Wh.setRow gzh #[.int .i64 (hnE x0 x1).1, .int .i64 (hnE x0 x1).2.1.1.1, .slice ph2_1_2 (hnE x0 x1).2.1.1.2.1.length qh2_1_2, .int .i64 (hnE x0 x1).2.1.1.2.2.1, .slice ph2_1_4 (hnE x0 x1).2.1.1.2.2.2.length qh2_1_4, .int .i64 (hnE x0 x1).2.1.2.1, .int .i64 (hnE x0 x1).2.1.2.2.1, .slice ph2_4 (hnE x0 x1).2.1.2.2.2.1.length qh2_4, .slice ph2_5 (hnE x0 x1).2.1.2.2.2.2.1.length qh2_5, .slice ph2_6_1 (hnE x0 x1).2.1.2.2.2.2.2.1.length qh2_6_1, .slice ph2_6_2 (hnE x0 x1).2.1.2.2.2.2.2.2.1.length qh2_6_2, .slice ph2_6_3 (hnE x0 x1).2.1.2.2.2.2.2.2.2.1.length qh2_6_3, .slice ph2_6_4 (hnE x0 x1).2.1.2.2.2.2.2.2.2.2.length qh2_6_4, .slice ph3 (hnE x0 x1).2.2.length qh3]) := Below.row BB GZh.out _
   replace KAh := endResultC.row KAh NEh #[.int .i64 (hnE x0 x1).1, .int .i64 (hnE x0 x1).2.1.1.1, .slice ph2_1_2 (hnE x0 x1).2.1.1.2.1.length qh2_1_2, .int .i64 (hnE x0 x1).2.1.1.2.2.1, .slice ph2_1_4 (hnE x0 x1).2.1.1.2.2.2.length qh2_1_4, .int .i64 (hnE x0 x1).2.1.2.1, .int .i64 (hnE x0 x1).2.1.2.2.1, .slice ph2_4 (hnE x0 x1).2.1.2.2.2.1.length qh2_4, .slice ph2_5 (hnE x0 x1).2.1.2.2.2.2.1.length qh2_5, .slice ph2_6_1 (hnE x0 x1).2.1.2.2.2.2.2.1.length qh2_6_1, .slice ph2_6_2 (hnE x0 x1).2.1.2.2.2.2.2.2.1.length qh2_6_2, .slice ph2_6_3 (hnE x0 x1).2.1.2.2.2.2.2.2.2.1.length qh2_6_3, .slice ph2_6_4 (hnE x0 x1).2.1.2.2.2.2.2.2.2.2.length qh2_6_4, .slice ph3 (hnE x0 x1).2.2.length qh3]
   have GLh : Hid (w14.heap.size ≤ gzh) := GZh.out
   have ZLh : gzh < Wh.heap.size := AZh.lt
   have SZh : (Wh.setRow gzh #[.int .i64 (hnE x0 x1).1, .int .i64 (hnE x0 x1).2.1.1.1, .slice ph2_1_2 (hnE x0 x1).2.1.1.2.1.length qh2_1_2, .int .i64 (hnE x0 x1).2.1.1.2.2.1, .slice ph2_1_4 (hnE x0 x1).2.1.1.2.2.2.length qh2_1_4, .int .i64 (hnE x0 x1).2.1.2.1, .int .i64 (hnE x0 x1).2.1.2.2.1, .slice ph2_4 (hnE x0 x1).2.1.2.2.2.1.length qh2_4, .slice ph2_5 (hnE x0 x1).2.1.2.2.2.2.1.length qh2_5, .slice ph2_6_1 (hnE x0 x1).2.1.2.2.2.2.2.1.length qh2_6_1, .slice ph2_6_2 (hnE x0 x1).2.1.2.2.2.2.2.2.1.length qh2_6_2, .slice ph2_6_3 (hnE x0 x1).2.1.2.2.2.2.2.2.2.1.length qh2_6_3, .slice ph2_6_4 (hnE x0 x1).2.1.2.2.2.2.2.2.2.2.length qh2_6_4, .slice ph3 (hnE x0 x1).2.2.length qh3]).heap.size = Wh.heap.size := size_setRow _ _ _
   clear BB AZh GZh NEh Kz0 Kz1
   generalize Wh.setRow gzh #[.int .i64 (hnE x0 x1).1, .int .i64 (hnE x0 x1).2.1.1.1, .slice ph2_1_2 (hnE x0 x1).2.1.1.2.1.length qh2_1_2, .int .i64 (hnE x0 x1).2.1.1.2.2.1, .slice ph2_1_4 (hnE x0 x1).2.1.1.2.2.2.length qh2_1_4, .int .i64 (hnE x0 x1).2.1.2.1, .int .i64 (hnE x0 x1).2.1.2.2.1, .slice ph2_4 (hnE x0 x1).2.1.2.2.2.1.length qh2_4, .slice ph2_5 (hnE x0 x1).2.1.2.2.2.2.1.length qh2_5, .slice ph2_6_1 (hnE x0 x1).2.1.2.2.2.2.2.1.length qh2_6_1, .slice ph2_6_2 (hnE x0 x1).2.1.2.2.2.2.2.2.1.length qh2_6_2, .slice ph2_6_3 (hnE x0 x1).2.1.2.2.2.2.2.2.2.1.length qh2_6_3, .slice ph2_6_4 (hnE x0 x1).2.1.2.2.2.2.2.2.2.2.length qh2_6_4, .slice ph3 (hnE x0 x1).2.2.length qh3] = w15 at *
   rw [← SZh] at ZLh
   clear SZh
   have gkh : Hid (∀ k, k ∈ fph → w14.heap.size ≤ k ∧ k < w15.heap.size) := fun k hk => endResultC.ins KAh k hk
   have kh := (Cod.own.win KAh (Nat.le_refl _) gkh.out)
   have sC := Win.wide (Has.win A2h) GLh.out ZLh (Nat.le_refl _)
   clear KAh A2h GLh ZLh hresh
   have z15 : Hid (w14.heap.size ≤ w15.heap.size) := hb15.size
   replace sP0 := sP0.stay hb15
   replace sP1 := sP1.stay hb15
   replace ks := ks.stay hb15
   replace sA := sA.stay hb15
   replace sX0 := sX0.stay hb15
   replace sX1 := sX1.stay hb15
   replace sB := sB.stay hb15
   replace km := km.stay hb15
   replace BW := Below.step BW hb15
   clear hb15
   go_simp
   have csA0 := sA.now 0 _ rfl
   have csA1 := sA.now 1 _ rfl
   have csA2 := sA.now 2 _ rfl
   have csA3 := sA.now 3 _ rfl
   have csA4 := sA.now 4 _ rfl
   have csA5 := sA.now 5 _ rfl
   have csA6 := sA.now 6 _ rfl
   have csA7 := sA.now 7 _ rfl
   have csA8 := sA.now 8 _ rfl
   have csA9 := sA.now 9 _ rfl
   have csA10 := sA.now 10 _ rfl
   have csA11 := sA.now 11 _ rfl
   have csA12 := sA.now 12 _ rfl
   have csA13 := sA.now 13 _ rfl
   have zsA := Has.lt sA.now
   have csC0 := sC.now 0 _ rfl
   have csC1 := sC.now 1 _ rfl
   have csC2 := sC.now 2 _ rfl
   have csC3 := sC.now 3 _ rfl
   have csC4 := sC.now 4 _ rfl
   have csC5 := sC.now 5 _ rfl
   have csC6 := sC.now 6 _ rfl
   have csC7 := sC.now 7 _ rfl
   have csC8 := sC.now 8 _ rfl
   have csC9 := sC.now 9 _ rfl
   have csC10 := sC.now 10 _ rfl
   have csC11 := sC.now 11 _ rfl
   have csC12 := sC.now 12 _ rfl
   have csC13 := sC.now 13 _ rfl
   have zsC := Has.lt sC.now
   go_wp2_with fail
   refine (eqEndResult_k (hnE x0 x1) _ _ _ (endResultC.toRep kh.now) (endResultC.toRep ks.now)).mono ?_
   rintro e w16 ⟨rfl, hb16⟩
   have z16 : Hid (w15.heap.size ≤ w16.heap.size) := hb16.size
   replace sP0 := sP0.stay hb16
   replace sP1 := sP1.stay hb16
   replace ks := ks.stay hb16
   replace sA := sA.stay hb16
   replace sX0 := sX0.stay hb16
   replace sX1 := sX1.stay hb16
   replace sB := sB.stay hb16
   replace km := km.stay hb16
   replace kh := kh.stay hb16
   replace sC := sC.stay hb16
   replace BW := Below.step BW hb16
   clear hb16 csA0 csA1 csA2 csA3 csA4 csA5 csA6 csA7 csA8 csA9 csA10 csA11 csA12 csA13 zsA csC0 csC1 csC2 csC3 csC4 csC5 csC6 csC7 csC8 csC9 csC10 csC11 csC12 csC13 zsC
   clear sC sA ks kh
   have csB0 := sB.now 0 _ rfl
   have csB1 := sB.now 1 _ rfl
   have csB2 := sB.now 2 _ rfl
   have csB3 := sB.now 3 _ rfl
   have csB4 := sB.now 4 _ rfl
   have csB5 := sB.now 5 _ rfl
   have csB6 := sB.now 6 _ rfl
   have csB7 := sB.now 7 _ rfl
   have csB8 := sB.now 8 _ rfl
   have csB9 := sB.now 9 _ rfl
   have csB10 := sB.now 10 _ rfl
   have csB11 := sB.now 11 _ rfl
   have csB12 := sB.now 12 _ rfl
   have csB13 := sB.now 13 _ rfl
   have zsB := Has.lt sB.now
   go_wp2_with fail
   refine (heldEndResult_k (hnE x0 x1) _ 1 1 rfl _ (endResultC.toRep km.now) hlen2).mono ?_
   rintro e w17 ⟨rfl, hb17⟩
   have z17 : Hid (w16.heap.size ≤ w17.heap.size) := hb17.size
   replace sP0 := sP0.stay hb17
   replace sP1 := sP1.stay hb17
   replace sX0 := sX0.stay hb17
   replace sX1 := sX1.stay hb17
   replace sB := sB.stay hb17
   replace km := km.stay hb17
   replace BW := Below.step BW hb17
   clear hb17 csB0 csB1 csB2 csB3 csB4 csB5 csB6 csB7 csB8 csB9 csB10 csB11 csB12 csB13 zsB
   go_wp2
   go_ret
   exact ⟨rfl, BW⟩
  ·go_enter Tryz.func4, Tryz.ntmps4
   go_wp2_with fail
   refine (szEnd_k x0 _ _ _ (endC.keep (endC.keep HR0.out (alloc_below _ _)) (alloc_below _ _)) (by omega) (by omega)).mono ?_
   rintro e w1 ⟨rfl, hb1⟩
   have sP1 := (Has.new hb1).win
   rw [size_alloc] at sP1
   have z1 : Hid (w.heap.size + 2 ≤ w1.heap.size) := by have h := size_lt hb1; rw [size_alloc] at h; exact h
   replace hb1 := Below.res hb1
   have sP0 := (Has.new hb1).win
   replace hb1 := Below.res hb1
   have BW := hb1
   clear hb1
   rw [szR, if_pos (by omega)]
   have csP10 := sP1.now 0 _ rfl
   have csP11 := sP1.now 1 _ rfl
   have zsP1 := Has.lt sP1.now
   go_wp2_with fail
   refine (szMsg_k x1 _ _ _ (msgC.keep HR1.out BW) (by omega) (by omega)).mono ?_
   rintro e w2 ⟨rfl, hb2⟩
   have z2 : Hid (w1.heap.size ≤ w2.heap.size) := hb2.size
   replace sP0 := sP0.stay hb2
   replace sP1 := sP1.stay hb2
   replace BW := Below.step BW hb2
   clear hb2 csP10 csP11 zsP1
   rw [szR, if_neg (by omega)]
   go_wp2
   go_ret
   exact ⟨rfl, BW⟩
 ·go_enter Tryz.func4, Tryz.ntmps4
  go_wp2_with fail
  refine (szEnd_k x0 _ _ _ (endC.keep (endC.keep HR0.out (alloc_below _ _)) (alloc_below _ _)) (by omega) (by omega)).mono ?_
  rintro e w1 ⟨rfl, hb1⟩
  have sP1 := (Has.new hb1).win
  rw [size_alloc] at sP1
  have z1 : Hid (w.heap.size + 2 ≤ w1.heap.size) := by have h := size_lt hb1; rw [size_alloc] at h; exact h
  replace hb1 := Below.res hb1
  have sP0 := (Has.new hb1).win
  replace hb1 := Below.res hb1
  have BW := hb1
  clear hb1
  rw [szR, if_neg (by omega)]
  go_wp2
  go_ret
  exact ⟨rfl, BW⟩
/-! The row's step. -/
theorem door_met (os : Os) (args : Array Value) : laidMetH Tryz.prog Rows.fnExactHearFinishRow.laid ((World.doorLaid Tryz.prog 400 os).forCall (fun _ _ => 0) ⟨#[], args, []⟩).memory :=
 laidMet_of_run' 8 (by kernel_rfl) (by kernel_rfl)
set_option maxRecDepth 100000 in
set_option maxHeartbeats 1000000 in
theorem lifted (os : Os) (started : os.Started) (H : Type) (enc : TypeId × Value → H) :
  ReturnsInHanded {} Tryz.checked os 4 .any (fun w args => (Rows.fnExactHearFinishSpec.pre enc Tryz.prog Tryz.f4 [] false w args ∧ laidMetH Tryz.prog Rows.fnExactHearFinishRow.laid w) ∧ sizedMet enc Tryz.prog Tryz.f4 (OpenSpec.ofChange Rows.fnExactHearFinishSpec) false w args) (Rows.fnExactHearFinishSpec.post enc Tryz.prog Tryz.f4 false true false false) := by
 refine returnsInHanded_of_change_and (C := Tryz.checked) (X := fun w _ => laidMetH Tryz.prog Rows.fnExactHearFinishRow.laid w) (fun _ _ _ hh h => h.of_heap hh) own started (by kernel_rfl) Tryz.func4
  (ChangeSpec.witness_shaped (enc := enc) (C := Tryz.checked) (os := os) (X := fun w _ => laidMetH Tryz.prog Rows.fnExactHearFinishRow.laid w) false (World.doorLaid Tryz.prog 400 os) #[.agg #[.int .i64 0, .slice none 0 0, .int .i64 0, .slice none 0 0, .int .i64 0, .int .i64 0, .slice none 0 0, .slice none 0 0, .slice none 0 0, .slice none 0 0, .slice none 0 0, .slice none 0 0], .agg #[.int .i64 0, .slice none 0 0]] 8 rfl (World.shaped_of_RefB (by kernel_rfl) (by kernel_rfl)) (by kernel_rfl) (by kernel_rfl) (by kernel_rfl) (door_met os _)) ?_
 intro W base args ds gs before hval0 hW hcnd _ hL _
 have hval : ∀ (j : Nat) t v, Tryz.f4.params[j]? = some t → args[j]? = some v → Value.okWide Tryz.prog W .any base t v := hval0
 have hW' := hW
 obtain ⟨p, q, hA0, hV, rfl, hfz, hnd⟩ := hW
 have hA : DataW.TrodAll enc Tryz.prog W 0 (fun _ => true) true Tryz.f4.params.toList args.toList ds p := hA0
 rw [Tryz.params4] at hA hval
 obtain ⟨v0, vs0, d0, ds0, s0, t0, hargs, rfl, rfl, h0, m0⟩ := trodAll_cons hA
 obtain ⟨v1, vs1, d1, ds1, s1, t1, rfl, rfl, rfl, h1, m1⟩ := trodAll_cons m0
 obtain ⟨rfl, rfl, rfl⟩ := trodAll_nil m1
 obtain rfl : args = #[v0, v1] := by cases args; simp_all
 obtain ⟨v0a, v0b, v0c, v0d, v0e, v0f, v1a, v1b, v1c, v1d, v1e, v1f, rfl, -⟩ := trodVars_two hV
 obtain ⟨cs0, rfl, -⟩ := okWide_struct Tryz.underlying29 (hval 0 29 v0 rfl rfl)
 have k0 := h0
 have lt0 : ∀ x ∈ s0, x.block < W.heap.size := by obtain ⟨m, hm⟩ := k0; exact DataW.trod_lt m _ _ _ hm
 obtain ⟨x0, r0⟩ : ∃ x, Cod.rep endC W x cs0.toList := by obtain ⟨fuel, hf⟩ := h0; exact (opens_struct (c := endC) Tryz.underlying29 (by kernel_rfl) (opensF_cons rfl (by kernel_rfl) (opens_struct (c := sideC) Tryz.underlying24 (by kernel_rfl) (opensF_cons rfl (by kernel_rfl) (opens_int Tryz.underlying2) (opensF_cons rfl (by kernel_rfl) (opens_bytes Tryz.underlying22 Tryz.underlying5 (by kernel_rfl)) (opensF_cons rfl (by kernel_rfl) (opens_int Tryz.underlying2) (opensF_one rfl (by kernel_rfl) (opens_bytes Tryz.underlying22 Tryz.underlying5 (by kernel_rfl))))))) (opensF_cons rfl (by kernel_rfl) (opens_int Tryz.underlying2) (opensF_cons rfl (by kernel_rfl) (opens_int Tryz.underlying2) (opensF_cons rfl (by kernel_rfl) (opens_list (e' := 50) (c := msgC) Tryz.underlying25 (by kernel_rfl) (by decide) (opens_struct (c := msgC) Tryz.underlying50 (by kernel_rfl) (opensF_cons rfl (by kernel_rfl) (opens_int Tryz.underlying2) (opensF_one rfl (by kernel_rfl) (opens_bytes Tryz.underlying22 Tryz.underlying5 (by kernel_rfl)))))) (opensF_cons rfl (by kernel_rfl) (opens_bytes Tryz.underlying22 Tryz.underlying5 (by kernel_rfl)) (opensF_one rfl (by kernel_rfl) (opens_struct (c := secretsC) Tryz.underlying27 (by kernel_rfl) (opensF_cons rfl (by kernel_rfl) (opens_bytes Tryz.underlying22 Tryz.underlying5 (by kernel_rfl)) (opensF_cons rfl (by kernel_rfl) (opens_bytes Tryz.underlying22 Tryz.underlying5 (by kernel_rfl)) (opensF_cons rfl (by kernel_rfl) (opens_bytes Tryz.underlying22 Tryz.underlying5 (by kernel_rfl)) (opensF_one rfl (by kernel_rfl) (opens_bytes Tryz.underlying22 Tryz.underlying5 (by kernel_rfl)))))))))))))) _ _ _ hf
 obtain ⟨cs1, rfl, -⟩ := okWide_struct Tryz.underlying50 (hval 1 50 v1 rfl rfl)
 have k1 := h1
 have lt1 : ∀ x ∈ s1, x.block < W.heap.size := by obtain ⟨m, hm⟩ := k1; exact DataW.trod_lt m _ _ _ hm
 obtain ⟨x1, r1⟩ : ∃ x, Cod.rep msgC W x cs1.toList := by obtain ⟨fuel, hf⟩ := h1; exact (opens_struct (c := msgC) Tryz.underlying50 (by kernel_rfl) (opensF_cons rfl (by kernel_rfl) (opens_int Tryz.underlying2) (opensF_one rfl (by kernel_rfl) (opens_bytes Tryz.underlying22 Tryz.underlying5 (by kernel_rfl))))) _ _ _ hf
 clear hA0 hval0
 refine (walk x0 cs0.toList x1 cs1.toList W r0 r1 (tabs_of hL)).mono fun e W' ⟨he, bel⟩ => ?_
 subst he
 exact ⟨_, rfl, _, _, _, [], _, _, hW', trodAll_mk1 (shut_bool Tryz.underlying4 _), (trodAll_cons_mk (Below.trod laidOut (by kernel_rfl) (of_decide_eq_true (by kernel_rfl)) k0 bel lt0) (trodAll_cons_mk (Below.trod laidOut (by kernel_rfl) (of_decide_eq_true (by kernel_rfl)) k1 bel lt1) trodAll_mk0)), Below.trodVars laidOut bel (by kernel_rfl) hV, bel.frame _, fun h => by cases h⟩
theorem over : Rows.fnExactHearFinishRow.holds Tryz.pinned (OpenSpec.ofChange Rows.fnExactHearFinishSpec) :=
 OpenClaim.holds_of_wide 4 Tryz.f4 rfl rfl rfl rfl rfl rfl rfl ⟨rfl, rfl, rfl, rfl, rfl⟩ rfl rfl rfl rfl rfl (by kernel_rfl) Tryz.func4 (by kernel_rfl)
  (of_decide_eq_true (by kernel_rfl)) (by unfold Func.isWrapper; first | (rw [if_pos (by decide +kernel)]; kernel_rfl) | (rw [if_neg (by decide +kernel)]; exact ⟨rfl, rfl⟩))
  (fun os started H enc _ => lifted os started H enc)
theorem plain (f : FuncId) (fn : Func) (hf : Tryz.pinned.checked.prog.funcNamed "loop.example/g00375/laws.FnExactHearFinish" = some f) (hfn : Tryz.pinned.checked.prog.funcs[f]? = some fn) :
  true = Tryz.pinned.checked.prog.looks [] ∧ ∀ (j : Nat) t, fn.params[j]? = some t → Tryz.pinned.checked.prog.wantsStandIn t = false := by
 obtain rfl : f = 4 := Option.some.inj ((show Tryz.prog.funcNamed "loop.example/g00375/laws.FnExactHearFinish" = some 4 by kernel_rfl).symm.trans hf) |>.symm
 obtain rfl : fn = Tryz.f4 := (Option.some.inj (Tryz.func4.symm.trans hfn)).symm
 refine ⟨by kernel_rfl, fun j t ht => ?_⟩
 rw [Tryz.params4] at ht
 have hm : t ∈ [29, 50] := by simpa using Array.mem_of_getElem? ht
 have hall : ([29, 50].all fun u => !Tryz.prog.wantsStandIn u) = true := by kernel_rfl
 exact (show Tryz.prog.wantsStandIn t = false by simpa using List.all_eq_true.1 hall t hm)
theorem card : Rows.FnExactHearFinishCardSaid :=
 Claim7.holds_tied_plain_at .later [] _ _ _ _ over (fun _ h => by cases h) (by kernel_rfl) (fun _ h => by cases h) fnExactHearFinish_row_tie rfl ⟨rfl, rfl⟩ (by kernel_rfl) rfl plain (by kernel_rfl)
end Go.Proofs.YtiabacnmmojfjabGreatDoor.fnExactHearFinish
namespace Go.Proofs.YtiabacnmmojfjabGreatDoor
theorem fnExactHearFinish_holds : Rows.FnExactHearFinishCardSaid := fnExactHearFinish.card
end Go.Proofs.YtiabacnmmojfjabGreatDoor
