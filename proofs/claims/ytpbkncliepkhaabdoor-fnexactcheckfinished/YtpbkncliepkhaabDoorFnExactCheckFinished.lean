/- CheckFinished of the program answers as the specification's, every field, leaves its arguments alone, and its answer owns its memory, behind another call too. For every argument; no condition. -/
import Derived.Test.YtpbkncliepkhaabDoorRows
import Derived.WalkKit
import Derived.ProofKit
import Derived.OpenShut
import Derived.ChangeOld
import Derived.Below
import Derived.Test.YtpbkncliepkhaabDoorOpen
import Derived.OpenVars
import Derived.LaidMore
import Derived.Stop.Joined
import Derived.SevenTiedAt
import Derived.Test.YtpbkncliepkhaabDoorJoint1
import Derived.Test.YtpbkncliepkhaabDoorHelI
import Derived.Test.YtpbkncliepkhaabDoorPick2
import Derived.Test.YtpbkncliepkhaabDoorJoint14
import Derived.Test.YtpbkncliepkhaabDoorCards
import Derived.Test.YtpbkncliepkhaabDoorTie
namespace Go.Proofs.YtpbkncliepkhaabDoor.fnExactCheckFinished
open Go.ChangeShapes Go.WideShapes Go.ChangeAt Go.RowKit
set_option linter.unusedVariables false

theorem own : ownKnob Tryd.prog.godebug = none := by kernel_rfl
theorem laidOut : laidOutB Tryd.prog = true := by kernel_rfl

/-! The walk. -/
set_option maxRecDepth 4000 in
set_option maxHeartbeats 4000000 in
theorem walk (bs0 : List UInt8) (p0 : Option Addr) (q0 : Nat) (l1 : _) (p1 : Option Addr) (q1 : Nat) (x2 : _) (cs2 : List Value) (w : World) (r0 : Rd w p0 q0 bs0) (r1 : RdL msgC w p1 q1 l1) (r2 : Cod.rep msgC w x2 cs2) (hT : Tabs w) :
    Calls Tryd.prog 4 #[.slice p0 bs0.length q0, .slice p1 l1.length q1, .agg cs2.toArray] w fun e w' => e = .returned (.bool true) ∧ Below w.heap.size w w' := by
  obtain ⟨p22, q22, rfl, rr22⟩ := msg_rep r2
  replace r2 := msg_mk rr22
  clear rr22
  have rb0 : bytC.rep w bs0 [.slice p0 bs0.length q0] := ⟨p0, q0, rfl, r0⟩
  replace r0 := rb0
  clear rb0
  have rb1 : msgsC.rep w l1 [.slice p1 l1.length q1] := ⟨p1, q1, rfl, r1⟩
  replace r1 := rb1
  clear rb1
  change Calls _ _ #[_, _, .agg #[.int .i64 x2.1, .slice p22 x2.2.length q22]] _ _
  by_cases hl0 : 1048576 < bs0.length
  · go_enter Tryd.func4, Tryd.ntmps4
    go_wp2
    go_ret
    exact ⟨rfl, alloc_below _ _⟩
  replace hl0 : bs0.length ≤ 1048576 := by omega
  have HR0 : Hid (bytC.rep w bs0 _) := r0
  have HR1 : Hid (msgsC.rep w l1 _) := r1
  have HR2 : Hid (msgC.rep w x2 _) := r2
  clear r0 r1 r2
  by_cases hs1 : bulkM l1 ≤ 1048576
  · by_cases hs2 : msgN x2 ≤ 1048576 - (bulkM l1)
    · have ht2 := msgT_le x2
      go_enter Tryd.func4, Tryd.ntmps4
      go_wp2_with fail
      refine (szMsgS_k l1 _ _ _ (msgsC.keep HR1.out (alloc_below _ _)) (by omega) (by omega)).mono ?_
      rintro e w1 ⟨rfl, hb1⟩
      have sP2 := (Has.new hb1).win
      have z1 : Hid (w.heap.size + 1 ≤ w1.heap.size) := size_lt hb1
      replace hb1 := Below.res hb1
      have BW := hb1
      clear hb1
      rw [szR, if_pos (by omega)]
      have csP20 := sP2.now 0 _ rfl
      have csP21 := sP2.now 1 _ rfl
      have zsP2 := Has.lt sP2.now
      go_wp2_with fail
      refine (szMsg_k x2 _ _ _ (msgC.keep HR2.out BW) (by omega) (by omega)).mono ?_
      rintro e w2 ⟨rfl, hb2⟩
      have z2 : Hid (w1.heap.size ≤ w2.heap.size) := hb2.size
      replace sP2 := sP2.stay hb2
      replace BW := Below.step BW hb2
      clear hb2 csP20 csP21 zsP2
      rw [szR, if_pos (by omega)]
      have gsP20 := HW.at (sP2.now 0 _ rfl)
      have gsP21 := HW.at (sP2.now 1 _ rfl)
      have hne := HW.some w2
      go_wp2_with fail
      refine wp_region_pick [0, 2, 4] 7 4 1 rfl rfl rfl (by kernel_rfl) (by kernel_rfl) (by kernel_rfl) (by kernel_rfl) ?_
      simp only [opsAt, List.getElem?_toArray, List.getElem?_cons_zero, List.getElem?_cons_succ]
      repeat (go_big_quiet_step (fail))
      refine wpQuiet_nil ?_
      clear gsP20 gsP21
      refine wpM_only (i := 1) (by kernel_rfl) ?_
      refine mOp_call rfl (by go_simp) 7 _ #[.slice p0 bs0.length q0] (fun w => by go_simp) rfl ?_
      rintro _ ⟨sz0, rfl⟩
      refine (toByteS_k bs0 _ _ (bytC.keep (bytC.keep HR0.out BW) sz0.h) (by omega)).mono ?_
      rintro e wz0 ⟨uz0, fz0, rfl, kz0, hbz⟩
      obtain ⟨pz0, qz0, es, -⟩ := bytC.toRep kz0
      simp only [List.cons.injEq, and_true] at es
      subst es
      refine ⟨_, rfl, ⟨⟨_, hbz⟩, rfl⟩, ?_⟩
      have acc0 := Below.step sz0.h hbz
      clear hbz
      have hne0 := HW.some wz0
      refine wpM_only (i := 3) (by kernel_rfl) ?_
      refine mOp_call rfl (by go_simp) 8 _ #[.slice p1 l1.length q1] (fun w => by go_simp) rfl ?_
      rintro _ ⟨sz1, rfl⟩
      refine (toMsgS_k l1 _ _ (msgsC.keep (msgsC.keep HR1.out BW) (Below.step acc0 sz1.h)) (by omega)).mono ?_
      rintro e wz1 ⟨uz1, fz1, rfl, kz1, hbz⟩
      obtain ⟨pz1, qz1, es, -⟩ := msgsC.toRep kz1
      simp only [List.cons.injEq, and_true] at es
      subst es
      refine ⟨_, rfl, ⟨⟨_, hbz⟩, rfl⟩, ?_⟩
      replace kz0 := bytC.stay kz0 (Below.step sz1.h hbz)
      have acc1 := Below.step (Below.step acc0 sz1.h) hbz
      clear hbz acc0
      have hne1 := HW.some wz1
      refine wpM_only (i := 5) (by kernel_rfl) ?_
      refine mOp_call rfl (by go_simp) 19 _ #[.agg #[.int .i64 x2.1, .slice p22 x2.2.length q22]] (fun w => by go_simp) rfl ?_
      rintro _ ⟨sz2, rfl⟩
      refine (toMsg_k x2 _ _ (msgC.keep (msgC.keep HR2.out BW) (Below.step acc1 sz2.h)) (by omega)).mono ?_
      rintro e wz2 ⟨uz2, fz2, rfl, kz2, hbz⟩
      obtain ⟨pz22, qz22, es, -⟩ := msg_rep (msgC.toRep kz2)
      subst es
      refine ⟨_, rfl, ⟨⟨_, hbz⟩, rfl⟩, ?_⟩
      replace kz0 := bytC.stay kz0 (Below.step sz2.h hbz)
      replace kz1 := msgsC.stay kz1 (Below.step sz2.h hbz)
      have acc2 := Below.step (Below.step acc1 sz2.h) hbz
      clear hbz acc1
      have hne2 := HW.some wz2
      refine wpM_only (i := 6) (by kernel_rfl) ?_
      refine mOp_call rfl (by go_simp) 18 _ #[.slice pz0 bs0.length qz0, .slice pz1 l1.length qz1, .agg #[.int .i64 x2.1, .slice pz22 x2.2.length qz22]] (fun w => by go_simp) rfl ?_
      rintro _ ⟨sze, rfl⟩
      refine (specCf_kk bs0 l1 x2 _ _ _ _ (bytC.toRep (bytC.stay kz0 sze.h)) (msgsC.toRep (msgsC.stay kz1 sze.h)) (msgC.toRep (msgC.stay kz2 sze.h))).mono ?_
      rintro e wy ⟨rfl, hby⟩
      refine ⟨_, rfl, ⟨⟨_, hby⟩, rfl⟩, ?_⟩
      refine wpM_end (by kernel_rfl) rfl (by kernel_rfl) (by decide) ?_
      rintro _ ⟨szz, rfl⟩
      simp only [List.drop_succ_cons, List.drop_zero]
      have hb3 := Below.step (Below.step (Below.step acc2 sze.h) hby) szz.h
      clear acc2 hby hne kz0 kz1 kz2 hne0 hne1 hne2
      generalize szz.w = w3 at *
      clear szz sze sz2 sz1 sz0
      have z3 : Hid (w2.heap.size ≤ w3.heap.size) := hb3.size
      replace sP2 := sP2.stay hb3
      replace BW := Below.step BW hb3
      clear hb3
      go_wp2_with fail
      refine (toByteS_k bs0 _ _ (bytC.keep HR0.out BW) (by omega)).mono ?_
      rintro e w4 ⟨us0, fp0, rfl, k0, hb4⟩
      obtain ⟨pc0, qc0, es, -⟩ := bytC.toRep k0
      simp only [List.cons.injEq, and_true] at es
      subst es
      have gk0 : Hid (∀ k, k ∈ _ → w3.heap.size ≤ k ∧ k < w4.heap.size) := fun k hk => ⟨by have h := (k0.ins k hk).1; exact h, (k0.ins k hk).2⟩
      replace k0 := k0.win (Nat.le_refl _) gk0.out
      have z4 : Hid (w3.heap.size ≤ w4.heap.size) := hb4.size
      replace sP2 := sP2.stay hb4
      replace BW := Below.step BW hb4
      clear hb4
      go_wp2_with fail
      refine (toMsgS_k l1 _ _ (msgsC.keep HR1.out BW) (by omega)).mono ?_
      rintro e w5 ⟨us1, fp1, rfl, k1, hb5⟩
      obtain ⟨pc1, qc1, es, -⟩ := msgsC.toRep k1
      simp only [List.cons.injEq, and_true] at es
      subst es
      have gk1 : Hid (∀ k, k ∈ _ → w4.heap.size ≤ k ∧ k < w5.heap.size) := fun k hk => ⟨by have h := (k1.ins k hk).1; exact h, (k1.ins k hk).2⟩
      replace k1 := k1.win (Nat.le_refl _) gk1.out
      have z5 : Hid (w4.heap.size ≤ w5.heap.size) := hb5.size
      replace sP2 := sP2.stay hb5
      replace k0 := k0.stay hb5
      replace BW := Below.step BW hb5
      clear hb5
      have csP20 := sP2.now 0 _ rfl
      have csP21 := sP2.now 1 _ rfl
      have zsP2 := Has.lt sP2.now
      go_wp2_with fail
      refine (toMsg_k x2 _ _ (msgC.keep HR2.out BW) (by omega)).mono ?_
      rintro e w6 ⟨us2, fp2, rfl, k2, hb6⟩
      obtain ⟨pc22, qc22, es, -⟩ := msg_rep (msgC.toRep k2)
      subst es
      have gk2 : Hid (∀ k, k ∈ _ → w5.heap.size ≤ k ∧ k < w6.heap.size) := fun k hk => ⟨by have h := (k2.ins k hk).1; exact h, (k2.ins k hk).2⟩
      replace k2 := k2.win (Nat.le_refl _) gk2.out
      have z6 : Hid (w5.heap.size ≤ w6.heap.size) := hb6.size
      replace sP2 := sP2.stay hb6
      replace k0 := k0.stay hb6
      replace k1 := k1.stay hb6
      replace BW := Below.step BW hb6
      clear hb6 csP20 csP21 zsP2
      go_wp2_with fail
      refine (implCf_kk bs0 l1 x2 _ _ _ _ (bytC.toRep (k0.stay (alloc_below _ _)).now) (msgsC.toRep (k1.stay (alloc_below _ _)).now) (msgC.toRep (k2.stay (alloc_below _ _)).now) ((hT.keep BW).keep (alloc_below _ _))).mono ?_
      rintro e w7 ⟨rfl, hb7⟩
      have sX2 := (Has.new hb7).win
      have z7 : Hid (w6.heap.size + 1 ≤ w7.heap.size) := size_lt hb7
      replace hb7 := Below.res hb7
      replace sP2 := sP2.stay hb7
      replace k0 := k0.stay hb7
      replace k1 := k1.stay hb7
      replace k2 := k2.stay hb7
      replace BW := Below.step BW hb7
      clear hb7
      go_wp2_with fail
      refine (toByteS_k bs0 _ _ (bytC.keep HR0.out BW) (by omega)).mono ?_
      rintro e w8 ⟨us3, fp3, rfl, k3, hb8⟩
      obtain ⟨pc3, qc3, es, -⟩ := bytC.toRep k3
      simp only [List.cons.injEq, and_true] at es
      subst es
      have gk3 : Hid (∀ k, k ∈ _ → w7.heap.size ≤ k ∧ k < w8.heap.size) := fun k hk => ⟨by have h := (k3.ins k hk).1; exact h, (k3.ins k hk).2⟩
      replace k3 := k3.win (Nat.le_refl _) gk3.out
      have z8 : Hid (w7.heap.size ≤ w8.heap.size) := hb8.size
      replace sP2 := sP2.stay hb8
      replace k0 := k0.stay hb8
      replace k1 := k1.stay hb8
      replace k2 := k2.stay hb8
      replace sX2 := sX2.stay hb8
      replace BW := Below.step BW hb8
      clear hb8
      go_wp2_with fail
      refine (eqByteS_k bs0 _ _ _ (bytC.toRep k0.now) (bytC.toRep k3.now)).mono ?_
      rintro e w9 ⟨rfl, hb9⟩
      have z9 : Hid (w8.heap.size ≤ w9.heap.size) := hb9.size
      replace sP2 := sP2.stay hb9
      replace k0 := k0.stay hb9
      replace k1 := k1.stay hb9
      replace k2 := k2.stay hb9
      replace sX2 := sX2.stay hb9
      replace k3 := k3.stay hb9
      replace BW := Below.step BW hb9
      clear hb9
      clear k3
      go_wp2_with fail
      refine (toMsgS_k l1 _ _ (msgsC.keep HR1.out BW) (by omega)).mono ?_
      rintro e w10 ⟨us4, fp4, rfl, k4, hb10⟩
      obtain ⟨pc4, qc4, es, -⟩ := msgsC.toRep k4
      simp only [List.cons.injEq, and_true] at es
      subst es
      have gk4 : Hid (∀ k, k ∈ _ → w9.heap.size ≤ k ∧ k < w10.heap.size) := fun k hk => ⟨by have h := (k4.ins k hk).1; exact h, (k4.ins k hk).2⟩
      replace k4 := k4.win (Nat.le_refl _) gk4.out
      have z10 : Hid (w9.heap.size ≤ w10.heap.size) := hb10.size
      replace sP2 := sP2.stay hb10
      replace k0 := k0.stay hb10
      replace k1 := k1.stay hb10
      replace k2 := k2.stay hb10
      replace sX2 := sX2.stay hb10
      replace BW := Below.step BW hb10
      clear hb10
      go_wp2_with fail
      refine (eqMsgS_k l1 _ _ _ (msgsC.toRep k1.now) (msgsC.toRep k4.now)).mono ?_
      rintro e w11 ⟨rfl, hb11⟩
      have z11 : Hid (w10.heap.size ≤ w11.heap.size) := hb11.size
      replace sP2 := sP2.stay hb11
      replace k0 := k0.stay hb11
      replace k1 := k1.stay hb11
      replace k2 := k2.stay hb11
      replace sX2 := sX2.stay hb11
      replace k4 := k4.stay hb11
      replace BW := Below.step BW hb11
      clear hb11
      clear k4
      have gsX0 := HW.at (sX2.now 0 _ rfl)
      have gsX1 := HW.at (sX2.now 1 _ rfl)
      have gsP0 := HW.at (sP2.now 0 _ rfl)
      have gsP1 := HW.at (sP2.now 1 _ rfl)
      have hne := HW.some w11
      go_wp2_with fail
      refine wp_region_odd_seg 2 3 rfl (by kernel_rfl) (by kernel_rfl) (by kernel_rfl) (by kernel_rfl) ?_
      simp only [List.take_succ_cons, List.take_zero]
      repeat (go_big_quiet_step (fail))
      refine wpQuiet_nil ?_
      refine wpG_call (k := 2) rfl (by kernel_rfl) (by kernel_rfl) (by go_simp) 19 _ #[.agg #[.int .i64 x2.1, .slice p22 x2.2.length q22]] (fun w => by go_simp) rfl ?_
      rintro _ ⟨sz1, rfl⟩
      refine (toMsg_k x2 _ _ (msgC.keep (msgC.keep HR2.out BW) sz1.h) (by omega)).mono ?_
      rintro e wz ⟨uz, fz, rfl, kz, hbz⟩
      obtain ⟨pz2, qz2, es, -⟩ := msg_rep (msgC.toRep kz)
      subst es
      refine ⟨_, rfl, ⟨⟨_, hbz⟩, rfl⟩, ?_⟩
      have hbx := Below.step sz1.h hbz
      refine wpG_call (k := 3) rfl (by kernel_rfl) (by kernel_rfl) (by go_simp) 21 _ #[.agg #[.int .i64 x2.1, .slice pc22 x2.2.length qc22], .agg #[.int .i64 x2.1, .slice pz2 x2.2.length qz2]] (fun w => by go_simp) rfl ?_
      rintro _ ⟨sz2, rfl⟩
      refine (eqMsg_k x2 _ _ _ (msgC.toRep ((k2.stay hbx).stay sz2.h).now) (msgC.toRep (msgC.stay kz sz2.h))).mono ?_
      rintro e wy ⟨rfl, hby⟩
      refine ⟨_, rfl, ⟨⟨_, hby⟩, rfl⟩, ?_⟩
      replace hby := Below.step (Below.step hbx sz2.h) hby
      have hney := HW.some wy
      refine wpG_next 4 1 0 (by decide) (by kernel_rfl) (by kernel_rfl) (by kernel_rfl) ?_
      simp only [List.drop_succ_cons, List.drop_zero, List.take_succ_cons, List.take_zero]
      go_simp
      repeat (go_big_quiet_step (fail))
      refine wpQuiet_nil ?_
      refine wpG_end rfl ?_
      rintro _ ⟨sz3, rfl⟩
      have hb12 := Below.step hby sz3.h
      clear hby hbx hbz kz hne hney gsX0 gsX1 gsP0 gsP1
      generalize sz3.w = w12 at *
      clear sz3 sz2 sz1
      have z12 : Hid (w11.heap.size ≤ w12.heap.size) := hb12.size
      replace sP2 := sP2.stay hb12
      replace k0 := k0.stay hb12
      replace k1 := k1.stay hb12
      replace k2 := k2.stay hb12
      replace sX2 := sX2.stay hb12
      replace BW := Below.step BW hb12
      clear hb12
      go_wp2
      go_ret
      exact ⟨rfl, BW⟩
    · go_enter Tryd.func4, Tryd.ntmps4
      go_wp2_with fail
      refine (szMsgS_k l1 _ _ _ (msgsC.keep HR1.out (alloc_below _ _)) (by omega) (by omega)).mono ?_
      rintro e w1 ⟨rfl, hb1⟩
      have sP2 := (Has.new hb1).win
      have z1 : Hid (w.heap.size + 1 ≤ w1.heap.size) := size_lt hb1
      replace hb1 := Below.res hb1
      have BW := hb1
      clear hb1
      rw [szR, if_pos (by omega)]
      have csP20 := sP2.now 0 _ rfl
      have csP21 := sP2.now 1 _ rfl
      have zsP2 := Has.lt sP2.now
      go_wp2_with fail
      refine (szMsg_k x2 _ _ _ (msgC.keep HR2.out BW) (by omega) (by omega)).mono ?_
      rintro e w2 ⟨rfl, hb2⟩
      have z2 : Hid (w1.heap.size ≤ w2.heap.size) := hb2.size
      replace sP2 := sP2.stay hb2
      replace BW := Below.step BW hb2
      clear hb2 csP20 csP21 zsP2
      rw [szR, if_neg (by omega)]
      go_wp2
      go_ret
      exact ⟨rfl, BW⟩
  · go_enter Tryd.func4, Tryd.ntmps4
    go_wp2_with fail
    refine (szMsgS_k l1 _ _ _ (msgsC.keep HR1.out (alloc_below _ _)) (by omega) (by omega)).mono ?_
    rintro e w1 ⟨rfl, hb1⟩
    have sP2 := (Has.new hb1).win
    have z1 : Hid (w.heap.size + 1 ≤ w1.heap.size) := size_lt hb1
    replace hb1 := Below.res hb1
    have BW := hb1
    clear hb1
    rw [szR, if_neg (by omega)]
    go_wp2
    go_ret
    exact ⟨rfl, BW⟩

/-! The row's step. -/
/-- The door's own heap meets the condition. -/
theorem door_met (os : Os) (args : Array Value) : laidMetH Tryd.prog Rows.fnExactCheckFinishedRow.laid ((World.doorLaid Tryd.prog 400 os).forCall (fun _ _ => 0) ⟨#[], args, []⟩).memory :=
  laidMet_of_run' 8 (by kernel_rfl) (by kernel_rfl)

set_option maxRecDepth 100000 in
set_option maxHeartbeats 1000000 in
theorem lifted (os : Os) (started : os.Started) (H : Type) (enc : TypeId × Value → H) :
    ReturnsInHanded {} Tryd.checked os 4 .any (fun w args => (Rows.fnExactCheckFinishedSpec.pre enc Tryd.prog Tryd.f4 [] false w args ∧ laidMetH Tryd.prog Rows.fnExactCheckFinishedRow.laid w) ∧ sizedMet enc Tryd.prog Tryd.f4 (OpenSpec.ofChange Rows.fnExactCheckFinishedSpec) false w args) (Rows.fnExactCheckFinishedSpec.post enc Tryd.prog Tryd.f4 false true false false) := by
  refine returnsInHanded_of_change_and (C := Tryd.checked) (X := fun w _ => laidMetH Tryd.prog Rows.fnExactCheckFinishedRow.laid w) (fun _ _ _ hh h => h.of_heap hh) own started (by kernel_rfl) Tryd.func4
    (ChangeSpec.witness_shaped (enc := enc) (C := Tryd.checked) (os := os) (X := fun w _ => laidMetH Tryd.prog Rows.fnExactCheckFinishedRow.laid w) false (World.doorLaid Tryd.prog 400 os) #[.slice none 0 0, .slice none 0 0, .agg #[.int .i64 0, .slice none 0 0]] 8 rfl (World.shaped_of_RefB (by kernel_rfl) (by kernel_rfl)) (by kernel_rfl) (by kernel_rfl) (by kernel_rfl) (door_met os _)) ?_
  intro W base args ds gs before hval0 hW hcnd _ hL _
  have hval : ∀ (j : Nat) t v, Tryd.f4.params[j]? = some t → args[j]? = some v → Value.okWide Tryd.prog W .any base t v := hval0
  have hW' := hW
  obtain ⟨p, q, hA0, hV, rfl, hfz, hnd⟩ := hW
  have hA : DataW.TrodAll enc Tryd.prog W 0 (fun _ => true) true Tryd.f4.params.toList args.toList ds p := hA0
  rw [Tryd.params4] at hA hval
  obtain ⟨v0, vs0, d0, ds0, s0, t0, hargs, rfl, rfl, h0, m0⟩ := trodAll_cons hA
  obtain ⟨v1, vs1, d1, ds1, s1, t1, rfl, rfl, rfl, h1, m1⟩ := trodAll_cons m0
  obtain ⟨v2, vs2, d2, ds2, s2, t2, rfl, rfl, rfl, h2, m2⟩ := trodAll_cons m1
  obtain ⟨rfl, rfl, rfl⟩ := trodAll_nil m2
  obtain rfl : args = #[v0, v1, v2] := by cases args; simp_all
  obtain ⟨v0a, v0b, v0c, v0d, v0e, v0f, v1a, v1b, v1c, v1d, v1e, v1f, rfl, -⟩ := trodVars_two hV
  obtain ⟨e0, len0, cap0, rfl⟩ := okWide_slice Tryd.underlying22 (hval 0 22 v0 rfl rfl)
  have k0 := h0
  have lt0 : ∀ x ∈ s0, x.block < W.heap.size := by obtain ⟨m, hm⟩ := k0; exact DataW.trod_lt m _ _ _ hm
  obtain ⟨bs0, p0, q0, g0, r0⟩ : ∃ x, Cod.rep bytC W x [.slice e0 len0 cap0] := by obtain ⟨fuel, hf⟩ := h0; exact (opens_bytes Tryd.underlying22 Tryd.underlying5 (by kernel_rfl)) _ _ _ hf
  simp only [List.cons.injEq, Value.slice.injEq, and_true] at g0
  obtain ⟨rfl, rfl, rfl⟩ := g0
  obtain ⟨e1, len1, cap1, rfl⟩ := okWide_slice Tryd.underlying23 (hval 1 23 v1 rfl rfl)
  have k1 := h1
  have lt1 : ∀ x ∈ s1, x.block < W.heap.size := by obtain ⟨m, hm⟩ := k1; exact DataW.trod_lt m _ _ _ hm
  obtain ⟨l1, p1, q1, g1, r1⟩ : ∃ x, Cod.rep (listC 40 msgC) W x [.slice e1 len1 cap1] := by obtain ⟨fuel, hf⟩ := h1; exact (opens_list (e' := 40) (c := msgC) Tryd.underlying23 (by kernel_rfl) (by decide) (opens_struct (c := msgC) Tryd.underlying40 (by kernel_rfl) (opensF_cons rfl (by kernel_rfl) (opens_int Tryd.underlying2) (opensF_one rfl (by kernel_rfl) (opens_bytes Tryd.underlying22 Tryd.underlying5 (by kernel_rfl)))))) _ _ _ hf
  simp only [List.cons.injEq, Value.slice.injEq, and_true] at g1
  obtain ⟨rfl, rfl, rfl⟩ := g1
  obtain ⟨cs2, rfl, -⟩ := okWide_struct Tryd.underlying40 (hval 2 40 v2 rfl rfl)
  have k2 := h2
  have lt2 : ∀ x ∈ s2, x.block < W.heap.size := by obtain ⟨m, hm⟩ := k2; exact DataW.trod_lt m _ _ _ hm
  obtain ⟨x2, r2⟩ : ∃ x, Cod.rep msgC W x cs2.toList := by obtain ⟨fuel, hf⟩ := h2; exact (opens_struct (c := msgC) Tryd.underlying40 (by kernel_rfl) (opensF_cons rfl (by kernel_rfl) (opens_int Tryd.underlying2) (opensF_one rfl (by kernel_rfl) (opens_bytes Tryd.underlying22 Tryd.underlying5 (by kernel_rfl))))) _ _ _ hf
  clear hA0 hval0
  refine (walk bs0 e0 cap0 l1 e1 cap1 x2 cs2.toList W r0 r1 r2 (tabs_of hL)).mono fun e W' ⟨he, bel⟩ => ?_
  subst he
  exact ⟨_, rfl, _, _, _, [], _, _, hW', trodAll_mk1 (shut_bool Tryd.underlying4 _), (trodAll_cons_mk (Below.trod laidOut (by kernel_rfl) (of_decide_eq_true (by kernel_rfl)) k0 bel lt0) (trodAll_cons_mk (Below.trod laidOut (by kernel_rfl) (of_decide_eq_true (by kernel_rfl)) k1 bel lt1) (trodAll_cons_mk (Below.trod laidOut (by kernel_rfl) (of_decide_eq_true (by kernel_rfl)) k2 bel lt2) trodAll_mk0))), Below.trodVars laidOut bel (by kernel_rfl) hV, bel.frame _, fun h => by cases h⟩

theorem over : Rows.fnExactCheckFinishedRow.holds Tryd.pinned (OpenSpec.ofChange Rows.fnExactCheckFinishedSpec) :=
  OpenClaim.holds_of_wide 4 Tryd.f4 rfl rfl rfl rfl rfl rfl rfl ⟨rfl, rfl, rfl, rfl, rfl⟩ rfl rfl rfl rfl rfl (by kernel_rfl) Tryd.func4 (by kernel_rfl)
    (of_decide_eq_true (by kernel_rfl)) (by unfold Func.isWrapper; first | (rw [if_pos (by decide +kernel)]; kernel_rfl) | (rw [if_neg (by decide +kernel)]; exact ⟨rfl, rfl⟩))
    (fun os started H enc _ => lifted os started H enc)

theorem plain (f : FuncId) (fn : Func) (hf : Tryd.pinned.checked.prog.funcNamed "loop.example/g00375/laws.FnExactCheckFinished" = some f) (hfn : Tryd.pinned.checked.prog.funcs[f]? = some fn) :
    true = Tryd.pinned.checked.prog.looks [] ∧ ∀ (j : Nat) t, fn.params[j]? = some t → Tryd.pinned.checked.prog.wantsStandIn t = false := by
  obtain rfl : f = 4 := Option.some.inj ((show Tryd.prog.funcNamed "loop.example/g00375/laws.FnExactCheckFinished" = some 4 by kernel_rfl).symm.trans hf) |>.symm
  obtain rfl : fn = Tryd.f4 := (Option.some.inj (Tryd.func4.symm.trans hfn)).symm
  refine ⟨by kernel_rfl, fun j t ht => ?_⟩
  rw [Tryd.params4] at ht
  have hm : t ∈ [22, 23, 40] := by simpa using Array.mem_of_getElem? ht
  have hall : ([22, 23, 40].all fun u => !Tryd.prog.wantsStandIn u) = true := by kernel_rfl
  exact (show Tryd.prog.wantsStandIn t = false by simpa using List.all_eq_true.1 hall t hm)
/-- The card. -/
theorem card : Rows.FnExactCheckFinishedCardSaid :=
  Claim7.holds_tied_plain_at .later [] _ _ _ _ over (fun _ h => by cases h) (by kernel_rfl) (fun _ h => by cases h) fnExactCheckFinished_row_tie rfl ⟨rfl, rfl⟩ (by kernel_rfl) rfl plain (by kernel_rfl)
end Go.Proofs.YtpbkncliepkhaabDoor.fnExactCheckFinished

namespace Go.Proofs.YtpbkncliepkhaabDoor
theorem fnExactCheckFinished_holds : Rows.FnExactCheckFinishedCardSaid := fnExactCheckFinished.card
end Go.Proofs.YtpbkncliepkhaabDoor
