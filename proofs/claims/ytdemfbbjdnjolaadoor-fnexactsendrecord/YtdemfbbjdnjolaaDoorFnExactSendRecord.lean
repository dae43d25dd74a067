/- SendRecord of the program answers as the specification's, every field, leaves its arguments alone, and its answer owns its memory, behind another call too. For every argument; no condition. -/
import Derived.Test.YtdemfbbjdnjolaaDoorRows
import Derived.WalkKit
import Derived.ProofKit
import Derived.OpenShut
import Derived.ChangeOld
import Derived.Below
import Derived.Test.YtdemfbbjdnjolaaDoorJoint2
import Derived.OpenVars
import Derived.LaidMore
import Derived.Stop.Joined
import Derived.SevenTiedAt
import Derived.Test.YtdemfbbjdnjolaaDoorJoint17
import Derived.Test.YtdemfbbjdnjolaaDoorJoint15
import Derived.Test.YtdemfbbjdnjolaaDoorCards
import Derived.Test.YtdemfbbjdnjolaaDoorTie
namespace Go.Proofs.YtdemfbbjdnjolaaDoor.fnExactSendRecord
open Go.ChangeShapes Go.WideShapes Go.ChangeAt Go.RowKit
set_option linter.unusedVariables false

theorem own : ownKnob Tryd.prog.godebug = none := by kernel_rfl
theorem laidOut : laidOutB Tryd.prog = true := by kernel_rfl

/-! The walk. -/
set_option maxRecDepth 4000 in
set_option maxHeartbeats 4000000 in
theorem walk (x0 : _) (cs0 : List Value) (a1 : Int) (bs2 : List UInt8) (p2 : Option Addr) (q2 : Nat) (a3 : Int) (w : World) (r0 : Cod.rep streamC w x0 cs0) (f1 : (Lit.int .i64 a1).wf = true) (r2 : Rd w p2 q2 bs2) (f3 : (Lit.int .i64 a3).wf = true) (hT : Tabs w) :
    Calls Tryd.prog 5 #[.agg cs0.toArray, .int .i64 a1, .slice p2 bs2.length q2, .int .i64 a3] w fun e w' => e = .returned (.bool true) ∧ Below w.heap.size w w' := by
  obtain ⟨p01, q01, rfl, rr01⟩ := stream_rep r0
  replace r0 := stream_mk rr01
  clear rr01
  have rb2 : bytC.rep w bs2 [.slice p2 bs2.length q2] := ⟨p2, q2, rfl, r2⟩
  replace r2 := rb2
  clear rb2
  change Calls _ _ #[.agg #[.slice p01 x0.1.length q01, .int .i64 x0.2.1, .int .i64 x0.2.2], _, _, _] _ _
  by_cases hl2 : 1048576 < bs2.length
  · go_enter Tryd.func5, Tryd.ntmps5
    go_wp2
    go_ret
    exact ⟨rfl, alloc_below _ _⟩
  replace hl2 : bs2.length ≤ 1048576 := by omega
  have HR0 : Hid (streamC.rep w x0 _) := r0
  have HR2 : Hid (bytC.rep w bs2 _) := r2
  clear r0 r2
  by_cases hs0 : streamN x0 ≤ 1048576
  · have ht0 := streamT_le x0
    have hlen := srD_small x0 a1 bs2 a3
    have hlen1 : 1 + recordResultT (srD x0 a1 bs2 a3) ≤ 1000000000 := by omega
    have hlen2 : 1 + recordResultT (srD x0 a1 bs2 a3) ≤ 1048577 := by omega
    go_enter Tryd.func5, Tryd.ntmps5
    go_wp2_with fail
    refine (szStream_k x0 _ _ _ (streamC.keep HR0.out (alloc_below _ _)) (by omega) (by omega)).mono ?_
    rintro e w1 ⟨rfl, hb1⟩
    have sP0 := (Has.new hb1).win
    have z1 : Hid (w.heap.size + 1 ≤ w1.heap.size) := size_lt hb1
    replace hb1 := Below.res hb1
    have BW := hb1
    clear hb1
    rw [szR, if_pos (by omega)]
    have csP00 := sP0.now 0 _ rfl
    have csP01 := sP0.now 1 _ rfl
    have csP02 := sP0.now 2 _ rfl
    have zsP0 := Has.lt sP0.now
    go_wp2_with fail
    refine (toStream_k x0 _ _ (streamC.keep HR0.out BW) (by omega)).mono ?_
    rintro e w2 ⟨us0, fp0, rfl, k0, hb2⟩
    obtain ⟨pc01, qc01, es, -⟩ := stream_rep (streamC.toRep k0)
    subst es
    have gk0 : Hid (∀ k, k ∈ _ → w1.heap.size ≤ k ∧ k < w2.heap.size) := fun k hk => ⟨by have h := (k0.ins k hk).1; exact h, (k0.ins k hk).2⟩
    replace k0 := k0.win (Nat.le_refl _) gk0.out
    have z2 : Hid (w1.heap.size ≤ w2.heap.size) := hb2.size
    replace sP0 := sP0.stay hb2
    replace BW := Below.step BW hb2
    clear hb2 csP00 csP01 csP02 zsP0
    go_wp2_with fail
    refine (toByteS_k bs2 _ _ (bytC.keep HR2.out BW) (by omega)).mono ?_
    rintro e w3 ⟨us1, fp1, rfl, k1, hb3⟩
    obtain ⟨pc1, qc1, es, -⟩ := bytC.toRep k1
    simp only [List.cons.injEq, and_true] at es
    subst es
    have gk1 : Hid (∀ k, k ∈ _ → w2.heap.size ≤ k ∧ k < w3.heap.size) := fun k hk => ⟨by have h := (k1.ins k hk).1; exact h, (k1.ins k hk).2⟩
    replace k1 := k1.win (Nat.le_refl _) gk1.out
    have z3 : Hid (w2.heap.size ≤ w3.heap.size) := hb3.size
    replace sP0 := sP0.stay hb3
    replace k0 := k0.stay hb3
    replace BW := Below.step BW hb3
    clear hb3
    go_wp2_with fail
    refine (specSr_k x0 _ a1 bs2 _ a3 _ (streamC.toRep k0.now) (bytC.toRep k1.now)).mono ?_
    rintro e w4 ⟨uss, fps, rfl, ks, hb4⟩
    obtain ⟨ps3, qs3, ps4_1, qs4_1, es, -, -⟩ := recordResult_rep (recordResultC.toRep ks)
    subst es
    have gks : Hid (∀ k, k ∈ _ → w3.heap.size ≤ k ∧ k < w4.heap.size) := fun k hk => ⟨by have h := (ks.ins k hk).1; exact h, (ks.ins k hk).2⟩
    replace ks := ks.win (Nat.le_refl _) gks.out
    have z4 : Hid (w3.heap.size ≤ w4.heap.size) := hb4.size
    replace sP0 := sP0.stay hb4
    replace k0 := k0.stay hb4
    replace k1 := k1.stay hb4
    replace BW := Below.step BW hb4
    clear hb4
    clear k0 k1
    have csP00 := sP0.now 0 _ rfl
    have csP01 := sP0.now 1 _ rfl
    have csP02 := sP0.now 2 _ rfl
    have zsP0 := Has.lt sP0.now
    go_wp2_with fail
    refine (toStream_k x0 _ _ (streamC.keep (streamC.keep HR0.out BW) (alloc_below _ _)) (by omega)).mono ?_
    rintro e w5 ⟨us2, fp2, rfl, k2, hb5⟩
    obtain ⟨pc21, qc21, es, -⟩ := stream_rep (streamC.toRep k2)
    subst es
    have gk2 : Hid (∀ k, k ∈ _ → (w4.heap.size + 1) ≤ k ∧ k < w5.heap.size) := fun k hk => ⟨by have h := (k2.ins k hk).1; rw [size_alloc] at h; exact h, (k2.ins k hk).2⟩
    replace k2 := k2.win (Nat.le_refl _) gk2.out
    have sA := (Has.new hb5).win
    have z5 : Hid (w4.heap.size + 1 ≤ w5.heap.size) := size_lt hb5
    replace hb5 := Below.res hb5
    replace sP0 := sP0.stay hb5
    replace ks := ks.stay hb5
    replace BW := Below.step BW hb5
    clear hb5 csP00 csP01 csP02 zsP0
    go_wp2_with fail
    refine (toByteS_k bs2 _ _ (bytC.keep (bytC.keep HR2.out BW) (alloc_below _ _)) (by omega)).mono ?_
    rintro e w6 ⟨us3, fp3, rfl, k3, hb6⟩
    obtain ⟨pc3, qc3, es, -⟩ := bytC.toRep k3
    simp only [List.cons.injEq, and_true] at es
    subst es
    have gk3 : Hid (∀ k, k ∈ _ → (w5.heap.size + 1) ≤ k ∧ k < w6.heap.size) := fun k hk => ⟨by have h := (k3.ins k hk).1; rw [size_alloc] at h; exact h, (k3.ins k hk).2⟩
    replace k3 := k3.win (Nat.le_refl _) gk3.out
    have sX0 := (Has.new hb6).win
    have z6 : Hid (w5.heap.size + 1 ≤ w6.heap.size) := size_lt hb6
    replace hb6 := Below.res hb6
    replace sP0 := sP0.stay hb6
    replace ks := ks.stay hb6
    replace sA := sA.stay hb6
    replace k2 := k2.stay hb6
    replace BW := Below.step BW hb6
    clear hb6
    have csX00 := sX0.now 0 _ rfl
    have csX01 := sX0.now 1 _ rfl
    have csX02 := sX0.now 2 _ rfl
    have zsX0 := Has.lt sX0.now
    go_wp2_with fail
    refine (implSr_k x0 _ a1 bs2 _ a3 _ (streamC.toRep k2.now) (bytC.toRep k3.now) (hT.keep BW)).mono ?_
    rintro e w7 ⟨usg, fpg, rfl, kg, hb7⟩
    obtain ⟨pg3, qg3, pg4_1, qg4_1, es, -, -⟩ := recordResult_rep (recordResultC.toRep kg)
    subst es
    have gkg : Hid (∀ k, k ∈ _ → w6.heap.size ≤ k ∧ k < w7.heap.size) := fun k hk => ⟨by have h := (kg.ins k hk).1; exact h, (kg.ins k hk).2⟩
    replace kg := kg.win (Nat.le_refl _) gkg.out
    have z7 : Hid (w6.heap.size ≤ w7.heap.size) := hb7.size
    replace sP0 := sP0.stay hb7
    replace ks := ks.stay hb7
    replace sA := sA.stay hb7
    replace k2 := k2.stay hb7
    replace sX0 := sX0.stay hb7
    replace k3 := k3.stay hb7
    replace BW := Below.step BW hb7
    clear hb7 csX00 csX01 csX02 zsX0
    have csA0 := sA.now 0 _ rfl
    have csA1 := sA.now 1 _ rfl
    have csA2 := sA.now 2 _ rfl
    have csA3 := sA.now 3 _ rfl
    have csA4 := sA.now 4 _ rfl
    have csA5 := sA.now 5 _ rfl
    have zsA := Has.lt sA.now
    go_wp2_with fail
    refine (eqRecordResult_k (srD x0 a1 bs2 a3) _ _ _ (recordResultC.toRep (kg.stay (alloc_below _ _)).now) (recordResultC.toRep (ks.stay (alloc_below _ _)).now)).mono ?_
    rintro e w8 ⟨rfl, hb8⟩
    have sB := (Has.new hb8).win
    have z8 : Hid (w7.heap.size + 1 ≤ w8.heap.size) := size_lt hb8
    replace hb8 := Below.res hb8
    replace sP0 := sP0.stay hb8
    replace ks := ks.stay hb8
    replace sA := sA.stay hb8
    replace k2 := k2.stay hb8
    replace sX0 := sX0.stay hb8
    replace k3 := k3.stay hb8
    replace kg := kg.stay hb8
    replace BW := Below.step BW hb8
    clear hb8 csA0 csA1 csA2 csA3 csA4 csA5 zsA
    have gsX0 := HW.at (sX0.now 0 _ rfl)
    have gsX1 := HW.at (sX0.now 1 _ rfl)
    have gsX2 := HW.at (sX0.now 2 _ rfl)
    have gsP0 := HW.at (sP0.now 0 _ rfl)
    have gsP1 := HW.at (sP0.now 1 _ rfl)
    have gsP2 := HW.at (sP0.now 2 _ rfl)
    have hne := HW.some w8
    go_wp2_with fail
    refine wp_region_odd_seg 2 3 rfl (by kernel_rfl) (by kernel_rfl) (by kernel_rfl) (by kernel_rfl) ?_
    simp only [List.take_succ_cons, List.take_zero]
    repeat (go_big_quiet_step (fail))
    refine wpQuiet_nil ?_
    refine wpG_call (k := 2) rfl (by kernel_rfl) (by kernel_rfl) (by go_simp) 23 _ #[.agg #[.slice p01 x0.1.length q01, .int .i64 x0.2.1, .int .i64 x0.2.2]] (fun w => by go_simp) rfl ?_
    rintro _ ⟨sz1, rfl⟩
    refine (toStream_k x0 _ _ (streamC.keep (streamC.keep HR0.out BW) sz1.h) (by omega)).mono ?_
    rintro e wz ⟨uz, fz, rfl, kz, hbz⟩
    obtain ⟨pz1, qz1, es, -⟩ := stream_rep (streamC.toRep kz)
    subst es
    refine ⟨_, rfl, ⟨⟨_, hbz⟩, rfl⟩, ?_⟩
    have hbx := Below.step sz1.h hbz
    refine wpG_call (k := 3) rfl (by kernel_rfl) (by kernel_rfl) (by go_simp) 25 _ #[.agg #[.slice pc21 x0.1.length qc21, .int .i64 x0.2.1, .int .i64 x0.2.2], .agg #[.slice pz1 x0.1.length qz1, .int .i64 x0.2.1, .int .i64 x0.2.2]] (fun w => by go_simp) rfl ?_
    rintro _ ⟨sz2, rfl⟩
    refine (eqStream_k x0 _ _ _ (streamC.toRep ((k2.stay hbx).stay sz2.h).now) (streamC.toRep (streamC.stay kz sz2.h))).mono ?_
    rintro e wy ⟨rfl, hby⟩
    refine ⟨_, rfl, ⟨⟨_, hby⟩, rfl⟩, ?_⟩
    replace hby := Below.step (Below.step hbx sz2.h) hby
    have hney := HW.some wy
    refine wpG_next 4 1 0 (by decide) (by kernel_rfl) (by kernel_rfl) (by kernel_rfl) ?_
    simp only [List.drop_succ_cons, List.drop_zero, List.take_succ_cons, List.take_zero]
    go_simp
    repeat (go_big_quiet_step (fail))
    refine wpQuiet_nil ?_
    refine wpG_end rfl ?_
    rintro _ ⟨sz3, rfl⟩
    have hb9 := Below.step hby sz3.h
    clear hby hbx hbz kz hne hney gsX0 gsX1 gsX2 gsP0 gsP1 gsP2
    generalize sz3.w = w9 at *
    clear sz3 sz2 sz1
    have z9 : Hid (w8.heap.size ≤ w9.heap.size) := hb9.size
    replace sP0 := sP0.stay hb9
    replace ks := ks.stay hb9
    replace sA := sA.stay hb9
    replace k2 := k2.stay hb9
    replace sX0 := sX0.stay hb9
    replace k3 := k3.stay hb9
    replace kg := kg.stay hb9
    replace sB := sB.stay hb9
    replace BW := Below.step BW hb9
    clear hb9
    go_wp2_with fail
    refine (toByteS_k bs2 _ _ (bytC.keep HR2.out BW) (by omega)).mono ?_
    rintro e w10 ⟨us4, fp4, rfl, k4, hb10⟩
    obtain ⟨pc4, qc4, es, -⟩ := bytC.toRep k4
    simp only [List.cons.injEq, and_true] at es
    subst es
    have gk4 : Hid (∀ k, k ∈ _ → w9.heap.size ≤ k ∧ k < w10.heap.size) := fun k hk => ⟨by have h := (k4.ins k hk).1; exact h, (k4.ins k hk).2⟩
    replace k4 := k4.win (Nat.le_refl _) gk4.out
    have z10 : Hid (w9.heap.size ≤ w10.heap.size) := hb10.size
    replace sP0 := sP0.stay hb10
    replace ks := ks.stay hb10
    replace sA := sA.stay hb10
    replace k2 := k2.stay hb10
    replace sX0 := sX0.stay hb10
    replace k3 := k3.stay hb10
    replace kg := kg.stay hb10
    replace sB := sB.stay hb10
    replace BW := Below.step BW hb10
    clear hb10
    go_wp2_with fail
    refine (eqByteS_k bs2 _ _ _ (bytC.toRep k3.now) (bytC.toRep k4.now)).mono ?_
    rintro e w11 ⟨rfl, hb11⟩
    have z11 : Hid (w10.heap.size ≤ w11.heap.size) := hb11.size
    replace sP0 := sP0.stay hb11
    replace ks := ks.stay hb11
    replace sA := sA.stay hb11
    replace k2 := k2.stay hb11
    replace sX0 := sX0.stay hb11
    replace k3 := k3.stay hb11
    replace kg := kg.stay hb11
    replace sB := sB.stay hb11
    replace k4 := k4.stay hb11
    replace BW := Below.step BW hb11
    clear hb11
    clear k4
    have csX00 := sX0.now 0 _ rfl
    have csX01 := sX0.now 1 _ rfl
    have csX02 := sX0.now 2 _ rfl
    have zsX0 := Has.lt sX0.now
    go_wp2_with fail
    refine (markStream_k x0 _ _ _ 1 _ (by first | rfl | simp | (simp; omega) | (push_cast; omega)) _ k2.now (by omega)).mono ?_
    rintro e w12 ⟨rfl, -, hg⟩
    have z12 : Hid (w11.heap.size ≤ w12.heap.size) := hg.size
    have sg := Only.seg hg gk2.out
    replace sP0 := sP0.seg sg (by have := z1.out; have := z2.out; have := z3.out; have := z4.out; have := z5.out; have := z6.out; have := z7.out; have := z8.out; have := z9.out; have := z10.out; have := z11.out; have := z12.out; omega)
    replace ks := ks.seg sg (by have := z1.out; have := z2.out; have := z3.out; have := z4.out; have := z5.out; have := z6.out; have := z7.out; have := z8.out; have := z9.out; have := z10.out; have := z11.out; have := z12.out; omega)
    replace sA := sA.seg sg (by have := z1.out; have := z2.out; have := z3.out; have := z4.out; have := z5.out; have := z6.out; have := z7.out; have := z8.out; have := z9.out; have := z10.out; have := z11.out; have := z12.out; omega)
    replace sX0 := sX0.seg sg (by have := z1.out; have := z2.out; have := z3.out; have := z4.out; have := z5.out; have := z6.out; have := z7.out; have := z8.out; have := z9.out; have := z10.out; have := z11.out; have := z12.out; omega)
    replace k3 := k3.seg sg (by have := z1.out; have := z2.out; have := z3.out; have := z4.out; have := z5.out; have := z6.out; have := z7.out; have := z8.out; have := z9.out; have := z10.out; have := z11.out; have := z12.out; omega)
    replace kg := kg.seg sg (by have := z1.out; have := z2.out; have := z3.out; have := z4.out; have := z5.out; have := z6.out; have := z7.out; have := z8.out; have := z9.out; have := z10.out; have := z11.out; have := z12.out; omega)
    replace sB := sB.seg sg (by have := z1.out; have := z2.out; have := z3.out; have := z4.out; have := z5.out; have := z6.out; have := z7.out; have := z8.out; have := z9.out; have := z10.out; have := z11.out; have := z12.out; omega)
    replace BW := Below.seg BW sg (by have := z1.out; have := z2.out; have := z3.out; have := z4.out; have := z5.out; have := z6.out; have := z7.out; have := z8.out; have := z9.out; have := z10.out; have := z11.out; have := z12.out; omega)
    clear hg sg k2 csX00 csX01 csX02 zsX0
    go_wp2_with fail
    refine (markByteS_k bs2 _ _ _ (1 + streamT x0) _ (by first | rfl | simp | (simp; omega) | (push_cast; omega)) _ k3.now (by omega)).mono ?_
    rintro e w13 ⟨rfl, -, hg⟩
    have z13 : Hid (w12.heap.size ≤ w13.heap.size) := hg.size
    have sg := Only.seg hg gk3.out
    replace sP0 := sP0.seg sg (by have := z1.out; have := z2.out; have := z3.out; have := z4.out; have := z5.out; have := z6.out; have := z7.out; have := z8.out; have := z9.out; have := z10.out; have := z11.out; have := z12.out; have := z13.out; omega)
    replace ks := ks.seg sg (by have := z1.out; have := z2.out; have := z3.out; have := z4.out; have := z5.out; have := z6.out; have := z7.out; have := z8.out; have := z9.out; have := z10.out; have := z11.out; have := z12.out; have := z13.out; omega)
    replace sA := sA.seg sg (by have := z1.out; have := z2.out; have := z3.out; have := z4.out; have := z5.out; have := z6.out; have := z7.out; have := z8.out; have := z9.out; have := z10.out; have := z11.out; have := z12.out; have := z13.out; omega)
    replace sX0 := sX0.seg sg (by have := z1.out; have := z2.out; have := z3.out; have := z4.out; have := z5.out; have := z6.out; have := z7.out; have := z8.out; have := z9.out; have := z10.out; have := z11.out; have := z12.out; have := z13.out; omega)
    replace kg := kg.seg sg (by have := z1.out; have := z2.out; have := z3.out; have := z4.out; have := z5.out; have := z6.out; have := z7.out; have := z8.out; have := z9.out; have := z10.out; have := z11.out; have := z12.out; have := z13.out; omega)
    replace sB := sB.seg sg (by have := z1.out; have := z2.out; have := z3.out; have := z4.out; have := z5.out; have := z6.out; have := z7.out; have := z8.out; have := z9.out; have := z10.out; have := z11.out; have := z12.out; have := z13.out; omega)
    replace BW := Below.seg BW sg (by have := z1.out; have := z2.out; have := z3.out; have := z4.out; have := z5.out; have := z6.out; have := z7.out; have := z8.out; have := z9.out; have := z10.out; have := z11.out; have := z12.out; have := z13.out; omega)
    clear hg sg k3
    have csA0 := sA.now 0 _ rfl
    have csA1 := sA.now 1 _ rfl
    have csA2 := sA.now 2 _ rfl
    have csA3 := sA.now 3 _ rfl
    have csA4 := sA.now 4 _ rfl
    have csA5 := sA.now 5 _ rfl
    have zsA := Has.lt sA.now
    have csB0 := sB.now 0 _ rfl
    have csB1 := sB.now 1 _ rfl
    have csB2 := sB.now 2 _ rfl
    have csB3 := sB.now 3 _ rfl
    have csB4 := sB.now 4 _ rfl
    have csB5 := sB.now 5 _ rfl
    have zsB := Has.lt sB.now
    go_wp2_with fail
    refine (eqRecordResult_k (srD x0 a1 bs2 a3) _ _ _ (recordResultC.toRep kg.now) (recordResultC.toRep ks.now)).mono ?_
    rintro e w14 ⟨rfl, hb14⟩
    have z14 : Hid (w13.heap.size ≤ w14.heap.size) := hb14.size
    replace sP0 := sP0.stay hb14
    replace ks := ks.stay hb14
    replace sA := sA.stay hb14
    replace sX0 := sX0.stay hb14
    replace kg := kg.stay hb14
    replace sB := sB.stay hb14
    replace BW := Below.step BW hb14
    clear hb14 csA0 csA1 csA2 csA3 csA4 csA5 zsA csB0 csB1 csB2 csB3 csB4 csB5 zsB
    have csB0 := sB.now 0 _ rfl
    have csB1 := sB.now 1 _ rfl
    have csB2 := sB.now 2 _ rfl
    have csB3 := sB.now 3 _ rfl
    have csB4 := sB.now 4 _ rfl
    have csB5 := sB.now 5 _ rfl
    have zsB := Has.lt sB.now
    go_wp2_with fail
    refine (markRecordResult_k (srD x0 a1 bs2 a3) _ _ _ 1 1 rfl _ kg.now hlen1).mono ?_
    rintro e w15 ⟨rfl, km, hg⟩
    have z15 : Hid (w14.heap.size ≤ w15.heap.size) := hg.size
    have sg := Only.seg hg gkg.out
    replace sP0 := sP0.seg sg (by have := z1.out; have := z2.out; have := z3.out; have := z4.out; have := z5.out; have := z6.out; have := z7.out; have := z8.out; have := z9.out; have := z10.out; have := z11.out; have := z12.out; have := z13.out; have := z14.out; have := z15.out; omega)
    replace ks := ks.seg sg (by have := z1.out; have := z2.out; have := z3.out; have := z4.out; have := z5.out; have := z6.out; have := z7.out; have := z8.out; have := z9.out; have := z10.out; have := z11.out; have := z12.out; have := z13.out; have := z14.out; have := z15.out; omega)
    replace sA := sA.seg sg (by have := z1.out; have := z2.out; have := z3.out; have := z4.out; have := z5.out; have := z6.out; have := z7.out; have := z8.out; have := z9.out; have := z10.out; have := z11.out; have := z12.out; have := z13.out; have := z14.out; have := z15.out; omega)
    replace sX0 := sX0.seg sg (by have := z1.out; have := z2.out; have := z3.out; have := z4.out; have := z5.out; have := z6.out; have := z7.out; have := z8.out; have := z9.out; have := z10.out; have := z11.out; have := z12.out; have := z13.out; have := z14.out; have := z15.out; omega)
    replace sB := sB.seg sg (by have := z1.out; have := z2.out; have := z3.out; have := z4.out; have := z5.out; have := z6.out; have := z7.out; have := z8.out; have := z9.out; have := z10.out; have := z11.out; have := z12.out; have := z13.out; have := z14.out; have := z15.out; omega)
    replace BW := Below.seg BW sg (by have := z1.out; have := z2.out; have := z3.out; have := z4.out; have := z5.out; have := z6.out; have := z7.out; have := z8.out; have := z9.out; have := z10.out; have := z11.out; have := z12.out; have := z13.out; have := z14.out; have := z15.out; omega)
    replace km := km.win (by have := z1.out; have := z2.out; have := z3.out; have := z4.out; have := z5.out; have := z6.out; have := z7.out; have := z8.out; have := z9.out; have := z10.out; have := z11.out; have := z12.out; have := z13.out; have := z14.out; have := z15.out; omega) gkg.out
    clear hg sg kg csB0 csB1 csB2 csB3 csB4 csB5 zsB
    have csB0 := sB.now 0 _ rfl
    have csB1 := sB.now 1 _ rfl
    have csB2 := sB.now 2 _ rfl
    have csB3 := sB.now 3 _ rfl
    have csB4 := sB.now 4 _ rfl
    have csB5 := sB.now 5 _ rfl
    have zsB := Has.lt sB.now
    go_wp2_with fail
    refine (heldRecordResult_k (srD x0 a1 bs2 a3) _ 1 1 rfl _ (recordResultC.toRep km.now) hlen2).mono ?_
    rintro e w16 ⟨rfl, hb16⟩
    have z16 : Hid (w15.heap.size ≤ w16.heap.size) := hb16.size
    replace sP0 := sP0.stay hb16
    replace ks := ks.stay hb16
    replace sA := sA.stay hb16
    replace sX0 := sX0.stay hb16
    replace sB := sB.stay hb16
    replace km := km.stay hb16
    replace BW := Below.step BW hb16
    clear hb16 csB0 csB1 csB2 csB3 csB4 csB5 zsB
    have csP00 := sP0.now 0 _ rfl
    have csP01 := sP0.now 1 _ rfl
    have csP02 := sP0.now 2 _ rfl
    have zsP0 := Has.lt sP0.now
    go_wp2_with fail
    refine (toStream_k x0 _ _ (streamC.keep HR0.out BW) (by omega)).mono ?_
    rintro e w17 ⟨us5, fp5, rfl, k5, hb17⟩
    obtain ⟨pc51, qc51, es, -⟩ := stream_rep (streamC.toRep k5)
    subst es
    have gk5 : Hid (∀ k, k ∈ _ → w16.heap.size ≤ k ∧ k < w17.heap.size) := fun k hk => ⟨by have h := (k5.ins k hk).1; exact h, (k5.ins k hk).2⟩
    replace k5 := k5.win (Nat.le_refl _) gk5.out
    have z17 : Hid (w16.heap.size ≤ w17.heap.size) := hb17.size
    replace sP0 := sP0.stay hb17
    replace ks := ks.stay hb17
    replace sA := sA.stay hb17
    replace sX0 := sX0.stay hb17
    replace sB := sB.stay hb17
    replace km := km.stay hb17
    replace BW := Below.step BW hb17
    clear hb17 csP00 csP01 csP02 zsP0
    go_wp2_with fail
    refine (toByteS_k bs2 _ _ (bytC.keep HR2.out BW) (by omega)).mono ?_
    rintro e w18 ⟨us6, fp6, rfl, k6, hb18⟩
    obtain ⟨pc6, qc6, es, -⟩ := bytC.toRep k6
    simp only [List.cons.injEq, and_true] at es
    subst es
    have gk6 : Hid (∀ k, k ∈ _ → w17.heap.size ≤ k ∧ k < w18.heap.size) := fun k hk => ⟨by have h := (k6.ins k hk).1; exact h, (k6.ins k hk).2⟩
    replace k6 := k6.win (Nat.le_refl _) gk6.out
    have z18 : Hid (w17.heap.size ≤ w18.heap.size) := hb18.size
    replace sP0 := sP0.stay hb18
    replace ks := ks.stay hb18
    replace sA := sA.stay hb18
    replace sX0 := sX0.stay hb18
    replace sB := sB.stay hb18
    replace km := km.stay hb18
    replace k5 := k5.stay hb18
    replace BW := Below.step BW hb18
    clear hb18
    go_wp2_with fail
    refine (implSr_k x0 _ a1 bs2 _ a3 _ (streamC.toRep k5.now) (bytC.toRep k6.now) (hT.keep BW)).mono ?_
    rintro e w19 ⟨ush, fph, rfl, kh, hb19⟩
    obtain ⟨ph3, qh3, ph4_1, qh4_1, es, -, -⟩ := recordResult_rep (recordResultC.toRep kh)
    subst es
    have gkh : Hid (∀ k, k ∈ _ → w18.heap.size ≤ k ∧ k < w19.heap.size) := fun k hk => ⟨by have h := (kh.ins k hk).1; exact h, (kh.ins k hk).2⟩
    replace kh := kh.win (Nat.le_refl _) gkh.out
    have z19 : Hid (w18.heap.size ≤ w19.heap.size) := hb19.size
    replace sP0 := sP0.stay hb19
    replace ks := ks.stay hb19
    replace sA := sA.stay hb19
    replace sX0 := sX0.stay hb19
    replace sB := sB.stay hb19
    replace km := km.stay hb19
    replace k5 := k5.stay hb19
    replace k6 := k6.stay hb19
    replace BW := Below.step BW hb19
    clear hb19
    clear k5 k6
    have csA0 := sA.now 0 _ rfl
    have csA1 := sA.now 1 _ rfl
    have csA2 := sA.now 2 _ rfl
    have csA3 := sA.now 3 _ rfl
    have csA4 := sA.now 4 _ rfl
    have csA5 := sA.now 5 _ rfl
    have zsA := Has.lt sA.now
    go_wp2_with fail
    refine (eqRecordResult_k (srD x0 a1 bs2 a3) _ _ _ (recordResultC.toRep (kh.stay (alloc_below _ _)).now) (recordResultC.toRep (ks.stay (alloc_below _ _)).now)).mono ?_
    rintro e w20 ⟨rfl, hb20⟩
    have sC := (Has.new hb20).win
    have z20 : Hid (w19.heap.size + 1 ≤ w20.heap.size) := size_lt hb20
    replace hb20 := Below.res hb20
    replace sP0 := sP0.stay hb20
    replace ks := ks.stay hb20
    replace sA := sA.stay hb20
    replace sX0 := sX0.stay hb20
    replace sB := sB.stay hb20
    replace km := km.stay hb20
    replace kh := kh.stay hb20
    replace BW := Below.step BW hb20
    clear hb20 csA0 csA1 csA2 csA3 csA4 csA5 zsA
    clear sC sA ks kh
    have csB0 := sB.now 0 _ rfl
    have csB1 := sB.now 1 _ rfl
    have csB2 := sB.now 2 _ rfl
    have csB3 := sB.now 3 _ rfl
    have csB4 := sB.now 4 _ rfl
    have csB5 := sB.now 5 _ rfl
    have zsB := Has.lt sB.now
    go_wp2_with fail
    refine (heldRecordResult_k (srD x0 a1 bs2 a3) _ 1 1 rfl _ (recordResultC.toRep km.now) hlen2).mono ?_
    rintro e w21 ⟨rfl, hb21⟩
    have z21 : Hid (w20.heap.size ≤ w21.heap.size) := hb21.size
    replace sP0 := sP0.stay hb21
    replace sX0 := sX0.stay hb21
    replace sB := sB.stay hb21
    replace km := km.stay hb21
    replace BW := Below.step BW hb21
    clear hb21 csB0 csB1 csB2 csB3 csB4 csB5 zsB
    go_wp2
    go_ret
    exact ⟨rfl, BW⟩
  · go_enter Tryd.func5, Tryd.ntmps5
    go_wp2_with fail
    refine (szStream_k x0 _ _ _ (streamC.keep HR0.out (alloc_below _ _)) (by omega) (by omega)).mono ?_
    rintro e w1 ⟨rfl, hb1⟩
    have sP0 := (Has.new hb1).win
    have z1 : Hid (w.heap.size + 1 ≤ w1.heap.size) := size_lt hb1
    replace hb1 := Below.res hb1
    have BW := hb1
    clear hb1
    rw [szR, if_neg (by omega)]
    go_wp2
    go_ret
    exact ⟨rfl, BW⟩

/-! The row's step. -/
/-- The door's own heap meets the condition. -/
theorem door_met (os : Os) (args : Array Value) : laidMetH Tryd.prog Rows.fnExactSendRecordRow.laid ((World.doorLaid Tryd.prog 400 os).forCall (fun _ _ => 0) ⟨#[], args, []⟩).memory :=
  laidMet_of_run' 8 (by kernel_rfl) (by kernel_rfl)

set_option maxRecDepth 100000 in
set_option maxHeartbeats 1000000 in
theorem lifted (os : Os) (started : os.Started) (H : Type) (enc : TypeId × Value → H) :
    ReturnsInHanded {} Tryd.checked os 5 .any (fun w args => (Rows.fnExactSendRecordSpec.pre enc Tryd.prog Tryd.f5 [] false w args ∧ laidMetH Tryd.prog Rows.fnExactSendRecordRow.laid w) ∧ sizedMet enc Tryd.prog Tryd.f5 (OpenSpec.ofChange Rows.fnExactSendRecordSpec) false w args) (Rows.fnExactSendRecordSpec.post enc Tryd.prog Tryd.f5 false true false false) := by
  refine returnsInHanded_of_change_and (C := Tryd.checked) (X := fun w _ => laidMetH Tryd.prog Rows.fnExactSendRecordRow.laid w) (fun _ _ _ hh h => h.of_heap hh) own started (by kernel_rfl) Tryd.func5
    (ChangeSpec.witness_shaped (enc := enc) (C := Tryd.checked) (os := os) (X := fun w _ => laidMetH Tryd.prog Rows.fnExactSendRecordRow.laid w) false (World.doorLaid Tryd.prog 400 os) #[.agg #[.slice none 0 0, .int .i64 0, .int .i64 0], .int .i64 0, .slice none 0 0, .int .i64 0] 8 rfl (World.shaped_of_RefB (by kernel_rfl) (by kernel_rfl)) (by kernel_rfl) (by kernel_rfl) (by kernel_rfl) (door_met os _)) ?_
  intro W base args ds gs before hval0 hW hcnd _ hL _
  have hval : ∀ (j : Nat) t v, Tryd.f5.params[j]? = some t → args[j]? = some v → Value.okWide Tryd.prog W .any base t v := hval0
  have hW' := hW
  obtain ⟨p, q, hA0, hV, rfl, hfz, hnd⟩ := hW
  have hA : DataW.TrodAll enc Tryd.prog W 0 (fun _ => true) true Tryd.f5.params.toList args.toList ds p := hA0
  rw [Tryd.params5] at hA hval
  obtain ⟨v0, vs0, d0, ds0, s0, t0, hargs, rfl, rfl, h0, m0⟩ := trodAll_cons hA
  obtain ⟨v1, vs1, d1, ds1, s1, t1, rfl, rfl, rfl, h1, m1⟩ := trodAll_cons m0
  obtain ⟨v2, vs2, d2, ds2, s2, t2, rfl, rfl, rfl, h2, m2⟩ := trodAll_cons m1
  obtain ⟨v3, vs3, d3, ds3, s3, t3, rfl, rfl, rfl, h3, m3⟩ := trodAll_cons m2
  obtain ⟨rfl, rfl, rfl⟩ := trodAll_nil m3
  obtain rfl : args = #[v0, v1, v2, v3] := by cases args; simp_all
  obtain ⟨v0a, v0b, v0c, v0d, v0e, v0f, v1a, v1b, v1c, v1d, v1e, v1f, rfl, -⟩ := trodVars_two hV
  obtain ⟨cs0, rfl, -⟩ := okWide_struct Tryd.underlying41 (hval 0 41 v0 rfl rfl)
  have k0 := h0
  have lt0 : ∀ x ∈ s0, x.block < W.heap.size := by obtain ⟨m, hm⟩ := k0; exact DataW.trod_lt m _ _ _ hm
  obtain ⟨x0, r0⟩ : ∃ x, Cod.rep streamC W x cs0.toList := by obtain ⟨fuel, hf⟩ := h0; exact (opens_struct (c := streamC) Tryd.underlying41 (by kernel_rfl) (opensF_cons rfl (by kernel_rfl) (opens_bytes Tryd.underlying22 Tryd.underlying5 (by kernel_rfl)) (opensF_cons rfl (by kernel_rfl) (opens_int Tryd.underlying2) (opensF_one rfl (by kernel_rfl) (opens_int Tryd.underlying2))))) _ _ _ hf
  obtain ⟨a1, rfl, rfl, rfl, f1⟩ := open_int Tryd.underlying2 (hval 1 2 v1 rfl rfl) h1
  obtain ⟨e2, len2, cap2, rfl⟩ := okWide_slice Tryd.underlying22 (hval 2 22 v2 rfl rfl)
  have k2 := h2
  have lt2 : ∀ x ∈ s2, x.block < W.heap.size := by obtain ⟨m, hm⟩ := k2; exact DataW.trod_lt m _ _ _ hm
  obtain ⟨bs2, p2, q2, g2, r2⟩ : ∃ x, Cod.rep bytC W x [.slice e2 len2 cap2] := by obtain ⟨fuel, hf⟩ := h2; exact (opens_bytes Tryd.underlying22 Tryd.underlying5 (by kernel_rfl)) _ _ _ hf
  simp only [List.cons.injEq, Value.slice.injEq, and_true] at g2
  obtain ⟨rfl, rfl, rfl⟩ := g2
  obtain ⟨a3, rfl, rfl, rfl, f3⟩ := open_int Tryd.underlying2 (hval 3 2 v3 rfl rfl) h3
  clear hA0 hval0
  refine (walk x0 cs0.toList a1 bs2 e2 cap2 a3 W r0 f1 r2 f3 (tabs_of hL)).mono fun e W' ⟨he, bel⟩ => ?_
  subst he
  exact ⟨_, rfl, _, _, _, [], _, _, hW', trodAll_mk1 (shut_bool Tryd.underlying4 _), (trodAll_cons_mk (Below.trod laidOut (by kernel_rfl) (of_decide_eq_true (by kernel_rfl)) k0 bel lt0) (trodAll_cons_mk (shut_int Tryd.underlying2 f1) (trodAll_cons_mk (Below.trod laidOut (by kernel_rfl) (of_decide_eq_true (by kernel_rfl)) k2 bel lt2) (trodAll_cons_mk (shut_int Tryd.underlying2 f3) trodAll_mk0)))), Below.trodVars laidOut bel (by kernel_rfl) hV, bel.frame _, fun h => by cases h⟩

theorem over : Rows.fnExactSendRecordRow.holds Tryd.pinned (OpenSpec.ofChange Rows.fnExactSendRecordSpec) :=
  OpenClaim.holds_of_wide 5 Tryd.f5 rfl rfl rfl rfl rfl rfl rfl ⟨rfl, rfl, rfl, rfl, rfl⟩ rfl rfl rfl rfl rfl (by kernel_rfl) Tryd.func5 (by kernel_rfl)
    (of_decide_eq_true (by kernel_rfl)) (by unfold Func.isWrapper; first | (rw [if_pos (by decide +kernel)]; kernel_rfl) | (rw [if_neg (by decide +kernel)]; exact ⟨rfl, rfl⟩))
    (fun os started H enc _ => lifted os started H enc)

theorem plain (f : FuncId) (fn : Func) (hf : Tryd.pinned.checked.prog.funcNamed "loop.example/g00375/laws.FnExactSendRecord" = some f) (hfn : Tryd.pinned.checked.prog.funcs[f]? = some fn) :
    true = Tryd.pinned.checked.prog.looks [] ∧ ∀ (j : Nat) t, fn.params[j]? = some t → Tryd.pinned.checked.prog.wantsStandIn t = false := by
  obtain rfl : f = 5 := Option.some.inj ((show Tryd.prog.funcNamed "loop.example/g00375/laws.FnExactSendRecord" = some 5 by kernel_rfl).symm.trans hf) |>.symm
  obtain rfl : fn = Tryd.f5 := (Option.some.inj (Tryd.func5.symm.trans hfn)).symm
  refine ⟨by kernel_rfl, fun j t ht => ?_⟩
  rw [Tryd.params5] at ht
  have hm : t ∈ [41, 2, 22, 2] := by simpa using Array.mem_of_getElem? ht
  have hall : ([41, 2, 22, 2].all fun u => !Tryd.prog.wantsStandIn u) = true := by kernel_rfl
  exact (show Tryd.prog.wantsStandIn t = false by simpa using List.all_eq_true.1 hall t hm)
/-- The card. -/
theorem card : Rows.FnExactSendRecordCardSaid :=
  Claim7.holds_tied_plain_at .later [] _ _ _ _ over (fun _ h => by cases h) (by kernel_rfl) (fun _ h => by cases h) fnExactSendRecord_row_tie rfl ⟨rfl, rfl⟩ (by kernel_rfl) rfl plain (by kernel_rfl)
end Go.Proofs.YtdemfbbjdnjolaaDoor.fnExactSendRecord

namespace Go.Proofs.YtdemfbbjdnjolaaDoor
theorem fnExactSendRecord_holds : Rows.FnExactSendRecordCardSaid := fnExactSendRecord.card
end Go.Proofs.YtdemfbbjdnjolaaDoor
