/- CheckAuth of the program answers as the specification's, code and bytes, leaves its arguments alone, and its answer owns its memory, behind another call too; the two tables of the program's text are tied to it by the card. For every argument; no condition. -/
import Derived.Test.YtdbpnibcblelbabGreatDoorRows
import Derived.WalkKit
import Derived.ProofKit
import Derived.OpenShut
import Derived.ChangeOld
import Derived.Below
import Derived.Test.YtdbpnibcblelbabGreatDoorJoint5
import Derived.OpenVars
import Derived.LaidMore
import Derived.Stop.Joined
import Derived.SevenTiedAt
import Derived.Test.YtdbpnibcblelbabGreatDoorJoint7
import Derived.Test.YtdbpnibcblelbabGreatDoorAuthY
import Derived.Test.YtdbpnibcblelbabGreatDoorJoint12
import Derived.Test.YtdbpnibcblelbabGreatDoorJoint8
import Derived.Test.YtdbpnibcblelbabGreatDoorJoint22
import Derived.Test.YtdbpnibcblelbabGreatDoorCards
import Derived.Test.YtdbpnibcblelbabGreatDoorTie
namespace Go.Proofs.YtdbpnibcblelbabGreatDoor.fnExactCheckAuth
open Go.ChangeShapes Go.WideShapes Go.ChangeAt Go.RowKit
set_option linter.unusedVariables false

theorem own : ownKnob Tryz.prog.godebug = none := by kernel_rfl
theorem laidOut : laidOutB Tryz.prog = true := by kernel_rfl

/-! The walk. -/
set_option maxRecDepth 4000 in
set_option maxHeartbeats 4000000 in
theorem walk (bs0 : List UInt8) (p0 : Option Addr) (q0 : Nat) (a1 : Int) (l2 : _) (p2 : Option Addr) (q2 : Nat) (l3 : _) (p3 : Option Addr) (q3 : Nat) (a4 : Int) (bs5 : List UInt8) (p5 : Option Addr) (q5 : Nat) (w : World) (r0 : Rd w p0 q0 bs0) (f1 : (Lit.int .i64 a1).wf = true) (r2 : RdL certC w p2 q2 l2) (r3 : RdL signC w p3 q3 l3) (f4 : (Lit.int .i64 a4).wf = true) (r5 : Rd w p5 q5 bs5) (hT : Tabs w) :
    Calls Tryz.prog 3 #[.slice p0 bs0.length q0, .int .i64 a1, .slice p2 l2.length q2, .slice p3 l3.length q3, .int .i64 a4, .slice p5 bs5.length q5] w fun e w' => e = .returned (.bool true) ∧ Below w.heap.size w w' := by
  by_cases hl0 : 1048576 < bs0.length
  · go_enter Tryz.func3, Tryz.ntmps3
    go_wp2
    go_ret
    exact ⟨rfl, Below.refl _ _⟩
  replace hl0 : bs0.length ≤ 1048576 := by omega
  by_cases hl5 : 1048576 < bs5.length
  · go_enter Tryz.func3, Tryz.ntmps3
    go_wp2
    go_ret
    exact ⟨rfl, Below.refl _ _⟩
  replace hl5 : bs5.length ≤ 1048576 := by omega
  by_cases hl2 : l2.length ≤ 1048576
  · by_cases hl3 : sizeSign l3 ≤ 1048576 - (l2.length)
    · have hlen := caD_small bs0 a1 l2 l3 a4 bs5
      have hlen1 : 1 + authResultT (caD bs0 a1 l2 l3 a4 bs5) ≤ 1000000000 := by omega
      have hlen2 : 1 + authResultT (caD bs0 a1 l2 l3 a4 bs5) ≤ 1048577 := by omega
      go_enter Tryz.func3, Tryz.ntmps3
      go_wp2_with fail
      refine (szCertS_b l2 p2 q2 _ _ r2 (by omega) (by omega)).mono ?_
      rintro e w1 ⟨rfl, hb1⟩
      have z1 : Hid (w.heap.size ≤ w1.heap.size) := hb1.size
      have BW := hb1
      clear hb1
      rw [szR, if_pos (by omega)]
      go_wp2_with fail
      refine (szSignS_c l3 p3 q3 _ _ (r3.keep BW) (by omega) (by omega)).mono ?_
      rintro e w2 ⟨rfl, hb2⟩
      have z2 : Hid (w1.heap.size ≤ w2.heap.size) := hb2.size
      replace BW := Below.step BW hb2
      clear hb2
      rw [szR, if_pos (by omega)]
      go_wp2_with fail
      refine (toByteS_c _ _ bs0 _ (r0.keep BW) (by omega)).mono ?_
      rintro e w3 ⟨u0, rfl, k0, hb3⟩
      obtain ⟨pc0, qc0, rfl, -⟩ := k0.rd
      have gk0 : Hid (∀ k, k ∈ _ → w2.heap.size ≤ k ∧ k < w3.heap.size) := fun k hk => ⟨by have h := (k0.ins k hk).1; exact h, (k0.ins k hk).2⟩
      replace k0 := k0.win (Nat.le_refl _) gk0.out
      have z3 : Hid (w2.heap.size ≤ w3.heap.size) := hb3.size
      replace BW := Below.step BW hb3
      clear hb3
      go_wp2_with fail
      refine (toCertS_c l2 _ _ _ (r2.keep BW) (by omega)).mono ?_
      rintro e w4 ⟨u1, ys1, fp1, rfl, k1, hb4⟩
      obtain ⟨pc1, qc1, rfl, -⟩ := k1.rd
      have gk1 : Hid (∀ k, k ∈ _ → w3.heap.size ≤ k ∧ k < w4.heap.size) := fun k hk => ⟨by have h := (k1.ins k hk).1; exact h, (k1.ins k hk).2⟩
      replace k1 := k1.win (Nat.le_refl _) gk1.out
      have z4 : Hid (w3.heap.size ≤ w4.heap.size) := hb4.size
      replace k0 := k0.stay hb4
      replace BW := Below.step BW hb4
      clear hb4
      go_wp2_with fail
      refine (toSignS_c l3 _ _ _ (r3.keep BW) (by omega)).mono ?_
      rintro e w5 ⟨u2, ys2, fp2, rfl, k2, hb5⟩
      obtain ⟨pc2, qc2, rfl, -⟩ := k2.rd
      have gk2 : Hid (∀ k, k ∈ _ → w4.heap.size ≤ k ∧ k < w5.heap.size) := fun k hk => ⟨by have h := (k2.ins k hk).1; exact h, (k2.ins k hk).2⟩
      replace k2 := k2.win (Nat.le_refl _) gk2.out
      have z5 : Hid (w4.heap.size ≤ w5.heap.size) := hb5.size
      replace k0 := k0.stay hb5
      replace k1 := k1.stay hb5
      replace BW := Below.step BW hb5
      clear hb5
      go_wp2_with fail
      refine (toByteS_c _ _ bs5 _ (r5.keep BW) (by omega)).mono ?_
      rintro e w6 ⟨u3, rfl, k3, hb6⟩
      obtain ⟨pc3, qc3, rfl, -⟩ := k3.rd
      have gk3 : Hid (∀ k, k ∈ _ → w5.heap.size ≤ k ∧ k < w6.heap.size) := fun k hk => ⟨by have h := (k3.ins k hk).1; exact h, (k3.ins k hk).2⟩
      replace k3 := k3.win (Nat.le_refl _) gk3.out
      have z6 : Hid (w5.heap.size ≤ w6.heap.size) := hb6.size
      replace k0 := k0.stay hb6
      replace k1 := k1.stay hb6
      replace k2 := k2.stay hb6
      replace BW := Below.step BW hb6
      clear hb6
      go_wp2_with fail
      refine (specCa_k pc0 pc1 pc2 pc3 qc0 qc1 qc2 qc3 bs0 a1 l2 l3 a4 bs5 _ (Rd.own k0.now) (RdL.own k1.now) (RdL.own k2.now) (Rd.own k3.now)).mono ?_
      rintro e w7 ⟨uss, fps, rfl, ks, hb7⟩
      obtain ⟨ps2_1, qs2_1, ps2_4, qs2_4, es, -, -⟩ := authResult_rep (authResultC.toRep ks)
      subst es
      have gks : Hid (∀ k, k ∈ _ → w6.heap.size ≤ k ∧ k < w7.heap.size) := fun k hk => ⟨by have h := (ks.ins k hk).1; exact h, (ks.ins k hk).2⟩
      replace ks := ks.win (Nat.le_refl _) gks.out
      have z7 : Hid (w6.heap.size ≤ w7.heap.size) := hb7.size
      replace k0 := k0.stay hb7
      replace k1 := k1.stay hb7
      replace k2 := k2.stay hb7
      replace k3 := k3.stay hb7
      replace BW := Below.step BW hb7
      clear hb7
      clear k0 k1 k2 k3
      go_wp2_with fail
      refine (toByteS_c _ _ bs0 _ ((r0.keep BW).keep (alloc_below _ _)) (by omega)).mono ?_
      rintro e w8 ⟨u4, rfl, k4, hb8⟩
      obtain ⟨pc4, qc4, rfl, -⟩ := k4.rd
      have gk4 : Hid (∀ k, k ∈ _ → (w7.heap.size + 1) ≤ k ∧ k < w8.heap.size) := fun k hk => ⟨by have h := (k4.ins k hk).1; rw [size_alloc] at h; exact h, (k4.ins k hk).2⟩
      replace k4 := k4.win (Nat.le_refl _) gk4.out
      have sA := (Has.new hb8).win
      have z8 : Hid (w7.heap.size + 1 ≤ w8.heap.size) := size_lt hb8
      replace hb8 := Below.res hb8
      replace ks := ks.stay hb8
      replace BW := Below.step BW hb8
      clear hb8
      go_wp2_with fail
      refine (toCertS_c l2 _ _ _ (r2.keep BW) (by omega)).mono ?_
      rintro e w9 ⟨u5, ys5, fp5, rfl, k5, hb9⟩
      obtain ⟨pc5, qc5, rfl, -⟩ := k5.rd
      have gk5 : Hid (∀ k, k ∈ _ → w8.heap.size ≤ k ∧ k < w9.heap.size) := fun k hk => ⟨by have h := (k5.ins k hk).1; exact h, (k5.ins k hk).2⟩
      replace k5 := k5.win (Nat.le_refl _) gk5.out
      have z9 : Hid (w8.heap.size ≤ w9.heap.size) := hb9.size
      replace ks := ks.stay hb9
      replace sA := sA.stay hb9
      replace k4 := k4.stay hb9
      replace BW := Below.step BW hb9
      clear hb9
      go_wp2_with fail
      refine (toSignS_c l3 _ _ _ (r3.keep BW) (by omega)).mono ?_
      rintro e w10 ⟨u6, ys6, fp6, rfl, k6, hb10⟩
      obtain ⟨pc6, qc6, rfl, -⟩ := k6.rd
      have gk6 : Hid (∀ k, k ∈ _ → w9.heap.size ≤ k ∧ k < w10.heap.size) := fun k hk => ⟨by have h := (k6.ins k hk).1; exact h, (k6.ins k hk).2⟩
      replace k6 := k6.win (Nat.le_refl _) gk6.out
      have z10 : Hid (w9.heap.size ≤ w10.heap.size) := hb10.size
      replace ks := ks.stay hb10
      replace sA := sA.stay hb10
      replace k4 := k4.stay hb10
      replace k5 := k5.stay hb10
      replace BW := Below.step BW hb10
      clear hb10
      go_wp2_with fail
      refine (toByteS_c _ _ bs5 _ (r5.keep BW) (by omega)).mono ?_
      rintro e w11 ⟨u7, rfl, k7, hb11⟩
      obtain ⟨pc7, qc7, rfl, -⟩ := k7.rd
      have gk7 : Hid (∀ k, k ∈ _ → w10.heap.size ≤ k ∧ k < w11.heap.size) := fun k hk => ⟨by have h := (k7.ins k hk).1; exact h, (k7.ins k hk).2⟩
      replace k7 := k7.win (Nat.le_refl _) gk7.out
      have z11 : Hid (w10.heap.size ≤ w11.heap.size) := hb11.size
      replace ks := ks.stay hb11
      replace sA := sA.stay hb11
      replace k4 := k4.stay hb11
      replace k5 := k5.stay hb11
      replace k6 := k6.stay hb11
      replace BW := Below.step BW hb11
      clear hb11
      go_wp2_with fail
      refine (implCa_k pc4 pc5 pc6 pc7 qc4 qc5 qc6 qc7 bs0 a1 l2 l3 a4 bs5 _ (Rd.own k4.now) (RdL.own k5.now) (RdL.own k6.now) (Rd.own k7.now) (hT.keep BW)).mono ?_
      rintro e w12 ⟨usg, fpg, rfl, kg, hb12⟩
      obtain ⟨pg2_1, qg2_1, pg2_4, qg2_4, es, -, -⟩ := authResult_rep (authResultC.toRep kg)
      subst es
      have gkg : Hid (∀ k, k ∈ _ → w11.heap.size ≤ k ∧ k < w12.heap.size) := fun k hk => ⟨by have h := (kg.ins k hk).1; exact h, (kg.ins k hk).2⟩
      replace kg := kg.win (Nat.le_refl _) gkg.out
      have z12 : Hid (w11.heap.size ≤ w12.heap.size) := hb12.size
      replace ks := ks.stay hb12
      replace sA := sA.stay hb12
      replace k4 := k4.stay hb12
      replace k5 := k5.stay hb12
      replace k6 := k6.stay hb12
      replace k7 := k7.stay hb12
      replace BW := Below.step BW hb12
      clear hb12
      have csA0 := sA.now 0 _ rfl
      have csA1 := sA.now 1 _ rfl
      have csA2 := sA.now 2 _ rfl
      have csA3 := sA.now 3 _ rfl
      have csA4 := sA.now 4 _ rfl
      have csA5 := sA.now 5 _ rfl
      have csA6 := sA.now 6 _ rfl
      have zsA := Has.lt sA.now
      go_wp2_with fail
      refine (eqAuthResult_k (caD bs0 a1 l2 l3 a4 bs5) _ _ _ (authResultC.toRep (kg.stay (alloc_below _ _)).now) (authResultC.toRep (ks.stay (alloc_below _ _)).now)).mono ?_
      rintro e w13 ⟨rfl, hb13⟩
      have sB := (Has.new hb13).win
      have z13 : Hid (w12.heap.size + 1 ≤ w13.heap.size) := size_lt hb13
      replace hb13 := Below.res hb13
      replace ks := ks.stay hb13
      replace sA := sA.stay hb13
      replace k4 := k4.stay hb13
      replace k5 := k5.stay hb13
      replace k6 := k6.stay hb13
      replace k7 := k7.stay hb13
      replace kg := kg.stay hb13
      replace BW := Below.step BW hb13
      clear hb13 csA0 csA1 csA2 csA3 csA4 csA5 csA6 zsA
      go_wp2_with fail
      refine (toByteS_c _ _ bs0 _ (r0.keep BW) (by omega)).mono ?_
      rintro e w14 ⟨u8, rfl, k8, hb14⟩
      obtain ⟨pc8, qc8, rfl, -⟩ := k8.rd
      have gk8 : Hid (∀ k, k ∈ _ → w13.heap.size ≤ k ∧ k < w14.heap.size) := fun k hk => ⟨by have h := (k8.ins k hk).1; exact h, (k8.ins k hk).2⟩
      replace k8 := k8.win (Nat.le_refl _) gk8.out
      have z14 : Hid (w13.heap.size ≤ w14.heap.size) := hb14.size
      replace ks := ks.stay hb14
      replace sA := sA.stay hb14
      replace k4 := k4.stay hb14
      replace k5 := k5.stay hb14
      replace k6 := k6.stay hb14
      replace k7 := k7.stay hb14
      replace kg := kg.stay hb14
      replace sB := sB.stay hb14
      replace BW := Below.step BW hb14
      clear hb14
      go_wp2_with fail
      refine (eqByteS_c pc4 pc8 qc4 qc8 bs0 _ (Rd.own k4.now) (Rd.own k8.now)).mono ?_
      rintro e w15 ⟨rfl, hb15⟩
      have z15 : Hid (w14.heap.size ≤ w15.heap.size) := hb15.size
      replace ks := ks.stay hb15
      replace sA := sA.stay hb15
      replace k4 := k4.stay hb15
      replace k5 := k5.stay hb15
      replace k6 := k6.stay hb15
      replace k7 := k7.stay hb15
      replace kg := kg.stay hb15
      replace sB := sB.stay hb15
      replace k8 := k8.stay hb15
      replace BW := Below.step BW hb15
      clear hb15
      clear k8
      go_wp2_with fail
      refine (toCertS_c l2 _ _ _ (r2.keep BW) (by omega)).mono ?_
      rintro e w16 ⟨u9, ys9, fp9, rfl, k9, hb16⟩
      obtain ⟨pc9, qc9, rfl, -⟩ := k9.rd
      have gk9 : Hid (∀ k, k ∈ _ → w15.heap.size ≤ k ∧ k < w16.heap.size) := fun k hk => ⟨by have h := (k9.ins k hk).1; exact h, (k9.ins k hk).2⟩
      replace k9 := k9.win (Nat.le_refl _) gk9.out
      have z16 : Hid (w15.heap.size ≤ w16.heap.size) := hb16.size
      replace ks := ks.stay hb16
      replace sA := sA.stay hb16
      replace k4 := k4.stay hb16
      replace k5 := k5.stay hb16
      replace k6 := k6.stay hb16
      replace k7 := k7.stay hb16
      replace kg := kg.stay hb16
      replace sB := sB.stay hb16
      replace BW := Below.step BW hb16
      clear hb16
      go_wp2_with fail
      refine (eqCertS_c l2 pc5 pc9 qc5 qc9 _ (RdL.own k5.now) (RdL.own k9.now)).mono ?_
      rintro e w17 ⟨rfl, hb17⟩
      have z17 : Hid (w16.heap.size ≤ w17.heap.size) := hb17.size
      replace ks := ks.stay hb17
      replace sA := sA.stay hb17
      replace k4 := k4.stay hb17
      replace k5 := k5.stay hb17
      replace k6 := k6.stay hb17
      replace k7 := k7.stay hb17
      replace kg := kg.stay hb17
      replace sB := sB.stay hb17
      replace k9 := k9.stay hb17
      replace BW := Below.step BW hb17
      clear hb17
      clear k9
      go_wp2_with fail
      refine (toSignS_c l3 _ _ _ (r3.keep BW) (by omega)).mono ?_
      rintro e w18 ⟨u10, ys10, fp10, rfl, k10, hb18⟩
      obtain ⟨pc10, qc10, rfl, -⟩ := k10.rd
      have gk10 : Hid (∀ k, k ∈ _ → w17.heap.size ≤ k ∧ k < w18.heap.size) := fun k hk => ⟨by have h := (k10.ins k hk).1; exact h, (k10.ins k hk).2⟩
      replace k10 := k10.win (Nat.le_refl _) gk10.out
      have z18 : Hid (w17.heap.size ≤ w18.heap.size) := hb18.size
      replace ks := ks.stay hb18
      replace sA := sA.stay hb18
      replace k4 := k4.stay hb18
      replace k5 := k5.stay hb18
      replace k6 := k6.stay hb18
      replace k7 := k7.stay hb18
      replace kg := kg.stay hb18
      replace sB := sB.stay hb18
      replace BW := Below.step BW hb18
      clear hb18
      go_wp2_with fail
      refine (eqSignS_c l3 pc6 pc10 qc6 qc10 _ (RdL.own k6.now) (RdL.own k10.now)).mono ?_
      rintro e w19 ⟨rfl, hb19⟩
      have z19 : Hid (w18.heap.size ≤ w19.heap.size) := hb19.size
      replace ks := ks.stay hb19
      replace sA := sA.stay hb19
      replace k4 := k4.stay hb19
      replace k5 := k5.stay hb19
      replace k6 := k6.stay hb19
      replace k7 := k7.stay hb19
      replace kg := kg.stay hb19
      replace sB := sB.stay hb19
      replace k10 := k10.stay hb19
      replace BW := Below.step BW hb19
      clear hb19
      clear k10
      go_wp2_with fail
      refine (toByteS_c _ _ bs5 _ (r5.keep BW) (by omega)).mono ?_
      rintro e w20 ⟨u11, rfl, k11, hb20⟩
      obtain ⟨pc11, qc11, rfl, -⟩ := k11.rd
      have gk11 : Hid (∀ k, k ∈ _ → w19.heap.size ≤ k ∧ k < w20.heap.size) := fun k hk => ⟨by have h := (k11.ins k hk).1; exact h, (k11.ins k hk).2⟩
      replace k11 := k11.win (Nat.le_refl _) gk11.out
      have z20 : Hid (w19.heap.size ≤ w20.heap.size) := hb20.size
      replace ks := ks.stay hb20
      replace sA := sA.stay hb20
      replace k4 := k4.stay hb20
      replace k5 := k5.stay hb20
      replace k6 := k6.stay hb20
      replace k7 := k7.stay hb20
      replace kg := kg.stay hb20
      replace sB := sB.stay hb20
      replace BW := Below.step BW hb20
      clear hb20
      go_wp2_with fail
      refine (eqByteS_c pc7 pc11 qc7 qc11 bs5 _ (Rd.own k7.now) (Rd.own k11.now)).mono ?_
      rintro e w21 ⟨rfl, hb21⟩
      have z21 : Hid (w20.heap.size ≤ w21.heap.size) := hb21.size
      replace ks := ks.stay hb21
      replace sA := sA.stay hb21
      replace k4 := k4.stay hb21
      replace k5 := k5.stay hb21
      replace k6 := k6.stay hb21
      replace k7 := k7.stay hb21
      replace kg := kg.stay hb21
      replace sB := sB.stay hb21
      replace k11 := k11.stay hb21
      replace BW := Below.step BW hb21
      clear hb21
      clear k11
      go_wp2_with fail
      refine (markByteS_cn (1 : Nat) _ _ bs0 _ k4.now (by omega) (by omega) (by omega)).mono ?_
      rintro e w22 ⟨rfl, -, hg⟩
      have z22 : Hid (w21.heap.size ≤ w22.heap.size) := hg.size
      have sg := grown_seg hg gk4.out
      replace ks := ks.seg sg (by have := z1.out; have := z2.out; have := z3.out; have := z4.out; have := z5.out; have := z6.out; have := z7.out; have := z8.out; have := z9.out; have := z10.out; have := z11.out; have := z12.out; have := z13.out; have := z14.out; have := z15.out; have := z16.out; have := z17.out; have := z18.out; have := z19.out; have := z20.out; have := z21.out; have := z22.out; omega)
      replace sA := sA.seg sg (by have := z1.out; have := z2.out; have := z3.out; have := z4.out; have := z5.out; have := z6.out; have := z7.out; have := z8.out; have := z9.out; have := z10.out; have := z11.out; have := z12.out; have := z13.out; have := z14.out; have := z15.out; have := z16.out; have := z17.out; have := z18.out; have := z19.out; have := z20.out; have := z21.out; have := z22.out; omega)
      replace k5 := k5.seg sg (by have := z1.out; have := z2.out; have := z3.out; have := z4.out; have := z5.out; have := z6.out; have := z7.out; have := z8.out; have := z9.out; have := z10.out; have := z11.out; have := z12.out; have := z13.out; have := z14.out; have := z15.out; have := z16.out; have := z17.out; have := z18.out; have := z19.out; have := z20.out; have := z21.out; have := z22.out; omega)
      replace k6 := k6.seg sg (by have := z1.out; have := z2.out; have := z3.out; have := z4.out; have := z5.out; have := z6.out; have := z7.out; have := z8.out; have := z9.out; have := z10.out; have := z11.out; have := z12.out; have := z13.out; have := z14.out; have := z15.out; have := z16.out; have := z17.out; have := z18.out; have := z19.out; have := z20.out; have := z21.out; have := z22.out; omega)
      replace k7 := k7.seg sg (by have := z1.out; have := z2.out; have := z3.out; have := z4.out; have := z5.out; have := z6.out; have := z7.out; have := z8.out; have := z9.out; have := z10.out; have := z11.out; have := z12.out; have := z13.out; have := z14.out; have := z15.out; have := z16.out; have := z17.out; have := z18.out; have := z19.out; have := z20.out; have := z21.out; have := z22.out; omega)
      replace kg := kg.seg sg (by have := z1.out; have := z2.out; have := z3.out; have := z4.out; have := z5.out; have := z6.out; have := z7.out; have := z8.out; have := z9.out; have := z10.out; have := z11.out; have := z12.out; have := z13.out; have := z14.out; have := z15.out; have := z16.out; have := z17.out; have := z18.out; have := z19.out; have := z20.out; have := z21.out; have := z22.out; omega)
      replace sB := sB.seg sg (by have := z1.out; have := z2.out; have := z3.out; have := z4.out; have := z5.out; have := z6.out; have := z7.out; have := z8.out; have := z9.out; have := z10.out; have := z11.out; have := z12.out; have := z13.out; have := z14.out; have := z15.out; have := z16.out; have := z17.out; have := z18.out; have := z19.out; have := z20.out; have := z21.out; have := z22.out; omega)
      replace BW := Below.seg BW sg (by have := z1.out; have := z2.out; have := z3.out; have := z4.out; have := z5.out; have := z6.out; have := z7.out; have := z8.out; have := z9.out; have := z10.out; have := z11.out; have := z12.out; have := z13.out; have := z14.out; have := z15.out; have := z16.out; have := z17.out; have := z18.out; have := z19.out; have := z20.out; have := z21.out; have := z22.out; omega)
      clear hg sg k4
      obtain ⟨mk0, Hmk0⟩ : ∃ mk0 : Nat, Hid (mk0 = 1 + bs0.length) := ⟨_, rfl⟩
      rw [show (((1 : Nat) : Int) + (bs0.length : Int)) = (mk0 : Int) by have := Hmk0.out; omega]
      go_wp2_with fail
      refine (markCertS_c _ l2 _ _ _ _ mk0 _ k5.now (by have := Hmk0.out; omega)).mono ?_
      rintro e w23 ⟨rfl, -, hg⟩
      have z23 : Hid (w22.heap.size ≤ w23.heap.size) := hg.size
      have sg := Only.seg hg gk5.out
      replace ks := ks.seg sg (by have := z1.out; have := z2.out; have := z3.out; have := z4.out; have := z5.out; have := z6.out; have := z7.out; have := z8.out; have := z9.out; have := z10.out; have := z11.out; have := z12.out; have := z13.out; have := z14.out; have := z15.out; have := z16.out; have := z17.out; have := z18.out; have := z19.out; have := z20.out; have := z21.out; have := z22.out; have := z23.out; omega)
      replace sA := sA.seg sg (by have := z1.out; have := z2.out; have := z3.out; have := z4.out; have := z5.out; have := z6.out; have := z7.out; have := z8.out; have := z9.out; have := z10.out; have := z11.out; have := z12.out; have := z13.out; have := z14.out; have := z15.out; have := z16.out; have := z17.out; have := z18.out; have := z19.out; have := z20.out; have := z21.out; have := z22.out; have := z23.out; omega)
      replace k6 := k6.seg sg (by have := z1.out; have := z2.out; have := z3.out; have := z4.out; have := z5.out; have := z6.out; have := z7.out; have := z8.out; have := z9.out; have := z10.out; have := z11.out; have := z12.out; have := z13.out; have := z14.out; have := z15.out; have := z16.out; have := z17.out; have := z18.out; have := z19.out; have := z20.out; have := z21.out; have := z22.out; have := z23.out; omega)
      replace k7 := k7.seg sg (by have := z1.out; have := z2.out; have := z3.out; have := z4.out; have := z5.out; have := z6.out; have := z7.out; have := z8.out; have := z9.out; have := z10.out; have := z11.out; have := z12.out; have := z13.out; have := z14.out; have := z15.out; have := z16.out; have := z17.out; have := z18.out; have := z19.out; have := z20.out; have := z21.out; have := z22.out; have := z23.out; omega)
      replace kg := kg.seg sg (by have := z1.out; have := z2.out; have := z3.out; have := z4.out; have := z5.out; have := z6.out; have := z7.out; have := z8.out; have := z9.out; have := z10.out; have := z11.out; have := z12.out; have := z13.out; have := z14.out; have := z15.out; have := z16.out; have := z17.out; have := z18.out; have := z19.out; have := z20.out; have := z21.out; have := z22.out; have := z23.out; omega)
      replace sB := sB.seg sg (by have := z1.out; have := z2.out; have := z3.out; have := z4.out; have := z5.out; have := z6.out; have := z7.out; have := z8.out; have := z9.out; have := z10.out; have := z11.out; have := z12.out; have := z13.out; have := z14.out; have := z15.out; have := z16.out; have := z17.out; have := z18.out; have := z19.out; have := z20.out; have := z21.out; have := z22.out; have := z23.out; omega)
      replace BW := Below.seg BW sg (by have := z1.out; have := z2.out; have := z3.out; have := z4.out; have := z5.out; have := z6.out; have := z7.out; have := z8.out; have := z9.out; have := z10.out; have := z11.out; have := z12.out; have := z13.out; have := z14.out; have := z15.out; have := z16.out; have := z17.out; have := z18.out; have := z19.out; have := z20.out; have := z21.out; have := z22.out; have := z23.out; omega)
      clear hg sg k5
      obtain ⟨mk2, Hmk2⟩ : ∃ mk2 : Nat, Hid (mk2 = mk0 + 3 * l2.length) := ⟨_, rfl⟩
      rw [show (((mk0 + 3 * l2.length : Nat)) : Int) = (mk2 : Int) by have := Hmk2.out; omega]
      go_wp2_with fail
      refine (markSignS_c _ l3 _ _ _ _ mk2 _ k6.now (by have := Hmk0.out; have := Hmk2.out; have := bulkSign_le8 l3; omega) (by have := bulkSign_le8 l3; omega)).mono ?_
      rintro e w24 ⟨rfl, -, hg⟩
      have z24 : Hid (w23.heap.size ≤ w24.heap.size) := hg.size
      have sg := Only.seg hg gk6.out
      replace ks := ks.seg sg (by have := z1.out; have := z2.out; have := z3.out; have := z4.out; have := z5.out; have := z6.out; have := z7.out; have := z8.out; have := z9.out; have := z10.out; have := z11.out; have := z12.out; have := z13.out; have := z14.out; have := z15.out; have := z16.out; have := z17.out; have := z18.out; have := z19.out; have := z20.out; have := z21.out; have := z22.out; have := z23.out; have := z24.out; omega)
      replace sA := sA.seg sg (by have := z1.out; have := z2.out; have := z3.out; have := z4.out; have := z5.out; have := z6.out; have := z7.out; have := z8.out; have := z9.out; have := z10.out; have := z11.out; have := z12.out; have := z13.out; have := z14.out; have := z15.out; have := z16.out; have := z17.out; have := z18.out; have := z19.out; have := z20.out; have := z21.out; have := z22.out; have := z23.out; have := z24.out; omega)
      replace k7 := k7.seg sg (by have := z1.out; have := z2.out; have := z3.out; have := z4.out; have := z5.out; have := z6.out; have := z7.out; have := z8.out; have := z9.out; have := z10.out; have := z11.out; have := z12.out; have := z13.out; have := z14.out; have := z15.out; have := z16.out; have := z17.out; have := z18.out; have := z19.out; have := z20.out; have := z21.out; have := z22.out; have := z23.out; have := z24.out; omega)
      replace kg := kg.seg sg (by have := z1.out; have := z2.out; have := z3.out; have := z4.out; have := z5.out; have := z6.out; have := z7.out; have := z8.out; have := z9.out; have := z10.out; have := z11.out; have := z12.out; have := z13.out; have := z14.out; have := z15.out; have := z16.out; have := z17.out; have := z18.out; have := z19.out; have := z20.out; have := z21.out; have := z22.out; have := z23.out; have := z24.out; omega)
      replace sB := sB.seg sg (by have := z1.out; have := z2.out; have := z3.out; have := z4.out; have := z5.out; have := z6.out; have := z7.out; have := z8.out; have := z9.out; have := z10.out; have := z11.out; have := z12.out; have := z13.out; have := z14.out; have := z15.out; have := z16.out; have := z17.out; have := z18.out; have := z19.out; have := z20.out; have := z21.out; have := z22.out; have := z23.out; have := z24.out; omega)
      replace BW := Below.seg BW sg (by have := z1.out; have := z2.out; have := z3.out; have := z4.out; have := z5.out; have := z6.out; have := z7.out; have := z8.out; have := z9.out; have := z10.out; have := z11.out; have := z12.out; have := z13.out; have := z14.out; have := z15.out; have := z16.out; have := z17.out; have := z18.out; have := z19.out; have := z20.out; have := z21.out; have := z22.out; have := z23.out; have := z24.out; omega)
      clear hg sg k6
      obtain ⟨mk3, Hmk3⟩ : ∃ mk3 : Nat, Hid (mk3 = mk2 + bulkSign l3) := ⟨_, rfl⟩
      rw [show (((mk2 + bulkSign l3 : Nat)) : Int) = (mk3 : Int) by have := Hmk3.out; omega]
      go_wp2_with fail
      refine (markByteS_cn (mk3 : Nat) _ _ bs5 _ k7.now (by omega) (by have := Hmk0.out; have := Hmk2.out; have := Hmk3.out; have := bulkSign_le8 l3; omega) (by omega)).mono ?_
      rintro e w25 ⟨rfl, -, hg⟩
      have z25 : Hid (w24.heap.size ≤ w25.heap.size) := hg.size
      have sg := grown_seg hg gk7.out
      replace ks := ks.seg sg (by have := z1.out; have := z2.out; have := z3.out; have := z4.out; have := z5.out; have := z6.out; have := z7.out; have := z8.out; have := z9.out; have := z10.out; have := z11.out; have := z12.out; have := z13.out; have := z14.out; have := z15.out; have := z16.out; have := z17.out; have := z18.out; have := z19.out; have := z20.out; have := z21.out; have := z22.out; have := z23.out; have := z24.out; have := z25.out; omega)
      replace sA := sA.seg sg (by have := z1.out; have := z2.out; have := z3.out; have := z4.out; have := z5.out; have := z6.out; have := z7.out; have := z8.out; have := z9.out; have := z10.out; have := z11.out; have := z12.out; have := z13.out; have := z14.out; have := z15.out; have := z16.out; have := z17.out; have := z18.out; have := z19.out; have := z20.out; have := z21.out; have := z22.out; have := z23.out; have := z24.out; have := z25.out; omega)
      replace kg := kg.seg sg (by have := z1.out; have := z2.out; have := z3.out; have := z4.out; have := z5.out; have := z6.out; have := z7.out; have := z8.out; have := z9.out; have := z10.out; have := z11.out; have := z12.out; have := z13.out; have := z14.out; have := z15.out; have := z16.out; have := z17.out; have := z18.out; have := z19.out; have := z20.out; have := z21.out; have := z22.out; have := z23.out; have := z24.out; have := z25.out; omega)
      replace sB := sB.seg sg (by have := z1.out; have := z2.out; have := z3.out; have := z4.out; have := z5.out; have := z6.out; have := z7.out; have := z8.out; have := z9.out; have := z10.out; have := z11.out; have := z12.out; have := z13.out; have := z14.out; have := z15.out; have := z16.out; have := z17.out; have := z18.out; have := z19.out; have := z20.out; have := z21.out; have := z22.out; have := z23.out; have := z24.out; have := z25.out; omega)
      replace BW := Below.seg BW sg (by have := z1.out; have := z2.out; have := z3.out; have := z4.out; have := z5.out; have := z6.out; have := z7.out; have := z8.out; have := z9.out; have := z10.out; have := z11.out; have := z12.out; have := z13.out; have := z14.out; have := z15.out; have := z16.out; have := z17.out; have := z18.out; have := z19.out; have := z20.out; have := z21.out; have := z22.out; have := z23.out; have := z24.out; have := z25.out; omega)
      clear hg sg k7
      obtain ⟨mk5, Hmk5⟩ : ∃ mk5 : Nat, Hid (mk5 = mk3 + bs5.length) := ⟨_, rfl⟩
      rw [show (((mk3 : Nat) : Int) + (bs5.length : Int)) = (mk5 : Int) by have := Hmk5.out; omega]
      have csA0 := sA.now 0 _ rfl
      have csA1 := sA.now 1 _ rfl
      have csA2 := sA.now 2 _ rfl
      have csA3 := sA.now 3 _ rfl
      have csA4 := sA.now 4 _ rfl
      have csA5 := sA.now 5 _ rfl
      have csA6 := sA.now 6 _ rfl
      have zsA := Has.lt sA.now
      have csB0 := sB.now 0 _ rfl
      have csB1 := sB.now 1 _ rfl
      have csB2 := sB.now 2 _ rfl
      have csB3 := sB.now 3 _ rfl
      have csB4 := sB.now 4 _ rfl
      have csB5 := sB.now 5 _ rfl
      have csB6 := sB.now 6 _ rfl
      have zsB := Has.lt sB.now
      go_wp2_with fail
      refine (eqAuthResult_k (caD bs0 a1 l2 l3 a4 bs5) _ _ _ (authResultC.toRep kg.now) (authResultC.toRep ks.now)).mono ?_
      rintro e w26 ⟨rfl, hb26⟩
      have z26 : Hid (w25.heap.size ≤ w26.heap.size) := hb26.size
      replace ks := ks.stay hb26
      replace sA := sA.stay hb26
      replace kg := kg.stay hb26
      replace sB := sB.stay hb26
      replace BW := Below.step BW hb26
      clear hb26 csA0 csA1 csA2 csA3 csA4 csA5 csA6 zsA csB0 csB1 csB2 csB3 csB4 csB5 csB6 zsB
      have csB0 := sB.now 0 _ rfl
      have csB1 := sB.now 1 _ rfl
      have csB2 := sB.now 2 _ rfl
      have csB3 := sB.now 3 _ rfl
      have csB4 := sB.now 4 _ rfl
      have csB5 := sB.now 5 _ rfl
      have csB6 := sB.now 6 _ rfl
      have zsB := Has.lt sB.now
      go_wp2_with fail
      refine (markAuthResult_k (caD bs0 a1 l2 l3 a4 bs5) _ _ _ 1 1 rfl _ kg.now hlen1).mono ?_
      rintro e w27 ⟨rfl, km, hg⟩
      have z27 : Hid (w26.heap.size ≤ w27.heap.size) := hg.size
      have sg := Only.seg hg gkg.out
      replace ks := ks.seg sg (by have := z1.out; have := z2.out; have := z3.out; have := z4.out; have := z5.out; have := z6.out; have := z7.out; have := z8.out; have := z9.out; have := z10.out; have := z11.out; have := z12.out; have := z13.out; have := z14.out; have := z15.out; have := z16.out; have := z17.out; have := z18.out; have := z19.out; have := z20.out; have := z21.out; have := z22.out; have := z23.out; have := z24.out; have := z25.out; have := z26.out; have := z27.out; omega)
      replace sA := sA.seg sg (by have := z1.out; have := z2.out; have := z3.out; have := z4.out; have := z5.out; have := z6.out; have := z7.out; have := z8.out; have := z9.out; have := z10.out; have := z11.out; have := z12.out; have := z13.out; have := z14.out; have := z15.out; have := z16.out; have := z17.out; have := z18.out; have := z19.out; have := z20.out; have := z21.out; have := z22.out; have := z23.out; have := z24.out; have := z25.out; have := z26.out; have := z27.out; omega)
      replace sB := sB.seg sg (by have := z1.out; have := z2.out; have := z3.out; have := z4.out; have := z5.out; have := z6.out; have := z7.out; have := z8.out; have := z9.out; have := z10.out; have := z11.out; have := z12.out; have := z13.out; have := z14.out; have := z15.out; have := z16.out; have := z17.out; have := z18.out; have := z19.out; have := z20.out; have := z21.out; have := z22.out; have := z23.out; have := z24.out; have := z25.out; have := z26.out; have := z27.out; omega)
      replace BW := Below.seg BW sg (by have := z1.out; have := z2.out; have := z3.out; have := z4.out; have := z5.out; have := z6.out; have := z7.out; have := z8.out; have := z9.out; have := z10.out; have := z11.out; have := z12.out; have := z13.out; have := z14.out; have := z15.out; have := z16.out; have := z17.out; have := z18.out; have := z19.out; have := z20.out; have := z21.out; have := z22.out; have := z23.out; have := z24.out; have := z25.out; have := z26.out; have := z27.out; omega)
      replace km := km.win (by have := z1.out; have := z2.out; have := z3.out; have := z4.out; have := z5.out; have := z6.out; have := z7.out; have := z8.out; have := z9.out; have := z10.out; have := z11.out; have := z12.out; have := z13.out; have := z14.out; have := z15.out; have := z16.out; have := z17.out; have := z18.out; have := z19.out; have := z20.out; have := z21.out; have := z22.out; have := z23.out; have := z24.out; have := z25.out; have := z26.out; have := z27.out; omega) gkg.out
      clear hg sg kg csB0 csB1 csB2 csB3 csB4 csB5 csB6 zsB
      have csB0 := sB.now 0 _ rfl
      have csB1 := sB.now 1 _ rfl
      have csB2 := sB.now 2 _ rfl
      have csB3 := sB.now 3 _ rfl
      have csB4 := sB.now 4 _ rfl
      have csB5 := sB.now 5 _ rfl
      have csB6 := sB.now 6 _ rfl
      have zsB := Has.lt sB.now
      go_wp2_with fail
      refine (heldAuthResult_k (caD bs0 a1 l2 l3 a4 bs5) _ 1 1 rfl _ (authResultC.toRep km.now) hlen2).mono ?_
      rintro e w28 ⟨rfl, hb28⟩
      have z28 : Hid (w27.heap.size ≤ w28.heap.size) := hb28.size
      replace ks := ks.stay hb28
      replace sA := sA.stay hb28
      replace sB := sB.stay hb28
      replace km := km.stay hb28
      replace BW := Below.step BW hb28
      clear hb28 csB0 csB1 csB2 csB3 csB4 csB5 csB6 zsB
      go_wp2_with fail
      refine (toByteS_c _ _ bs0 _ (r0.keep BW) (by omega)).mono ?_
      rintro e w29 ⟨u12, rfl, k12, hb29⟩
      obtain ⟨pc12, qc12, rfl, -⟩ := k12.rd
      have gk12 : Hid (∀ k, k ∈ _ → w28.heap.size ≤ k ∧ k < w29.heap.size) := fun k hk => ⟨by have h := (k12.ins k hk).1; exact h, (k12.ins k hk).2⟩
      replace k12 := k12.win (Nat.le_refl _) gk12.out
      have z29 : Hid (w28.heap.size ≤ w29.heap.size) := hb29.size
      replace ks := ks.stay hb29
      replace sA := sA.stay hb29
      replace sB := sB.stay hb29
      replace km := km.stay hb29
      replace BW := Below.step BW hb29
      clear hb29
      go_wp2_with fail
      refine (toCertS_c l2 _ _ _ (r2.keep BW) (by omega)).mono ?_
      rintro e w30 ⟨u13, ys13, fp13, rfl, k13, hb30⟩
      obtain ⟨pc13, qc13, rfl, -⟩ := k13.rd
      have gk13 : Hid (∀ k, k ∈ _ → w29.heap.size ≤ k ∧ k < w30.heap.size) := fun k hk => ⟨by have h := (k13.ins k hk).1; exact h, (k13.ins k hk).2⟩
      replace k13 := k13.win (Nat.le_refl _) gk13.out
      have z30 : Hid (w29.heap.size ≤ w30.heap.size) := hb30.size
      replace ks := ks.stay hb30
      replace sA := sA.stay hb30
      replace sB := sB.stay hb30
      replace km := km.stay hb30
      replace k12 := k12.stay hb30
      replace BW := Below.step BW hb30
      clear hb30
      go_wp2_with fail
      refine (toSignS_c l3 _ _ _ (r3.keep BW) (by omega)).mono ?_
      rintro e w31 ⟨u14, ys14, fp14, rfl, k14, hb31⟩
      obtain ⟨pc14, qc14, rfl, -⟩ := k14.rd
      have gk14 : Hid (∀ k, k ∈ _ → w30.heap.size ≤ k ∧ k < w31.heap.size) := fun k hk => ⟨by have h := (k14.ins k hk).1; exact h, (k14.ins k hk).2⟩
      replace k14 := k14.win (Nat.le_refl _) gk14.out
      have z31 : Hid (w30.heap.size ≤ w31.heap.size) := hb31.size
      replace ks := ks.stay hb31
      replace sA := sA.stay hb31
      replace sB := sB.stay hb31
      replace km := km.stay hb31
      replace k12 := k12.stay hb31
      replace k13 := k13.stay hb31
      replace BW := Below.step BW hb31
      clear hb31
      go_wp2_with fail
      refine (toByteS_c _ _ bs5 _ (r5.keep BW) (by omega)).mono ?_
      rintro e w32 ⟨u15, rfl, k15, hb32⟩
      obtain ⟨pc15, qc15, rfl, -⟩ := k15.rd
      have gk15 : Hid (∀ k, k ∈ _ → w31.heap.size ≤ k ∧ k < w32.heap.size) := fun k hk => ⟨by have h := (k15.ins k hk).1; exact h, (k15.ins k hk).2⟩
      replace k15 := k15.win (Nat.le_refl _) gk15.out
      have z32 : Hid (w31.heap.size ≤ w32.heap.size) := hb32.size
      replace ks := ks.stay hb32
      replace sA := sA.stay hb32
      replace sB := sB.stay hb32
      replace km := km.stay hb32
      replace k12 := k12.stay hb32
      replace k13 := k13.stay hb32
      replace k14 := k14.stay hb32
      replace BW := Below.step BW hb32
      clear hb32
      go_wp2_with fail
      refine (implCa_k pc12 pc13 pc14 pc15 qc12 qc13 qc14 qc15 bs0 a1 l2 l3 a4 bs5 _ (Rd.own k12.now) (RdL.own k13.now) (RdL.own k14.now) (Rd.own k15.now) (hT.keep BW)).mono ?_
      rintro e w33 ⟨ush, fph, rfl, kh, hb33⟩
      obtain ⟨ph2_1, qh2_1, ph2_4, qh2_4, es, -, -⟩ := authResult_rep (authResultC.toRep kh)
      subst es
      have gkh : Hid (∀ k, k ∈ _ → w32.heap.size ≤ k ∧ k < w33.heap.size) := fun k hk => ⟨by have h := (kh.ins k hk).1; exact h, (kh.ins k hk).2⟩
      replace kh := kh.win (Nat.le_refl _) gkh.out
      have z33 : Hid (w32.heap.size ≤ w33.heap.size) := hb33.size
      replace ks := ks.stay hb33
      replace sA := sA.stay hb33
      replace sB := sB.stay hb33
      replace km := km.stay hb33
      replace k12 := k12.stay hb33
      replace k13 := k13.stay hb33
      replace k14 := k14.stay hb33
      replace k15 := k15.stay hb33
      replace BW := Below.step BW hb33
      clear hb33
      clear k12 k13 k14 k15
      have csA0 := sA.now 0 _ rfl
      have csA1 := sA.now 1 _ rfl
      have csA2 := sA.now 2 _ rfl
      have csA3 := sA.now 3 _ rfl
      have csA4 := sA.now 4 _ rfl
      have csA5 := sA.now 5 _ rfl
      have csA6 := sA.now 6 _ rfl
      have zsA := Has.lt sA.now
      go_wp2_with fail
      refine (eqAuthResult_k (caD bs0 a1 l2 l3 a4 bs5) _ _ _ (authResultC.toRep (kh.stay (alloc_below _ _)).now) (authResultC.toRep (ks.stay (alloc_below _ _)).now)).mono ?_
      rintro e w34 ⟨rfl, hb34⟩
      have sC := (Has.new hb34).win
      have z34 : Hid (w33.heap.size + 1 ≤ w34.heap.size) := size_lt hb34
      replace hb34 := Below.res hb34
      replace ks := ks.stay hb34
      replace sA := sA.stay hb34
      replace sB := sB.stay hb34
      replace km := km.stay hb34
      replace kh := kh.stay hb34
      replace BW := Below.step BW hb34
      clear hb34 csA0 csA1 csA2 csA3 csA4 csA5 csA6 zsA
      clear sC sA ks kh
      have csB0 := sB.now 0 _ rfl
      have csB1 := sB.now 1 _ rfl
      have csB2 := sB.now 2 _ rfl
      have csB3 := sB.now 3 _ rfl
      have csB4 := sB.now 4 _ rfl
      have csB5 := sB.now 5 _ rfl
      have csB6 := sB.now 6 _ rfl
      have zsB := Has.lt sB.now
      go_wp2_with fail
      refine (heldAuthResult_k (caD bs0 a1 l2 l3 a4 bs5) _ 1 1 rfl _ (authResultC.toRep km.now) hlen2).mono ?_
      rintro e w35 ⟨rfl, hb35⟩
      have z35 : Hid (w34.heap.size ≤ w35.heap.size) := hb35.size
      replace sB := sB.stay hb35
      replace km := km.stay hb35
      replace BW := Below.step BW hb35
      clear hb35 csB0 csB1 csB2 csB3 csB4 csB5 csB6 zsB
      go_wp2
      go_ret
      exact ⟨rfl, BW⟩
    · go_enter Tryz.func3, Tryz.ntmps3
      go_wp2_with fail
      refine (szCertS_b l2 p2 q2 _ _ r2 (by omega) (by omega)).mono ?_
      rintro e w1 ⟨rfl, hb1⟩
      have z1 : Hid (w.heap.size ≤ w1.heap.size) := hb1.size
      have BW := hb1
      clear hb1
      rw [szR, if_pos (by omega)]
      go_wp2_with fail
      refine (szSignS_c l3 p3 q3 _ _ (r3.keep BW) (by omega) (by omega)).mono ?_
      rintro e w2 ⟨rfl, hb2⟩
      have z2 : Hid (w1.heap.size ≤ w2.heap.size) := hb2.size
      replace BW := Below.step BW hb2
      clear hb2
      rw [szR, if_neg (by omega)]
      go_wp2
      go_ret
      exact ⟨rfl, BW⟩
  · go_enter Tryz.func3, Tryz.ntmps3
    go_wp2_with fail
    refine (szCertS_b l2 p2 q2 _ _ r2 (by omega) (by omega)).mono ?_
    rintro e w1 ⟨rfl, hb1⟩
    have z1 : Hid (w.heap.size ≤ w1.heap.size) := hb1.size
    have BW := hb1
    clear hb1
    rw [szR, if_neg (by omega)]
    go_wp2
    go_ret
    exact ⟨rfl, BW⟩

/-! The row's step. -/
/-- The door's own heap meets the condition. -/
theorem door_met (os : Os) (args : Array Value) : laidMetH Tryz.prog Rows.fnExactCheckAuthRow.laid ((World.doorLaid Tryz.prog 400 os).forCall (fun _ _ => 0) ⟨#[], args, []⟩).memory :=
  laidMet_of_run' 8 (by kernel_rfl) (by kernel_rfl)

set_option maxRecDepth 100000 in
set_option maxHeartbeats 1000000 in
theorem lifted (os : Os) (started : os.Started) (H : Type) (enc : TypeId × Value → H) :
    ReturnsInHanded {} Tryz.checked os 3 .any (fun w args => (Rows.fnExactCheckAuthSpec.pre enc Tryz.prog Tryz.f3 [] false w args ∧ laidMetH Tryz.prog Rows.fnExactCheckAuthRow.laid w) ∧ sizedMet enc Tryz.prog Tryz.f3 (OpenSpec.ofChange Rows.fnExactCheckAuthSpec) false w args) (Rows.fnExactCheckAuthSpec.post enc Tryz.prog Tryz.f3 false true false false) := by
  refine returnsInHanded_of_change_and (C := Tryz.checked) (X := fun w _ => laidMetH Tryz.prog Rows.fnExactCheckAuthRow.laid w) (fun _ _ _ hh h => h.of_heap hh) own started (by kernel_rfl) Tryz.func3
    (ChangeSpec.witness_shaped (enc := enc) (C := Tryz.checked) (os := os) (X := fun w _ => laidMetH Tryz.prog Rows.fnExactCheckAuthRow.laid w) false (World.doorLaid Tryz.prog 400 os) #[.slice none 0 0, .int .i64 0, .slice none 0 0, .slice none 0 0, .int .i64 0, .slice none 0 0] 8 rfl (World.shaped_of_RefB (by kernel_rfl) (by kernel_rfl)) (by kernel_rfl) (by kernel_rfl) (by kernel_rfl) (door_met os _)) ?_
  intro W base args ds gs before hval0 hW hcnd _ hL _
  have hval : ∀ (j : Nat) t v, Tryz.f3.params[j]? = some t → args[j]? = some v → Value.okWide Tryz.prog W .any base t v := hval0
  have hW' := hW
  obtain ⟨p, q, hA0, hV, rfl, hfz, hnd⟩ := hW
  have hA : DataW.TrodAll enc Tryz.prog W 0 (fun _ => true) true Tryz.f3.params.toList args.toList ds p := hA0
  rw [Tryz.params3] at hA hval
  obtain ⟨v0, vs0, d0, ds0, s0, t0, hargs, rfl, rfl, h0, m0⟩ := trodAll_cons hA
  obtain ⟨v1, vs1, d1, ds1, s1, t1, rfl, rfl, rfl, h1, m1⟩ := trodAll_cons m0
  obtain ⟨v2, vs2, d2, ds2, s2, t2, rfl, rfl, rfl, h2, m2⟩ := trodAll_cons m1
  obtain ⟨v3, vs3, d3, ds3, s3, t3, rfl, rfl, rfl, h3, m3⟩ := trodAll_cons m2
  obtain ⟨v4, vs4, d4, ds4, s4, t4, rfl, rfl, rfl, h4, m4⟩ := trodAll_cons m3
  obtain ⟨v5, vs5, d5, ds5, s5, t5, rfl, rfl, rfl, h5, m5⟩ := trodAll_cons m4
  obtain ⟨rfl, rfl, rfl⟩ := trodAll_nil m5
  obtain rfl : args = #[v0, v1, v2, v3, v4, v5] := by cases args; simp_all
  obtain ⟨v0a, v0b, v0c, v0d, v0e, v0f, v1a, v1b, v1c, v1d, v1e, v1f, rfl, -⟩ := trodVars_two hV
  obtain ⟨e0, len0, cap0, rfl⟩ := okWide_slice Tryz.underlying22 (hval 0 22 v0 rfl rfl)
  have k0 := h0
  have lt0 : ∀ x ∈ s0, x.block < W.heap.size := by obtain ⟨m, hm⟩ := k0; exact DataW.trod_lt m _ _ _ hm
  obtain ⟨bs0, p0, q0, g0, r0⟩ : ∃ x, Cod.rep bytC W x [.slice e0 len0 cap0] := by obtain ⟨fuel, hf⟩ := h0; exact (opens_bytes Tryz.underlying22 Tryz.underlying5 (by kernel_rfl)) _ _ _ hf
  simp only [List.cons.injEq, Value.slice.injEq, and_true] at g0
  obtain ⟨rfl, rfl, rfl⟩ := g0
  obtain ⟨a1, rfl, rfl, rfl, f1⟩ := open_int Tryz.underlying2 (hval 1 2 v1 rfl rfl) h1
  obtain ⟨e2, len2, cap2, rfl⟩ := okWide_slice Tryz.underlying23 (hval 2 23 v2 rfl rfl)
  have k2 := h2
  have lt2 : ∀ x ∈ s2, x.block < W.heap.size := by obtain ⟨m, hm⟩ := k2; exact DataW.trod_lt m _ _ _ hm
  obtain ⟨l2, p2, q2, g2, r2⟩ : ∃ x, Cod.rep (listC 58 certC) W x [.slice e2 len2 cap2] := by obtain ⟨fuel, hf⟩ := h2; exact (opens_list (e' := 58) (c := certC) Tryz.underlying23 (by kernel_rfl) (by decide) (opens_struct (c := certC) Tryz.underlying58 (by kernel_rfl) (opensF_cons rfl (by kernel_rfl) (opens_int Tryz.underlying2) (opensF_cons rfl (by kernel_rfl) (opens_int Tryz.underlying2) (opensF_one rfl (by kernel_rfl) (opens_int Tryz.underlying2)))))) _ _ _ hf
  simp only [List.cons.injEq, Value.slice.injEq, and_true] at g2
  obtain ⟨rfl, rfl, rfl⟩ := g2
  obtain ⟨e3, len3, cap3, rfl⟩ := okWide_slice Tryz.underlying24 (hval 3 24 v3 rfl rfl)
  have k3 := h3
  have lt3 : ∀ x ∈ s3, x.block < W.heap.size := by obtain ⟨m, hm⟩ := k3; exact DataW.trod_lt m _ _ _ hm
  obtain ⟨l3, p3, q3, g3, r3⟩ : ∃ x, Cod.rep (listC 50 signC) W x [.slice e3 len3 cap3] := by obtain ⟨fuel, hf⟩ := h3; exact (opens_list (e' := 50) (c := signC) Tryz.underlying24 (by kernel_rfl) (by decide) (opens_struct (c := signC) Tryz.underlying50 (by kernel_rfl) (opensF_cons rfl (by kernel_rfl) (opens_int Tryz.underlying2) (opensF_cons rfl (by kernel_rfl) (opens_int Tryz.underlying2) (opensF_one rfl (by kernel_rfl) (opens_bytes Tryz.underlying22 Tryz.underlying5 (by kernel_rfl))))))) _ _ _ hf
  simp only [List.cons.injEq, Value.slice.injEq, and_true] at g3
  obtain ⟨rfl, rfl, rfl⟩ := g3
  obtain ⟨a4, rfl, rfl, rfl, f4⟩ := open_int Tryz.underlying2 (hval 4 2 v4 rfl rfl) h4
  obtain ⟨e5, len5, cap5, rfl⟩ := okWide_slice Tryz.underlying22 (hval 5 22 v5 rfl rfl)
  have k5 := h5
  have lt5 : ∀ x ∈ s5, x.block < W.heap.size := by obtain ⟨m, hm⟩ := k5; exact DataW.trod_lt m _ _ _ hm
  obtain ⟨bs5, p5, q5, g5, r5⟩ : ∃ x, Cod.rep bytC W x [.slice e5 len5 cap5] := by obtain ⟨fuel, hf⟩ := h5; exact (opens_bytes Tryz.underlying22 Tryz.underlying5 (by kernel_rfl)) _ _ _ hf
  simp only [List.cons.injEq, Value.slice.injEq, and_true] at g5
  obtain ⟨rfl, rfl, rfl⟩ := g5
  clear hA0 hval0
  refine (walk bs0 e0 cap0 a1 l2 e2 cap2 l3 e3 cap3 a4 bs5 e5 cap5 W r0 f1 r2 r3 f4 r5 (tabs_of hL)).mono fun e W' ⟨he, bel⟩ => ?_
  subst he
  exact ⟨_, rfl, _, _, _, [], _, _, hW', trodAll_mk1 (shut_bool Tryz.underlying4 _), (trodAll_cons_mk (Below.trod laidOut (by kernel_rfl) (of_decide_eq_true (by kernel_rfl)) k0 bel lt0) (trodAll_cons_mk (shut_int Tryz.underlying2 f1) (trodAll_cons_mk (Below.trod laidOut (by kernel_rfl) (of_decide_eq_true (by kernel_rfl)) k2 bel lt2) (trodAll_cons_mk (Below.trod laidOut (by kernel_rfl) (of_decide_eq_true (by kernel_rfl)) k3 bel lt3) (trodAll_cons_mk (shut_int Tryz.underlying2 f4) (trodAll_cons_mk (Below.trod laidOut (by kernel_rfl) (of_decide_eq_true (by kernel_rfl)) k5 bel lt5) trodAll_mk0)))))), Below.trodVars laidOut bel (by kernel_rfl) hV, bel.frame _, fun h => by cases h⟩

theorem over : Rows.fnExactCheckAuthRow.holds Tryz.pinned (OpenSpec.ofChange Rows.fnExactCheckAuthSpec) :=
  OpenClaim.holds_of_wide 3 Tryz.f3 rfl rfl rfl rfl rfl rfl rfl ⟨rfl, rfl, rfl, rfl, rfl⟩ rfl rfl rfl rfl rfl (by kernel_rfl) Tryz.func3 (by kernel_rfl)
    (of_decide_eq_true (by kernel_rfl)) (by unfold Func.isWrapper; first | (rw [if_pos (by decide +kernel)]; kernel_rfl) | (rw [if_neg (by decide +kernel)]; exact ⟨rfl, rfl⟩))
    (fun os started H enc _ => lifted os started H enc)

theorem plain (f : FuncId) (fn : Func) (hf : Tryz.pinned.checked.prog.funcNamed "loop.example/g00375/laws.FnExactCheckAuth" = some f) (hfn : Tryz.pinned.checked.prog.funcs[f]? = some fn) :
    true = Tryz.pinned.checked.prog.looks [] ∧ ∀ (j : Nat) t, fn.params[j]? = some t → Tryz.pinned.checked.prog.wantsStandIn t = false := by
  obtain rfl : f = 3 := Option.some.inj ((show Tryz.prog.funcNamed "loop.example/g00375/laws.FnExactCheckAuth" = some 3 by kernel_rfl).symm.trans hf) |>.symm
  obtain rfl : fn = Tryz.f3 := (Option.some.inj (Tryz.func3.symm.trans hfn)).symm
  refine ⟨by kernel_rfl, fun j t ht => ?_⟩
  rw [Tryz.params3] at ht
  have hm : t ∈ [22, 2, 23, 24, 2, 22] := by simpa using Array.mem_of_getElem? ht
  have hall : ([22, 2, 23, 24, 2, 22].all fun u => !Tryz.prog.wantsStandIn u) = true := by kernel_rfl
  exact (show Tryz.prog.wantsStandIn t = false by simpa using List.all_eq_true.1 hall t hm)
/-- The card. -/
theorem card : Rows.FnExactCheckAuthCardSaid :=
  Claim7.holds_tied_plain_at .later [] _ _ _ _ over (fun _ h => by cases h) (by kernel_rfl) (fun _ h => by cases h) fnExactCheckAuth_row_tie rfl ⟨rfl, rfl⟩ (by kernel_rfl) rfl plain (by kernel_rfl)
end Go.Proofs.YtdbpnibcblelbabGreatDoor.fnExactCheckAuth

namespace Go.Proofs.YtdbpnibcblelbabGreatDoor
theorem fnExactCheckAuth_holds : Rows.FnExactCheckAuthCardSaid := fnExactCheckAuth.card
end Go.Proofs.YtdbpnibcblelbabGreatDoor
