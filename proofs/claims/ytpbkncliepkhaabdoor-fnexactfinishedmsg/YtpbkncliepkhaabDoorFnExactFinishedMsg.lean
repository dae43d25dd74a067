/- FinishedMsg of the program answers as the specification's, every field, leaves its arguments alone, and its answer owns its memory, behind another call too. For every argument; no condition. -/
import Derived.Test.YtpbkncliepkhaabDoorRows
import Derived.WalkKit
import Derived.ProofKit
import Derived.OpenShut
import Derived.ChangeOld
import Derived.Below
import Derived.Test.YtpbkncliepkhaabDoorOpen
import Derived.OpenVars
import Derived.LaidMore
import Derived.Stop.Joined
import Derived.SevenTiedAt
import Derived.Test.YtpbkncliepkhaabDoorJoint1
import Derived.Test.YtpbkncliepkhaabDoorHelI
import Derived.Test.YtpbkncliepkhaabDoorJoint14
import Derived.Test.YtpbkncliepkhaabDoorCards
import Derived.Test.YtpbkncliepkhaabDoorTie
namespace Go.Proofs.YtpbkncliepkhaabDoor.fnExactFinishedMsg
open Go.ChangeShapes Go.WideShapes Go.ChangeAt Go.RowKit
set_option linter.unusedVariables false

theorem own : ownKnob Tryd.prog.godebug = none := by kernel_rfl
theorem laidOut : laidOutB Tryd.prog = true := by kernel_rfl

/-! The walk. -/
set_option maxRecDepth 4000 in
set_option maxHeartbeats 4000000 in
theorem walk (bs0 : List UInt8) (p0 : Option Addr) (q0 : Nat) (l1 : _) (p1 : Option Addr) (q1 : Nat) (w : World) (r0 : Rd w p0 q0 bs0) (r1 : RdL msgC w p1 q1 l1) (hT : Tabs w) :
    Calls Tryd.prog 3 #[.slice p0 bs0.length q0, .slice p1 l1.length q1] w fun e w' => e = .returned (.bool true) ∧ Below w.heap.size w w' := by
  have rb0 : bytC.rep w bs0 [.slice p0 bs0.length q0] := ⟨p0, q0, rfl, r0⟩
  replace r0 := rb0
  clear rb0
  have rb1 : msgsC.rep w l1 [.slice p1 l1.length q1] := ⟨p1, q1, rfl, r1⟩
  replace r1 := rb1
  clear rb1
  by_cases hl0 : 1048576 < bs0.length
  · go_enter Tryd.func3, Tryd.ntmps3
    go_wp2
    go_ret
    exact ⟨rfl, Below.refl _ _⟩
  replace hl0 : bs0.length ≤ 1048576 := by omega
  have HR0 : Hid (bytC.rep w bs0 _) := r0
  have HR1 : Hid (msgsC.rep w l1 _) := r1
  clear r0 r1
  by_cases hs1 : bulkM l1 ≤ 1048576
  · have hlen := fmD_small bs0 l1
    have hlen1 : 1 + msgResultT (fmD bs0 l1) ≤ 1000000000 := by omega
    have hlen2 : 1 + msgResultT (fmD bs0 l1) ≤ 1048577 := by omega
    go_enter Tryd.func3, Tryd.ntmps3
    go_wp2_with fail
    refine (szMsgS_k l1 _ _ _ HR1.out (by omega) (by omega)).mono ?_
    rintro e w1 ⟨rfl, hb1⟩
    have z1 : Hid (w.heap.size ≤ w1.heap.size) := hb1.size
    have BW := hb1
    clear hb1
    rw [szR, if_pos (by omega)]
    go_wp2_with fail
    refine (toByteS_k bs0 _ _ (bytC.keep HR0.out BW) (by omega)).mono ?_
    rintro e w2 ⟨us0, fp0, rfl, k0, hb2⟩
    obtain ⟨pc0, qc0, es, -⟩ := bytC.toRep k0
    simp only [List.cons.injEq, and_true] at es
    subst es
    have gk0 : Hid (∀ k, k ∈ _ → w1.heap.size ≤ k ∧ k < w2.heap.size) := fun k hk => ⟨by have h := (k0.ins k hk).1; exact h, (k0.ins k hk).2⟩
    replace k0 := k0.win (Nat.le_refl _) gk0.out
    have z2 : Hid (w1.heap.size ≤ w2.heap.size) := hb2.size
    replace BW := Below.step BW hb2
    clear hb2
    go_wp2_with fail
    refine (toMsgS_k l1 _ _ (msgsC.keep HR1.out BW) (by omega)).mono ?_
    rintro e w3 ⟨us1, fp1, rfl, k1, hb3⟩
    obtain ⟨pc1, qc1, es, -⟩ := msgsC.toRep k1
    simp only [List.cons.injEq, and_true] at es
    subst es
    have gk1 : Hid (∀ k, k ∈ _ → w2.heap.size ≤ k ∧ k < w3.heap.size) := fun k hk => ⟨by have h := (k1.ins k hk).1; exact h, (k1.ins k hk).2⟩
    replace k1 := k1.win (Nat.le_refl _) gk1.out
    have z3 : Hid (w2.heap.size ≤ w3.heap.size) := hb3.size
    replace k0 := k0.stay hb3
    replace BW := Below.step BW hb3
    clear hb3
    go_wp2_with fail
    refine (specFm_kk bs0 l1 _ _ _ (bytC.toRep k0.now) (msgsC.toRep k1.now)).mono ?_
    rintro e w4 ⟨uss, fps, rfl, ks, hb4⟩
    obtain ⟨ps2_2, qs2_2, es, -⟩ := msgResult_rep (msgResultC.toRep ks)
    subst es
    have gks : Hid (∀ k, k ∈ _ → w3.heap.size ≤ k ∧ k < w4.heap.size) := fun k hk => ⟨by have h := (ks.ins k hk).1; exact h, (ks.ins k hk).2⟩
    replace ks := ks.win (Nat.le_refl _) gks.out
    have z4 : Hid (w3.heap.size ≤ w4.heap.size) := hb4.size
    replace k0 := k0.stay hb4
    replace k1 := k1.stay hb4
    replace BW := Below.step BW hb4
    clear hb4
    clear k0 k1
    go_wp2_with fail
    refine (toByteS_k bs0 _ _ (bytC.keep (bytC.keep HR0.out BW) (alloc_below _ _)) (by omega)).mono ?_
    rintro e w5 ⟨us2, fp2, rfl, k2, hb5⟩
    obtain ⟨pc2, qc2, es, -⟩ := bytC.toRep k2
    simp only [List.cons.injEq, and_true] at es
    subst es
    have gk2 : Hid (∀ k, k ∈ _ → (w4.heap.size + 1) ≤ k ∧ k < w5.heap.size) := fun k hk => ⟨by have h := (k2.ins k hk).1; rw [size_alloc] at h; exact h, (k2.ins k hk).2⟩
    replace k2 := k2.win (Nat.le_refl _) gk2.out
    have sA := (Has.new hb5).win
    have z5 : Hid (w4.heap.size + 1 ≤ w5.heap.size) := size_lt hb5
    replace hb5 := Below.res hb5
    replace ks := ks.stay hb5
    replace BW := Below.step BW hb5
    clear hb5
    go_wp2_with fail
    refine (toMsgS_k l1 _ _ (msgsC.keep HR1.out BW) (by omega)).mono ?_
    rintro e w6 ⟨us3, fp3, rfl, k3, hb6⟩
    obtain ⟨pc3, qc3, es, -⟩ := msgsC.toRep k3
    simp only [List.cons.injEq, and_true] at es
    subst es
    have gk3 : Hid (∀ k, k ∈ _ → w5.heap.size ≤ k ∧ k < w6.heap.size) := fun k hk => ⟨by have h := (k3.ins k hk).1; exact h, (k3.ins k hk).2⟩
    replace k3 := k3.win (Nat.le_refl _) gk3.out
    have z6 : Hid (w5.heap.size ≤ w6.heap.size) := hb6.size
    replace ks := ks.stay hb6
    replace sA := sA.stay hb6
    replace k2 := k2.stay hb6
    replace BW := Below.step BW hb6
    clear hb6
    go_wp2_with fail
    refine (implFm_kk bs0 l1 _ _ _ (bytC.toRep k2.now) (msgsC.toRep k3.now) (hT.keep BW)).mono ?_
    rintro e w7 ⟨usg, fpg, rfl, kg, hb7⟩
    obtain ⟨pg2_2, qg2_2, es, -⟩ := msgResult_rep (msgResultC.toRep kg)
    subst es
    have gkg : Hid (∀ k, k ∈ _ → w6.heap.size ≤ k ∧ k < w7.heap.size) := fun k hk => ⟨by have h := (kg.ins k hk).1; exact h, (kg.ins k hk).2⟩
    replace kg := kg.win (Nat.le_refl _) gkg.out
    have z7 : Hid (w6.heap.size ≤ w7.heap.size) := hb7.size
    replace ks := ks.stay hb7
    replace sA := sA.stay hb7
    replace k2 := k2.stay hb7
    replace k3 := k3.stay hb7
    replace BW := Below.step BW hb7
    clear hb7
    have csA0 := sA.now 0 _ rfl
    have csA1 := sA.now 1 _ rfl
    have csA2 := sA.now 2 _ rfl
    have zsA := Has.lt sA.now
    go_wp2_with fail
    refine (eqMsgResult_k (fmD bs0 l1) _ _ _ (msgResultC.toRep (kg.stay (alloc_below _ _)).now) (msgResultC.toRep (ks.stay (alloc_below _ _)).now)).mono ?_
    rintro e w8 ⟨rfl, hb8⟩
    have sB := (Has.new hb8).win
    have z8 : Hid (w7.heap.size + 1 ≤ w8.heap.size) := size_lt hb8
    replace hb8 := Below.res hb8
    replace ks := ks.stay hb8
    replace sA := sA.stay hb8
    replace k2 := k2.stay hb8
    replace k3 := k3.stay hb8
    replace kg := kg.stay hb8
    replace BW := Below.step BW hb8
    clear hb8 csA0 csA1 csA2 zsA
    go_wp2_with fail
    refine (toByteS_k bs0 _ _ (bytC.keep HR0.out BW) (by omega)).mono ?_
    rintro e w9 ⟨us4, fp4, rfl, k4, hb9⟩
    obtain ⟨pc4, qc4, es, -⟩ := bytC.toRep k4
    simp only [List.cons.injEq, and_true] at es
    subst es
    have gk4 : Hid (∀ k, k ∈ _ → w8.heap.size ≤ k ∧ k < w9.heap.size) := fun k hk => ⟨by have h := (k4.ins k hk).1; exact h, (k4.ins k hk).2⟩
    replace k4 := k4.win (Nat.le_refl _) gk4.out
    have z9 : Hid (w8.heap.size ≤ w9.heap.size) := hb9.size
    replace ks := ks.stay hb9
    replace sA := sA.stay hb9
    replace k2 := k2.stay hb9
    replace k3 := k3.stay hb9
    replace kg := kg.stay hb9
    replace sB := sB.stay hb9
    replace BW := Below.step BW hb9
    clear hb9
    go_wp2_with fail
    refine (eqByteS_k bs0 _ _ _ (bytC.toRep k2.now) (bytC.toRep k4.now)).mono ?_
    rintro e w10 ⟨rfl, hb10⟩
    have z10 : Hid (w9.heap.size ≤ w10.heap.size) := hb10.size
    replace ks := ks.stay hb10
    replace sA := sA.stay hb10
    replace k2 := k2.stay hb10
    replace k3 := k3.stay hb10
    replace kg := kg.stay hb10
    replace sB := sB.stay hb10
    replace k4 := k4.stay hb10
    replace BW := Below.step BW hb10
    clear hb10
    clear k4
    go_wp2_with fail
    refine (toMsgS_k l1 _ _ (msgsC.keep HR1.out BW) (by omega)).mono ?_
    rintro e w11 ⟨us5, fp5, rfl, k5, hb11⟩
    obtain ⟨pc5, qc5, es, -⟩ := msgsC.toRep k5
    simp only [List.cons.injEq, and_true] at es
    subst es
    have gk5 : Hid (∀ k, k ∈ _ → w10.heap.size ≤ k ∧ k < w11.heap.size) := fun k hk => ⟨by have h := (k5.ins k hk).1; exact h, (k5.ins k hk).2⟩
    replace k5 := k5.win (Nat.le_refl _) gk5.out
    have z11 : Hid (w10.heap.size ≤ w11.heap.size) := hb11.size
    replace ks := ks.stay hb11
    replace sA := sA.stay hb11
    replace k2 := k2.stay hb11
    replace k3 := k3.stay hb11
    replace kg := kg.stay hb11
    replace sB := sB.stay hb11
    replace BW := Below.step BW hb11
    clear hb11
    go_wp2_with fail
    refine (eqMsgS_k l1 _ _ _ (msgsC.toRep k3.now) (msgsC.toRep k5.now)).mono ?_
    rintro e w12 ⟨rfl, hb12⟩
    have z12 : Hid (w11.heap.size ≤ w12.heap.size) := hb12.size
    replace ks := ks.stay hb12
    replace sA := sA.stay hb12
    replace k2 := k2.stay hb12
    replace k3 := k3.stay hb12
    replace kg := kg.stay hb12
    replace sB := sB.stay hb12
    replace k5 := k5.stay hb12
    replace BW := Below.step BW hb12
    clear hb12
    clear k5
    go_wp2_with fail
    refine (markByteS_k bs0 _ _ _ 1 _ (by first | rfl | simp | (simp; omega) | (push_cast; omega)) _ k2.now (by omega)).mono ?_
    rintro e w13 ⟨rfl, -, hg⟩
    have z13 : Hid (w12.heap.size ≤ w13.heap.size) := hg.size
    have sg := Only.seg hg gk2.out
    replace ks := ks.seg sg (by have := z1.out; have := z2.out; have := z3.out; have := z4.out; have := z5.out; have := z6.out; have := z7.out; have := z8.out; have := z9.out; have := z10.out; have := z11.out; have := z12.out; have := z13.out; omega)
    replace sA := sA.seg sg (by have := z1.out; have := z2.out; have := z3.out; have := z4.out; have := z5.out; have := z6.out; have := z7.out; have := z8.out; have := z9.out; have := z10.out; have := z11.out; have := z12.out; have := z13.out; omega)
    replace k3 := k3.seg sg (by have := z1.out; have := z2.out; have := z3.out; have := z4.out; have := z5.out; have := z6.out; have := z7.out; have := z8.out; have := z9.out; have := z10.out; have := z11.out; have := z12.out; have := z13.out; omega)
    replace kg := kg.seg sg (by have := z1.out; have := z2.out; have := z3.out; have := z4.out; have := z5.out; have := z6.out; have := z7.out; have := z8.out; have := z9.out; have := z10.out; have := z11.out; have := z12.out; have := z13.out; omega)
    replace sB := sB.seg sg (by have := z1.out; have := z2.out; have := z3.out; have := z4.out; have := z5.out; have := z6.out; have := z7.out; have := z8.out; have := z9.out; have := z10.out; have := z11.out; have := z12.out; have := z13.out; omega)
    replace BW := Below.seg BW sg (by have := z1.out; have := z2.out; have := z3.out; have := z4.out; have := z5.out; have := z6.out; have := z7.out; have := z8.out; have := z9.out; have := z10.out; have := z11.out; have := z12.out; have := z13.out; omega)
    clear hg sg k2
    go_wp2_with fail
    refine (markMsgS_k l1 _ _ _ (1 + bs0.length) _ (by first | rfl | simp | (simp; omega) | (push_cast; omega)) _ k3.now (by omega) (by omega)).mono ?_
    rintro e w14 ⟨rfl, -, hg⟩
    have z14 : Hid (w13.heap.size ≤ w14.heap.size) := hg.size
    have sg := Only.seg hg gk3.out
    replace ks := ks.seg sg (by have := z1.out; have := z2.out; have := z3.out; have := z4.out; have := z5.out; have := z6.out; have := z7.out; have := z8.out; have := z9.out; have := z10.out; have := z11.out; have := z12.out; have := z13.out; have := z14.out; omega)
    replace sA := sA.seg sg (by have := z1.out; have := z2.out; have := z3.out; have := z4.out; have := z5.out; have := z6.out; have := z7.out; have := z8.out; have := z9.out; have := z10.out; have := z11.out; have := z12.out; have := z13.out; have := z14.out; omega)
    replace kg := kg.seg sg (by have := z1.out; have := z2.out; have := z3.out; have := z4.out; have := z5.out; have := z6.out; have := z7.out; have := z8.out; have := z9.out; have := z10.out; have := z11.out; have := z12.out; have := z13.out; have := z14.out; omega)
    replace sB := sB.seg sg (by have := z1.out; have := z2.out; have := z3.out; have := z4.out; have := z5.out; have := z6.out; have := z7.out; have := z8.out; have := z9.out; have := z10.out; have := z11.out; have := z12.out; have := z13.out; have := z14.out; omega)
    replace BW := Below.seg BW sg (by have := z1.out; have := z2.out; have := z3.out; have := z4.out; have := z5.out; have := z6.out; have := z7.out; have := z8.out; have := z9.out; have := z10.out; have := z11.out; have := z12.out; have := z13.out; have := z14.out; omega)
    clear hg sg k3
    have csA0 := sA.now 0 _ rfl
    have csA1 := sA.now 1 _ rfl
    have csA2 := sA.now 2 _ rfl
    have zsA := Has.lt sA.now
    have csB0 := sB.now 0 _ rfl
    have csB1 := sB.now 1 _ rfl
    have csB2 := sB.now 2 _ rfl
    have zsB := Has.lt sB.now
    go_wp2_with fail
    refine (eqMsgResult_k (fmD bs0 l1) _ _ _ (msgResultC.toRep kg.now) (msgResultC.toRep ks.now)).mono ?_
    rintro e w15 ⟨rfl, hb15⟩
    have z15 : Hid (w14.heap.size ≤ w15.heap.size) := hb15.size
    replace ks := ks.stay hb15
    replace sA := sA.stay hb15
    replace kg := kg.stay hb15
    replace sB := sB.stay hb15
    replace BW := Below.step BW hb15
    clear hb15 csA0 csA1 csA2 zsA csB0 csB1 csB2 zsB
    have csB0 := sB.now 0 _ rfl
    have csB1 := sB.now 1 _ rfl
    have csB2 := sB.now 2 _ rfl
    have zsB := Has.lt sB.now
    go_wp2_with fail
    refine (markMsgResult_k (fmD bs0 l1) _ _ _ 1 1 rfl _ kg.now hlen1).mono ?_
    rintro e w16 ⟨rfl, km, hg⟩
    have z16 : Hid (w15.heap.size ≤ w16.heap.size) := hg.size
    have sg := Only.seg hg gkg.out
    replace ks := ks.seg sg (by have := z1.out; have := z2.out; have := z3.out; have := z4.out; have := z5.out; have := z6.out; have := z7.out; have := z8.out; have := z9.out; have := z10.out; have := z11.out; have := z12.out; have := z13.out; have := z14.out; have := z15.out; have := z16.out; omega)
    replace sA := sA.seg sg (by have := z1.out; have := z2.out; have := z3.out; have := z4.out; have := z5.out; have := z6.out; have := z7.out; have := z8.out; have := z9.out; have := z10.out; have := z11.out; have := z12.out; have := z13.out; have := z14.out; have := z15.out; have := z16.out; omega)
    replace sB := sB.seg sg (by have := z1.out; have := z2.out; have := z3.out; have := z4.out; have := z5.out; have := z6.out; have := z7.out; have := z8.out; have := z9.out; have := z10.out; have := z11.out; have := z12.out; have := z13.out; have := z14.out; have := z15.out; have := z16.out; omega)
    replace BW := Below.seg BW sg (by have := z1.out; have := z2.out; have := z3.out; have := z4.out; have := z5.out; have := z6.out; have := z7.out; have := z8.out; have := z9.out; have := z10.out; have := z11.out; have := z12.out; have := z13.out; have := z14.out; have := z15.out; have := z16.out; omega)
    replace km := km.win (by have := z1.out; have := z2.out; have := z3.out; have := z4.out; have := z5.out; have := z6.out; have := z7.out; have := z8.out; have := z9.out; have := z10.out; have := z11.out; have := z12.out; have := z13.out; have := z14.out; have := z15.out; have := z16.out; omega) gkg.out
    clear hg sg kg csB0 csB1 csB2 zsB
    have csB0 := sB.now 0 _ rfl
    have csB1 := sB.now 1 _ rfl
    have csB2 := sB.now 2 _ rfl
    have zsB := Has.lt sB.now
    go_wp2_with fail
    refine (heldMsgResult_k (fmD bs0 l1) _ 1 1 rfl _ (msgResultC.toRep km.now) hlen2).mono ?_
    rintro e w17 ⟨rfl, hb17⟩
    have z17 : Hid (w16.heap.size ≤ w17.heap.size) := hb17.size
    replace ks := ks.stay hb17
    replace sA := sA.stay hb17
    replace sB := sB.stay hb17
    replace km := km.stay hb17
    replace BW := Below.step BW hb17
    clear hb17 csB0 csB1 csB2 zsB
    go_wp2_with fail
    refine (toByteS_k bs0 _ _ (bytC.keep HR0.out BW) (by omega)).mono ?_
    rintro e w18 ⟨us6, fp6, rfl, k6, hb18⟩
    obtain ⟨pc6, qc6, es, -⟩ := bytC.toRep k6
    simp only [List.cons.injEq, and_true] at es
    subst es
    have gk6 : Hid (∀ k, k ∈ _ → w17.heap.size ≤ k ∧ k < w18.heap.size) := fun k hk => ⟨by have h := (k6.ins k hk).1; exact h, (k6.ins k hk).2⟩
    replace k6 := k6.win (Nat.le_refl _) gk6.out
    have z18 : Hid (w17.heap.size ≤ w18.heap.size) := hb18.size
    replace ks := ks.stay hb18
    replace sA := sA.stay hb18
    replace sB := sB.stay hb18
    replace km := km.stay hb18
    replace BW := Below.step BW hb18
    clear hb18
    go_wp2_with fail
    refine (toMsgS_k l1 _ _ (msgsC.keep HR1.out BW) (by omega)).mono ?_
    rintro e w19 ⟨us7, fp7, rfl, k7, hb19⟩
    obtain ⟨pc7, qc7, es, -⟩ := msgsC.toRep k7
    simp only [List.cons.injEq, and_true] at es
    subst es
    have gk7 : Hid (∀ k, k ∈ _ → w18.heap.size ≤ k ∧ k < w19.heap.size) := fun k hk => ⟨by have h := (k7.ins k hk).1; exact h, (k7.ins k hk).2⟩
    replace k7 := k7.win (Nat.le_refl _) gk7.out
    have z19 : Hid (w18.heap.size ≤ w19.heap.size) := hb19.size
    replace ks := ks.stay hb19
    replace sA := sA.stay hb19
    replace sB := sB.stay hb19
    replace km := km.stay hb19
    replace k6 := k6.stay hb19
    replace BW := Below.step BW hb19
    clear hb19
    go_wp2_with fail
    refine (implFm_kk bs0 l1 _ _ _ (bytC.toRep k6.now) (msgsC.toRep k7.now) (hT.keep BW)).mono ?_
    rintro e w20 ⟨ush, fph, rfl, kh, hb20⟩
    obtain ⟨ph2_2, qh2_2, es, -⟩ := msgResult_rep (msgResultC.toRep kh)
    subst es
    have gkh : Hid (∀ k, k ∈ _ → w19.heap.size ≤ k ∧ k < w20.heap.size) := fun k hk => ⟨by have h := (kh.ins k hk).1; exact h, (kh.ins k hk).2⟩
    replace kh := kh.win (Nat.le_refl _) gkh.out
    have z20 : Hid (w19.heap.size ≤ w20.heap.size) := hb20.size
    replace ks := ks.stay hb20
    replace sA := sA.stay hb20
    replace sB := sB.stay hb20
    replace km := km.stay hb20
    replace k6 := k6.stay hb20
    replace k7 := k7.stay hb20
    replace BW := Below.step BW hb20
    clear hb20
    clear k6 k7
    have csA0 := sA.now 0 _ rfl
    have csA1 := sA.now 1 _ rfl
    have csA2 := sA.now 2 _ rfl
    have zsA := Has.lt sA.now
    go_wp2_with fail
    refine (eqMsgResult_k (fmD bs0 l1) _ _ _ (msgResultC.toRep (kh.stay (alloc_below _ _)).now) (msgResultC.toRep (ks.stay (alloc_below _ _)).now)).mono ?_
    rintro e w21 ⟨rfl, hb21⟩
    have sC := (Has.new hb21).win
    have z21 : Hid (w20.heap.size + 1 ≤ w21.heap.size) := size_lt hb21
    replace hb21 := Below.res hb21
    replace ks := ks.stay hb21
    replace sA := sA.stay hb21
    replace sB := sB.stay hb21
    replace km := km.stay hb21
    replace kh := kh.stay hb21
    replace BW := Below.step BW hb21
    clear hb21 csA0 csA1 csA2 zsA
    clear sC sA ks kh
    have csB0 := sB.now 0 _ rfl
    have csB1 := sB.now 1 _ rfl
    have csB2 := sB.now 2 _ rfl
    have zsB := Has.lt sB.now
    go_wp2_with fail
    refine (heldMsgResult_k (fmD bs0 l1) _ 1 1 rfl _ (msgResultC.toRep km.now) hlen2).mono ?_
    rintro e w22 ⟨rfl, hb22⟩
    have z22 : Hid (w21.heap.size ≤ w22.heap.size) := hb22.size
    replace sB := sB.stay hb22
    replace km := km.stay hb22
    replace BW := Below.step BW hb22
    clear hb22 csB0 csB1 csB2 zsB
    go_wp2
    go_ret
    exact ⟨rfl, BW⟩
  · go_enter Tryd.func3, Tryd.ntmps3
    go_wp2_with fail
    refine (szMsgS_k l1 _ _ _ HR1.out (by omega) (by omega)).mono ?_
    rintro e w1 ⟨rfl, hb1⟩
    have z1 : Hid (w.heap.size ≤ w1.heap.size) := hb1.size
    have BW := hb1
    clear hb1
    rw [szR, if_neg (by omega)]
    go_wp2
    go_ret
    exact ⟨rfl, BW⟩

/-! The row's step. -/
/-- The door's own heap meets the condition. -/
theorem door_met (os : Os) (args : Array Value) : laidMetH Tryd.prog Rows.fnExactFinishedMsgRow.laid ((World.doorLaid Tryd.prog 400 os).forCall (fun _ _ => 0) ⟨#[], args, []⟩).memory :=
  laidMet_of_run' 8 (by kernel_rfl) (by kernel_rfl)

set_option maxRecDepth 100000 in
set_option maxHeartbeats 1000000 in
theorem lifted (os : Os) (started : os.Started) (H : Type) (enc : TypeId × Value → H) :
    ReturnsInHanded {} Tryd.checked os 3 .any (fun w args => (Rows.fnExactFinishedMsgSpec.pre enc Tryd.prog Tryd.f3 [] false w args ∧ laidMetH Tryd.prog Rows.fnExactFinishedMsgRow.laid w) ∧ sizedMet enc Tryd.prog Tryd.f3 (OpenSpec.ofChange Rows.fnExactFinishedMsgSpec) false w args) (Rows.fnExactFinishedMsgSpec.post enc Tryd.prog Tryd.f3 false true false false) := by
  refine returnsInHanded_of_change_and (C := Tryd.checked) (X := fun w _ => laidMetH Tryd.prog Rows.fnExactFinishedMsgRow.laid w) (fun _ _ _ hh h => h.of_heap hh) own started (by kernel_rfl) Tryd.func3
    (ChangeSpec.witness_shaped (enc := enc) (C := Tryd.checked) (os := os) (X := fun w _ => laidMetH Tryd.prog Rows.fnExactFinishedMsgRow.laid w) false (World.doorLaid Tryd.prog 400 os) #[.slice none 0 0, .slice none 0 0] 8 rfl (World.shaped_of_RefB (by kernel_rfl) (by kernel_rfl)) (by kernel_rfl) (by kernel_rfl) (by kernel_rfl) (door_met os _)) ?_
  intro W base args ds gs before hval0 hW hcnd _ hL _
  have hval : ∀ (j : Nat) t v, Tryd.f3.params[j]? = some t → args[j]? = some v → Value.okWide Tryd.prog W .any base t v := hval0
  have hW' := hW
  obtain ⟨p, q, hA0, hV, rfl, hfz, hnd⟩ := hW
  have hA : DataW.TrodAll enc Tryd.prog W 0 (fun _ => true) true Tryd.f3.params.toList args.toList ds p := hA0
  rw [Tryd.params3] at hA hval
  obtain ⟨v0, vs0, d0, ds0, s0, t0, hargs, rfl, rfl, h0, m0⟩ := trodAll_cons hA
  obtain ⟨v1, vs1, d1, ds1, s1, t1, rfl, rfl, rfl, h1, m1⟩ := trodAll_cons m0
  obtain ⟨rfl, rfl, rfl⟩ := trodAll_nil m1
  obtain rfl : args = #[v0, v1] := by cases args; simp_all
  obtain ⟨v0a, v0b, v0c, v0d, v0e, v0f, v1a, v1b, v1c, v1d, v1e, v1f, rfl, -⟩ := trodVars_two hV
  obtain ⟨e0, len0, cap0, rfl⟩ := okWide_slice Tryd.underlying22 (hval 0 22 v0 rfl rfl)
  have k0 := h0
  have lt0 : ∀ x ∈ s0, x.block < W.heap.size := by obtain ⟨m, hm⟩ := k0; exact DataW.trod_lt m _ _ _ hm
  obtain ⟨bs0, p0, q0, g0, r0⟩ : ∃ x, Cod.rep bytC W x [.slice e0 len0 cap0] := by obtain ⟨fuel, hf⟩ := h0; exact (opens_bytes Tryd.underlying22 Tryd.underlying5 (by kernel_rfl)) _ _ _ hf
  simp only [List.cons.injEq, Value.slice.injEq, and_true] at g0
  obtain ⟨rfl, rfl, rfl⟩ := g0
  obtain ⟨e1, len1, cap1, rfl⟩ := okWide_slice Tryd.underlying23 (hval 1 23 v1 rfl rfl)
  have k1 := h1
  have lt1 : ∀ x ∈ s1, x.block < W.heap.size := by obtain ⟨m, hm⟩ := k1; exact DataW.trod_lt m _ _ _ hm
  obtain ⟨l1, p1, q1, g1, r1⟩ : ∃ x, Cod.rep (listC 40 msgC) W x [.slice e1 len1 cap1] := by obtain ⟨fuel, hf⟩ := h1; exact (opens_list (e' := 40) (c := msgC) Tryd.underlying23 (by kernel_rfl) (by decide) (opens_struct (c := msgC) Tryd.underlying40 (by kernel_rfl) (opensF_cons rfl (by kernel_rfl) (opens_int Tryd.underlying2) (opensF_one rfl (by kernel_rfl) (opens_bytes Tryd.underlying22 Tryd.underlying5 (by kernel_rfl)))))) _ _ _ hf
  simp only [List.cons.injEq, Value.slice.injEq, and_true] at g1
  obtain ⟨rfl, rfl, rfl⟩ := g1
  clear hA0 hval0
  refine (walk bs0 e0 cap0 l1 e1 cap1 W r0 r1 (tabs_of hL)).mono fun e W' ⟨he, bel⟩ => ?_
  subst he
  exact ⟨_, rfl, _, _, _, [], _, _, hW', trodAll_mk1 (shut_bool Tryd.underlying4 _), (trodAll_cons_mk (Below.trod laidOut (by kernel_rfl) (of_decide_eq_true (by kernel_rfl)) k0 bel lt0) (trodAll_cons_mk (Below.trod laidOut (by kernel_rfl) (of_decide_eq_true (by kernel_rfl)) k1 bel lt1) trodAll_mk0)), Below.trodVars laidOut bel (by kernel_rfl) hV, bel.frame _, fun h => by cases h⟩

theorem over : Rows.fnExactFinishedMsgRow.holds Tryd.pinned (OpenSpec.ofChange Rows.fnExactFinishedMsgSpec) :=
  OpenClaim.holds_of_wide 3 Tryd.f3 rfl rfl rfl rfl rfl rfl rfl ⟨rfl, rfl, rfl, rfl, rfl⟩ rfl rfl rfl rfl rfl (by kernel_rfl) Tryd.func3 (by kernel_rfl)
    (of_decide_eq_true (by kernel_rfl)) (by unfold Func.isWrapper; first | (rw [if_pos (by decide +kernel)]; kernel_rfl) | (rw [if_neg (by decide +kernel)]; exact ⟨rfl, rfl⟩))
    (fun os started H enc _ => lifted os started H enc)

theorem plain (f : FuncId) (fn : Func) (hf : Tryd.pinned.checked.prog.funcNamed "loop.example/g00375/laws.FnExactFinishedMsg" = some f) (hfn : Tryd.pinned.checked.prog.funcs[f]? = some fn) :
    true = Tryd.pinned.checked.prog.looks [] ∧ ∀ (j : Nat) t, fn.params[j]? = some t → Tryd.pinned.checked.prog.wantsStandIn t = false := by
  obtain rfl : f = 3 := Option.some.inj ((show Tryd.prog.funcNamed "loop.example/g00375/laws.FnExactFinishedMsg" = some 3 by kernel_rfl).symm.trans hf) |>.symm
  obtain rfl : fn = Tryd.f3 := (Option.some.inj (Tryd.func3.symm.trans hfn)).symm
  refine ⟨by kernel_rfl, fun j t ht => ?_⟩
  rw [Tryd.params3] at ht
  have hm : t ∈ [22, 23] := by simpa using Array.mem_of_getElem? ht
  have hall : ([22, 23].all fun u => !Tryd.prog.wantsStandIn u) = true := by kernel_rfl
  exact (show Tryd.prog.wantsStandIn t = false by simpa using List.all_eq_true.1 hall t hm)
/-- The card. -/
theorem card : Rows.FnExactFinishedMsgCardSaid :=
  Claim7.holds_tied_plain_at .later [] _ _ _ _ over (fun _ h => by cases h) (by kernel_rfl) (fun _ h => by cases h) fnExactFinishedMsg_row_tie rfl ⟨rfl, rfl⟩ (by kernel_rfl) rfl plain (by kernel_rfl)
end Go.Proofs.YtpbkncliepkhaabDoor.fnExactFinishedMsg

namespace Go.Proofs.YtpbkncliepkhaabDoor
theorem fnExactFinishedMsg_holds : Rows.FnExactFinishedMsgCardSaid := fnExactFinishedMsg.card
end Go.Proofs.YtpbkncliepkhaabDoor
