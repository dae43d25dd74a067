/- OpenBytes of the program answers as the specification's, code and bytes, leaves its arguments alone, and its answer owns its memory, behind another call too; the two tables of the program's text are tied to it by the card. For every argument; no condition. The frame is the one that the guide's program writes; the walk and its contracts are ours. -/
import Derived.Test.YtpcgpefefklfoaaDoorRows
import Derived.WalkKit
import Derived.ProofKit
import Derived.OpenShut
import Derived.ShutString
import Derived.ChangeOld
import Derived.Below
import Derived.Test.YtpcgpefefklfoaaDoorOpenI
import Derived.Test.YtpcgpefefklfoaaDoorJoint10
import Derived.Test.YtpcgpefefklfoaaDoorLaid
import Derived.Test.YtpcgpefefklfoaaDoorCards
import Derived.Test.YtpcgpefefklfoaaDoorTie
import Derived.Test.YtpcgpefefklfoaaDoorJoint11
import Derived.OpenVars
import Derived.LaidMore
import Derived.Stop.Joined
import Derived.SevenTiedAt
namespace Go.Proofs.YtpcgpefefklfoaaDoor.fnExactOpenBytes
open Go.ChangeShapes Go.WideShapes Go.ChangeAt Go.RowKit
open Go.ChangeMaps (open_string shut_string)
set_option linter.unusedVariables false

theorem own : ownKnob Tryd.prog.godebug = none := by kernel_rfl
theorem laidOut : laidOutB Tryd.prog = true := by kernel_rfl

def IsRow (k : IntKind) (w : World) (a : Option Addr) (len cap : Nat) (zs : List Int) : Prop :=
  (a = none ∧ len = 0 ∧ cap = 0 ∧ zs = []) ∨
  ∃ x, a = some x ∧ len ≤ cap ∧ cap ≤ maxLen ∧ zs.length = cap ∧ (∀ i, i < zs.length → w.cell? (x.add i) = some (.int k (zs.getD i 0))) ∧ ∀ n ∈ zs, (Lit.int k n).wf = true


/-! The walk. -/
theorem walk (a0 : Option Addr) (len0 cap0 : Nat) (z0 : List Int) (a1 : Option Addr) (len1 cap1 : Nat) (z1 : List Int) (a2 : Option Addr) (len2 cap2 : Nat) (z2 : List Int) (a3 : Option Addr) (len3 cap3 : Nat) (z3 : List Int) (w : World) (w0 : IsRow .u8 w a0 len0 cap0 z0) (w1 : IsRow .u8 w a1 len1 cap1 z1) (w2 : IsRow .u8 w a2 len2 cap2 z2) (w3 : IsRow .u8 w a3 len3 cap3 z3) (hT : Tabs w) (hH : Hnd w) :
    Calls Tryd.prog 6 #[.slice a0 len0 cap0, .slice a1 len1 cap1, .slice a2 len2 cap2, .slice a3 len3 cap3] w fun e w' => e = .returned (.bool true) ∧ Below w.heap.size w w' := by
  obtain ⟨bs0, rfl, r0⟩ := rd_of w0
  clear w0
  obtain ⟨bs1, rfl, r1⟩ := rd_of w1
  clear w1
  obtain ⟨bs2, rfl, r2⟩ := rd_of w2
  clear w2
  obtain ⟨bs3, rfl, r3⟩ := rd_of w3
  clear w3
  by_cases hl0 : 1048576 < bs0.length
  · go_enter Tryd.func6, Tryd.ntmps6
    go_wp2
    go_ret
    exact ⟨rfl, Below.refl _ _⟩
  replace hl0 : bs0.length ≤ 1048576 := by omega
  by_cases hl1 : 1048576 < bs1.length
  · go_enter Tryd.func6, Tryd.ntmps6
    go_wp2
    go_ret
    exact ⟨rfl, Below.refl _ _⟩
  replace hl1 : bs1.length ≤ 1048576 := by omega
  by_cases hl2 : 1048576 < bs2.length
  · go_enter Tryd.func6, Tryd.ntmps6
    go_wp2
    go_ret
    exact ⟨rfl, Below.refl _ _⟩
  replace hl2 : bs2.length ≤ 1048576 := by omega
  by_cases hl3 : 1048576 < bs3.length
  · go_enter Tryd.func6, Tryd.ntmps6
    go_wp2
    go_ret
    exact ⟨rfl, Below.refl _ _⟩
  replace hl3 : bs3.length ≤ 1048576 := by omega
  have hlen := opL_len bs0 bs1 bs2 bs3
  go_enter Tryd.func6, Tryd.ntmps6
  go_wp2_with fail
  refine (toByteS_c _ _ bs0 _ r0 hl0).mono ?_
  rintro e w1 ⟨u0, rfl, k0, hb1⟩
  obtain ⟨p0, q0, rfl, -⟩ := k0.rd
  have z1 : Hid (w.heap.size ≤ w1.heap.size) := hb1.size
  have gk0 : Hid (∀ k, (Value.slice p0 bs0.length q0).ownBlock = some k → w.heap.size ≤ k ∧ k < w1.heap.size) := fun k e => ⟨by have h := k0.ge k e; omega, k0.lt k e⟩
  have BW := hb1
  clear hb1
  go_wp2_with fail
  refine (toByteS_c _ _ bs1 _ (r1.keep BW) hl1).mono ?_
  rintro e w2 ⟨u1, rfl, k1, hb2⟩
  obtain ⟨p1, q1, rfl, -⟩ := k1.rd
  have z2 : Hid (w1.heap.size ≤ w2.heap.size) := hb2.size
  have gk1 : Hid (∀ k, (Value.slice p1 bs1.length q1).ownBlock = some k → w1.heap.size ≤ k ∧ k < w2.heap.size) := fun k e => ⟨by have h := k1.ge k e; omega, k1.lt k e⟩
  replace k0 := k0.stay hb2
  replace BW := Below.step BW hb2
  clear hb2
  go_wp2_with fail
  refine (toByteS_c _ _ bs2 _ (r2.keep BW) hl2).mono ?_
  rintro e w3 ⟨u2, rfl, k2, hb3⟩
  obtain ⟨p2, q2, rfl, -⟩ := k2.rd
  have z3 : Hid (w2.heap.size ≤ w3.heap.size) := hb3.size
  have gk2 : Hid (∀ k, (Value.slice p2 bs2.length q2).ownBlock = some k → w2.heap.size ≤ k ∧ k < w3.heap.size) := fun k e => ⟨by have h := k2.ge k e; omega, k2.lt k e⟩
  replace k0 := k0.stay hb3
  replace k1 := k1.stay hb3
  replace BW := Below.step BW hb3
  clear hb3
  go_wp2_with fail
  refine (toByteS_c _ _ bs3 _ (r3.keep BW) hl3).mono ?_
  rintro e w4 ⟨u3, rfl, k3, hb4⟩
  obtain ⟨p3, q3, rfl, -⟩ := k3.rd
  have z4 : Hid (w3.heap.size ≤ w4.heap.size) := hb4.size
  have gk3 : Hid (∀ k, (Value.slice p3 bs3.length q3).ownBlock = some k → w3.heap.size ≤ k ∧ k < w4.heap.size) := fun k e => ⟨by have h := k3.ge k e; omega, k3.lt k e⟩
  replace k0 := k0.stay hb4
  replace k1 := k1.stay hb4
  replace k2 := k2.stay hb4
  replace BW := Below.step BW hb4
  clear hb4
  go_wp2_with fail
  refine (specOp_c p0 p1 p2 p3 q0 q1 q2 q3 bs0 bs1 bs2 bs3 _ (Rd.own k0) (Rd.own k1) (Rd.own k2) (Rd.own k3) hl3).mono ?_
  rintro e w5 ⟨us, rfl, ks, hb5⟩
  obtain ⟨ps, qs, rfl, -⟩ := ks.rd
  have z5 : Hid (w4.heap.size ≤ w5.heap.size) := hb5.size
  have gks : Hid (∀ k, (Value.slice ps (opL bs0 bs1 bs2 bs3).length qs).ownBlock = some k → w4.heap.size ≤ k ∧ k < w5.heap.size) := fun k e => ⟨by have h := ks.ge k e; omega, ks.lt k e⟩
  replace k0 := k0.stay hb5
  replace k1 := k1.stay hb5
  replace k2 := k2.stay hb5
  replace k3 := k3.stay hb5
  replace BW := Below.step BW hb5
  clear hb5
  clear k0 k1 k2 k3
  go_wp2_with fail
  refine (toByteS_c _ _ bs0 _ ((r0.keep BW).keep (alloc_below _ _)) hl0).mono ?_
  rintro e w6 ⟨u4, rfl, k4, hb6⟩
  obtain ⟨p4, q4, rfl, -⟩ := k4.rd
  have z6 : Hid (w5.heap.size < w6.heap.size) := size_lt hb6
  have gk4 : Hid (∀ k, (Value.slice p4 bs0.length q4).ownBlock = some k → w5.heap.size < k ∧ k < w6.heap.size) := fun k e => ⟨by have h := k4.ge k e; rw [size_alloc] at h; omega, k4.lt k e⟩
  have sA := Has.new hb6
  replace hb6 := Below.res hb6
  replace ks := ks.stay hb6
  replace BW := Below.step BW hb6
  clear hb6
  go_wp2_with fail
  refine (toByteS_c _ _ bs1 _ (r1.keep BW) hl1).mono ?_
  rintro e w7 ⟨u5, rfl, k5, hb7⟩
  obtain ⟨p5, q5, rfl, -⟩ := k5.rd
  have z7 : Hid (w6.heap.size ≤ w7.heap.size) := hb7.size
  have gk5 : Hid (∀ k, (Value.slice p5 bs1.length q5).ownBlock = some k → w6.heap.size ≤ k ∧ k < w7.heap.size) := fun k e => ⟨by have h := k5.ge k e; omega, k5.lt k e⟩
  replace ks := ks.stay hb7
  replace sA := sA.keep hb7
  replace k4 := k4.stay hb7
  replace BW := Below.step BW hb7
  clear hb7
  go_wp2_with fail
  refine (toByteS_c _ _ bs2 _ (r2.keep BW) hl2).mono ?_
  rintro e w8 ⟨u6, rfl, k6, hb8⟩
  obtain ⟨p6, q6, rfl, -⟩ := k6.rd
  have z8 : Hid (w7.heap.size ≤ w8.heap.size) := hb8.size
  have gk6 : Hid (∀ k, (Value.slice p6 bs2.length q6).ownBlock = some k → w7.heap.size ≤ k ∧ k < w8.heap.size) := fun k e => ⟨by have h := k6.ge k e; omega, k6.lt k e⟩
  replace ks := ks.stay hb8
  replace sA := sA.keep hb8
  replace k4 := k4.stay hb8
  replace k5 := k5.stay hb8
  replace BW := Below.step BW hb8
  clear hb8
  go_wp2_with fail
  refine (toByteS_c _ _ bs3 _ (r3.keep BW) hl3).mono ?_
  rintro e w9 ⟨u7, rfl, k7, hb9⟩
  obtain ⟨p7, q7, rfl, -⟩ := k7.rd
  have z9 : Hid (w8.heap.size ≤ w9.heap.size) := hb9.size
  have gk7 : Hid (∀ k, (Value.slice p7 bs3.length q7).ownBlock = some k → w8.heap.size ≤ k ∧ k < w9.heap.size) := fun k e => ⟨by have h := k7.ge k e; omega, k7.lt k e⟩
  replace ks := ks.stay hb9
  replace sA := sA.keep hb9
  replace k4 := k4.stay hb9
  replace k5 := k5.stay hb9
  replace k6 := k6.stay hb9
  replace BW := Below.step BW hb9
  clear hb9
  go_wp2_with fail
  refine (implOp_c p4 p5 p6 p7 q4 q5 q6 q7 bs0 bs1 bs2 bs3 _ (Rd.own k4) (Rd.own k5) (Rd.own k6) (Rd.own k7) hl3 (hT.keep BW) (hH.keep BW)).mono ?_
  rintro e w10 ⟨ug, rfl, kg, hb10⟩
  obtain ⟨pg, qg, rfl, -⟩ := kg.rd
  have z10 : Hid (w9.heap.size ≤ w10.heap.size) := hb10.size
  have gkg : Hid (∀ k, (Value.slice pg (opL bs0 bs1 bs2 bs3).length qg).ownBlock = some k → w9.heap.size ≤ k ∧ k < w10.heap.size) := fun k e => ⟨by have h := kg.ge k e; omega, kg.lt k e⟩
  replace ks := ks.stay hb10
  replace sA := sA.keep hb10
  replace k4 := k4.stay hb10
  replace k5 := k5.stay hb10
  replace k6 := k6.stay hb10
  replace k7 := k7.stay hb10
  replace BW := Below.step BW hb10
  clear hb10
  have csA0 := sA 0 _ rfl
  have csA1 := sA 1 _ rfl
  have zsA := sA.lt
  go_wp2_with fail
  refine (eqBytes2_c _ _ _ pg ps qg qs (opL bs0 bs1 bs2 bs3) _ (kg.stay (alloc_below _ _)) (ks.stay (alloc_below _ _))).mono ?_
  rintro e w11 ⟨rfl, hb11⟩
  have z11 : Hid (w10.heap.size < w11.heap.size) := size_lt hb11
  have sB := Has.new hb11
  replace hb11 := Below.res hb11
  replace ks := ks.stay hb11
  replace sA := sA.keep hb11
  replace k4 := k4.stay hb11
  replace k5 := k5.stay hb11
  replace k6 := k6.stay hb11
  replace k7 := k7.stay hb11
  replace kg := kg.stay hb11
  replace BW := Below.step BW hb11
  clear hb11 csA0 csA1 zsA
  go_wp2_with fail
  refine (toByteS_c _ _ bs0 _ (r0.keep BW) hl0).mono ?_
  rintro e w12 ⟨u8, rfl, k8, hb12⟩
  obtain ⟨p8, q8, rfl, -⟩ := k8.rd
  have z12 : Hid (w11.heap.size ≤ w12.heap.size) := hb12.size
  have gk8 : Hid (∀ k, (Value.slice p8 bs0.length q8).ownBlock = some k → w11.heap.size ≤ k ∧ k < w12.heap.size) := fun k e => ⟨by have h := k8.ge k e; omega, k8.lt k e⟩
  replace ks := ks.stay hb12
  replace sA := sA.keep hb12
  replace k4 := k4.stay hb12
  replace k5 := k5.stay hb12
  replace k6 := k6.stay hb12
  replace k7 := k7.stay hb12
  replace kg := kg.stay hb12
  replace sB := sB.keep hb12
  replace BW := Below.step BW hb12
  clear hb12
  go_wp2_with fail
  refine (eqByteS_c p4 p8 q4 q8 bs0 _ (Rd.own k4) (Rd.own k8)).mono ?_
  rintro e w13 ⟨rfl, hb13⟩
  have z13 : Hid (w12.heap.size ≤ w13.heap.size) := hb13.size
  replace ks := ks.stay hb13
  replace sA := sA.keep hb13
  replace k4 := k4.stay hb13
  replace k5 := k5.stay hb13
  replace k6 := k6.stay hb13
  replace k7 := k7.stay hb13
  replace kg := kg.stay hb13
  replace sB := sB.keep hb13
  replace k8 := k8.stay hb13
  replace BW := Below.step BW hb13
  clear hb13
  clear k8
  go_wp2_with fail
  refine (toByteS_c _ _ bs1 _ (r1.keep BW) hl1).mono ?_
  rintro e w14 ⟨u9, rfl, k9, hb14⟩
  obtain ⟨p9, q9, rfl, -⟩ := k9.rd
  have z14 : Hid (w13.heap.size ≤ w14.heap.size) := hb14.size
  have gk9 : Hid (∀ k, (Value.slice p9 bs1.length q9).ownBlock = some k → w13.heap.size ≤ k ∧ k < w14.heap.size) := fun k e => ⟨by have h := k9.ge k e; omega, k9.lt k e⟩
  replace ks := ks.stay hb14
  replace sA := sA.keep hb14
  replace k4 := k4.stay hb14
  replace k5 := k5.stay hb14
  replace k6 := k6.stay hb14
  replace k7 := k7.stay hb14
  replace kg := kg.stay hb14
  replace sB := sB.keep hb14
  replace BW := Below.step BW hb14
  clear hb14
  go_wp2_with fail
  refine (eqByteS_c p5 p9 q5 q9 bs1 _ (Rd.own k5) (Rd.own k9)).mono ?_
  rintro e w15 ⟨rfl, hb15⟩
  have z15 : Hid (w14.heap.size ≤ w15.heap.size) := hb15.size
  replace ks := ks.stay hb15
  replace sA := sA.keep hb15
  replace k4 := k4.stay hb15
  replace k5 := k5.stay hb15
  replace k6 := k6.stay hb15
  replace k7 := k7.stay hb15
  replace kg := kg.stay hb15
  replace sB := sB.keep hb15
  replace k9 := k9.stay hb15
  replace BW := Below.step BW hb15
  clear hb15
  clear k9
  go_wp2_with fail
  refine (toByteS_c _ _ bs2 _ (r2.keep BW) hl2).mono ?_
  rintro e w16 ⟨u10, rfl, k10, hb16⟩
  obtain ⟨p10, q10, rfl, -⟩ := k10.rd
  have z16 : Hid (w15.heap.size ≤ w16.heap.size) := hb16.size
  have gk10 : Hid (∀ k, (Value.slice p10 bs2.length q10).ownBlock = some k → w15.heap.size ≤ k ∧ k < w16.heap.size) := fun k e => ⟨by have h := k10.ge k e; omega, k10.lt k e⟩
  replace ks := ks.stay hb16
  replace sA := sA.keep hb16
  replace k4 := k4.stay hb16
  replace k5 := k5.stay hb16
  replace k6 := k6.stay hb16
  replace k7 := k7.stay hb16
  replace kg := kg.stay hb16
  replace sB := sB.keep hb16
  replace BW := Below.step BW hb16
  clear hb16
  go_wp2_with fail
  refine (eqByteS_c p6 p10 q6 q10 bs2 _ (Rd.own k6) (Rd.own k10)).mono ?_
  rintro e w17 ⟨rfl, hb17⟩
  have z17 : Hid (w16.heap.size ≤ w17.heap.size) := hb17.size
  replace ks := ks.stay hb17
  replace sA := sA.keep hb17
  replace k4 := k4.stay hb17
  replace k5 := k5.stay hb17
  replace k6 := k6.stay hb17
  replace k7 := k7.stay hb17
  replace kg := kg.stay hb17
  replace sB := sB.keep hb17
  replace k10 := k10.stay hb17
  replace BW := Below.step BW hb17
  clear hb17
  clear k10
  go_wp2_with fail
  refine (toByteS_c _ _ bs3 _ (r3.keep BW) hl3).mono ?_
  rintro e w18 ⟨u11, rfl, k11, hb18⟩
  obtain ⟨p11, q11, rfl, -⟩ := k11.rd
  have z18 : Hid (w17.heap.size ≤ w18.heap.size) := hb18.size
  have gk11 : Hid (∀ k, (Value.slice p11 bs3.length q11).ownBlock = some k → w17.heap.size ≤ k ∧ k < w18.heap.size) := fun k e => ⟨by have h := k11.ge k e; omega, k11.lt k e⟩
  replace ks := ks.stay hb18
  replace sA := sA.keep hb18
  replace k4 := k4.stay hb18
  replace k5 := k5.stay hb18
  replace k6 := k6.stay hb18
  replace k7 := k7.stay hb18
  replace kg := kg.stay hb18
  replace sB := sB.keep hb18
  replace BW := Below.step BW hb18
  clear hb18
  go_wp2_with fail
  refine (eqByteS_c p7 p11 q7 q11 bs3 _ (Rd.own k7) (Rd.own k11)).mono ?_
  rintro e w19 ⟨rfl, hb19⟩
  have z19 : Hid (w18.heap.size ≤ w19.heap.size) := hb19.size
  replace ks := ks.stay hb19
  replace sA := sA.keep hb19
  replace k4 := k4.stay hb19
  replace k5 := k5.stay hb19
  replace k6 := k6.stay hb19
  replace k7 := k7.stay hb19
  replace kg := kg.stay hb19
  replace sB := sB.keep hb19
  replace k11 := k11.stay hb19
  replace BW := Below.step BW hb19
  clear hb19
  clear k11
  go_wp2_with fail
  refine (markByteS_c1 _ _ bs0 _ k4 hl0).mono ?_
  rintro e w20 ⟨rfl, x4, hg⟩
  replace ks := ks.other hg (fun k hk e => by have h1 := gk4.out k e; have h2 := gks.out k hk; have := z1.out; have := z2.out; have := z3.out; have := z4.out; have := z5.out; have := z6.out; have := z7.out; have := z8.out; have := z9.out; have := z10.out; have := z11.out; have := z12.out; have := z13.out; have := z14.out; have := z15.out; have := z16.out; have := z17.out; have := z18.out; have := z19.out; omega)
  replace sA := sA.other hg (fun e => by have h1 := gk4.out _ e; have := z1.out; have := z2.out; have := z3.out; have := z4.out; have := z5.out; have := z6.out; have := z7.out; have := z8.out; have := z9.out; have := z10.out; have := z11.out; have := z12.out; have := z13.out; have := z14.out; have := z15.out; have := z16.out; have := z17.out; have := z18.out; have := z19.out; omega)
  replace k5 := k5.other hg (fun k hk e => by have h1 := gk4.out k e; have h2 := gk5.out k hk; have := z1.out; have := z2.out; have := z3.out; have := z4.out; have := z5.out; have := z6.out; have := z7.out; have := z8.out; have := z9.out; have := z10.out; have := z11.out; have := z12.out; have := z13.out; have := z14.out; have := z15.out; have := z16.out; have := z17.out; have := z18.out; have := z19.out; omega)
  replace k6 := k6.other hg (fun k hk e => by have h1 := gk4.out k e; have h2 := gk6.out k hk; have := z1.out; have := z2.out; have := z3.out; have := z4.out; have := z5.out; have := z6.out; have := z7.out; have := z8.out; have := z9.out; have := z10.out; have := z11.out; have := z12.out; have := z13.out; have := z14.out; have := z15.out; have := z16.out; have := z17.out; have := z18.out; have := z19.out; omega)
  replace k7 := k7.other hg (fun k hk e => by have h1 := gk4.out k e; have h2 := gk7.out k hk; have := z1.out; have := z2.out; have := z3.out; have := z4.out; have := z5.out; have := z6.out; have := z7.out; have := z8.out; have := z9.out; have := z10.out; have := z11.out; have := z12.out; have := z13.out; have := z14.out; have := z15.out; have := z16.out; have := z17.out; have := z18.out; have := z19.out; omega)
  replace kg := kg.other hg (fun k hk e => by have h1 := gk4.out k e; have h2 := gkg.out k hk; have := z1.out; have := z2.out; have := z3.out; have := z4.out; have := z5.out; have := z6.out; have := z7.out; have := z8.out; have := z9.out; have := z10.out; have := z11.out; have := z12.out; have := z13.out; have := z14.out; have := z15.out; have := z16.out; have := z17.out; have := z18.out; have := z19.out; omega)
  replace sB := sB.other hg (fun e => by have h1 := gk4.out _ e; have := z1.out; have := z2.out; have := z3.out; have := z4.out; have := z5.out; have := z6.out; have := z7.out; have := z8.out; have := z9.out; have := z10.out; have := z11.out; have := z12.out; have := z13.out; have := z14.out; have := z15.out; have := z16.out; have := z17.out; have := z18.out; have := z19.out; omega)
  have z20 : Hid (w19.heap.size ≤ w20.heap.size) := hg.size
  replace BW := BW.grown hg BW.size (fun k e => by have h1 := gk4.out k e; have := z1.out; have := z2.out; have := z3.out; have := z4.out; have := z5.out; have := z6.out; have := z7.out; have := z8.out; have := z9.out; have := z10.out; have := z11.out; have := z12.out; have := z13.out; have := z14.out; have := z15.out; have := z16.out; have := z17.out; have := z18.out; have := z19.out; omega)
  have gx4 := gk4
  clear hg k4 gk4
  clear x4
  go_wp2_with fail
  refine (markByteS_cn _ _ _ bs1 _ k5 (by omega) (by omega) hl1).mono ?_
  rintro e w21 ⟨rfl, x5, hg⟩
  replace ks := ks.other hg (fun k hk e => by have h1 := gk5.out k e; have h2 := gks.out k hk; have := z1.out; have := z2.out; have := z3.out; have := z4.out; have := z5.out; have := z6.out; have := z7.out; have := z8.out; have := z9.out; have := z10.out; have := z11.out; have := z12.out; have := z13.out; have := z14.out; have := z15.out; have := z16.out; have := z17.out; have := z18.out; have := z19.out; have := z20.out; omega)
  replace sA := sA.other hg (fun e => by have h1 := gk5.out _ e; have := z1.out; have := z2.out; have := z3.out; have := z4.out; have := z5.out; have := z6.out; have := z7.out; have := z8.out; have := z9.out; have := z10.out; have := z11.out; have := z12.out; have := z13.out; have := z14.out; have := z15.out; have := z16.out; have := z17.out; have := z18.out; have := z19.out; have := z20.out; omega)
  replace k6 := k6.other hg (fun k hk e => by have h1 := gk5.out k e; have h2 := gk6.out k hk; have := z1.out; have := z2.out; have := z3.out; have := z4.out; have := z5.out; have := z6.out; have := z7.out; have := z8.out; have := z9.out; have := z10.out; have := z11.out; have := z12.out; have := z13.out; have := z14.out; have := z15.out; have := z16.out; have := z17.out; have := z18.out; have := z19.out; have := z20.out; omega)
  replace k7 := k7.other hg (fun k hk e => by have h1 := gk5.out k e; have h2 := gk7.out k hk; have := z1.out; have := z2.out; have := z3.out; have := z4.out; have := z5.out; have := z6.out; have := z7.out; have := z8.out; have := z9.out; have := z10.out; have := z11.out; have := z12.out; have := z13.out; have := z14.out; have := z15.out; have := z16.out; have := z17.out; have := z18.out; have := z19.out; have := z20.out; omega)
  replace kg := kg.other hg (fun k hk e => by have h1 := gk5.out k e; have h2 := gkg.out k hk; have := z1.out; have := z2.out; have := z3.out; have := z4.out; have := z5.out; have := z6.out; have := z7.out; have := z8.out; have := z9.out; have := z10.out; have := z11.out; have := z12.out; have := z13.out; have := z14.out; have := z15.out; have := z16.out; have := z17.out; have := z18.out; have := z19.out; have := z20.out; omega)
  replace sB := sB.other hg (fun e => by have h1 := gk5.out _ e; have := z1.out; have := z2.out; have := z3.out; have := z4.out; have := z5.out; have := z6.out; have := z7.out; have := z8.out; have := z9.out; have := z10.out; have := z11.out; have := z12.out; have := z13.out; have := z14.out; have := z15.out; have := z16.out; have := z17.out; have := z18.out; have := z19.out; have := z20.out; omega)
  have z21 : Hid (w20.heap.size ≤ w21.heap.size) := hg.size
  replace BW := BW.grown hg BW.size (fun k e => by have h1 := gk5.out k e; have := z1.out; have := z2.out; have := z3.out; have := z4.out; have := z5.out; have := z6.out; have := z7.out; have := z8.out; have := z9.out; have := z10.out; have := z11.out; have := z12.out; have := z13.out; have := z14.out; have := z15.out; have := z16.out; have := z17.out; have := z18.out; have := z19.out; have := z20.out; omega)
  have gx5 := gk5
  clear hg k5 gk5
  clear x5
  go_wp2_with fail
  refine (markByteS_cn _ _ _ bs2 _ k6 (by omega) (by omega) hl2).mono ?_
  rintro e w22 ⟨rfl, x6, hg⟩
  replace ks := ks.other hg (fun k hk e => by have h1 := gk6.out k e; have h2 := gks.out k hk; have := z1.out; have := z2.out; have := z3.out; have := z4.out; have := z5.out; have := z6.out; have := z7.out; have := z8.out; have := z9.out; have := z10.out; have := z11.out; have := z12.out; have := z13.out; have := z14.out; have := z15.out; have := z16.out; have := z17.out; have := z18.out; have := z19.out; have := z20.out; have := z21.out; omega)
  replace sA := sA.other hg (fun e => by have h1 := gk6.out _ e; have := z1.out; have := z2.out; have := z3.out; have := z4.out; have := z5.out; have := z6.out; have := z7.out; have := z8.out; have := z9.out; have := z10.out; have := z11.out; have := z12.out; have := z13.out; have := z14.out; have := z15.out; have := z16.out; have := z17.out; have := z18.out; have := z19.out; have := z20.out; have := z21.out; omega)
  replace k7 := k7.other hg (fun k hk e => by have h1 := gk6.out k e; have h2 := gk7.out k hk; have := z1.out; have := z2.out; have := z3.out; have := z4.out; have := z5.out; have := z6.out; have := z7.out; have := z8.out; have := z9.out; have := z10.out; have := z11.out; have := z12.out; have := z13.out; have := z14.out; have := z15.out; have := z16.out; have := z17.out; have := z18.out; have := z19.out; have := z20.out; have := z21.out; omega)
  replace kg := kg.other hg (fun k hk e => by have h1 := gk6.out k e; have h2 := gkg.out k hk; have := z1.out; have := z2.out; have := z3.out; have := z4.out; have := z5.out; have := z6.out; have := z7.out; have := z8.out; have := z9.out; have := z10.out; have := z11.out; have := z12.out; have := z13.out; have := z14.out; have := z15.out; have := z16.out; have := z17.out; have := z18.out; have := z19.out; have := z20.out; have := z21.out; omega)
  replace sB := sB.other hg (fun e => by have h1 := gk6.out _ e; have := z1.out; have := z2.out; have := z3.out; have := z4.out; have := z5.out; have := z6.out; have := z7.out; have := z8.out; have := z9.out; have := z10.out; have := z11.out; have := z12.out; have := z13.out; have := z14.out; have := z15.out; have := z16.out; have := z17.out; have := z18.out; have := z19.out; have := z20.out; have := z21.out; omega)
  have z22 : Hid (w21.heap.size ≤ w22.heap.size) := hg.size
  replace BW := BW.grown hg BW.size (fun k e => by have h1 := gk6.out k e; have := z1.out; have := z2.out; have := z3.out; have := z4.out; have := z5.out; have := z6.out; have := z7.out; have := z8.out; have := z9.out; have := z10.out; have := z11.out; have := z12.out; have := z13.out; have := z14.out; have := z15.out; have := z16.out; have := z17.out; have := z18.out; have := z19.out; have := z20.out; have := z21.out; omega)
  have gx6 := gk6
  clear hg k6 gk6
  clear x6
  go_wp2_with fail
  refine (markByteS_cn _ _ _ bs3 _ k7 (by omega) (by omega) hl3).mono ?_
  rintro e w23 ⟨rfl, x7, hg⟩
  replace ks := ks.other hg (fun k hk e => by have h1 := gk7.out k e; have h2 := gks.out k hk; have := z1.out; have := z2.out; have := z3.out; have := z4.out; have := z5.out; have := z6.out; have := z7.out; have := z8.out; have := z9.out; have := z10.out; have := z11.out; have := z12.out; have := z13.out; have := z14.out; have := z15.out; have := z16.out; have := z17.out; have := z18.out; have := z19.out; have := z20.out; have := z21.out; have := z22.out; omega)
  replace sA := sA.other hg (fun e => by have h1 := gk7.out _ e; have := z1.out; have := z2.out; have := z3.out; have := z4.out; have := z5.out; have := z6.out; have := z7.out; have := z8.out; have := z9.out; have := z10.out; have := z11.out; have := z12.out; have := z13.out; have := z14.out; have := z15.out; have := z16.out; have := z17.out; have := z18.out; have := z19.out; have := z20.out; have := z21.out; have := z22.out; omega)
  replace kg := kg.other hg (fun k hk e => by have h1 := gk7.out k e; have h2 := gkg.out k hk; have := z1.out; have := z2.out; have := z3.out; have := z4.out; have := z5.out; have := z6.out; have := z7.out; have := z8.out; have := z9.out; have := z10.out; have := z11.out; have := z12.out; have := z13.out; have := z14.out; have := z15.out; have := z16.out; have := z17.out; have := z18.out; have := z19.out; have := z20.out; have := z21.out; have := z22.out; omega)
  replace sB := sB.other hg (fun e => by have h1 := gk7.out _ e; have := z1.out; have := z2.out; have := z3.out; have := z4.out; have := z5.out; have := z6.out; have := z7.out; have := z8.out; have := z9.out; have := z10.out; have := z11.out; have := z12.out; have := z13.out; have := z14.out; have := z15.out; have := z16.out; have := z17.out; have := z18.out; have := z19.out; have := z20.out; have := z21.out; have := z22.out; omega)
  have z23 : Hid (w22.heap.size ≤ w23.heap.size) := hg.size
  replace BW := BW.grown hg BW.size (fun k e => by have h1 := gk7.out k e; have := z1.out; have := z2.out; have := z3.out; have := z4.out; have := z5.out; have := z6.out; have := z7.out; have := z8.out; have := z9.out; have := z10.out; have := z11.out; have := z12.out; have := z13.out; have := z14.out; have := z15.out; have := z16.out; have := z17.out; have := z18.out; have := z19.out; have := z20.out; have := z21.out; have := z22.out; omega)
  have gx7 := gk7
  clear hg k7 gk7
  clear x7
  have csA0 := sA 0 _ rfl
  have csA1 := sA 1 _ rfl
  have zsA := sA.lt
  have csB0 := sB 0 _ rfl
  have csB1 := sB 1 _ rfl
  have zsB := sB.lt
  go_wp2_with fail
  refine (eqBytes2_c _ _ _ pg ps qg qs (opL bs0 bs1 bs2 bs3) _ kg ks).mono ?_
  rintro e w24 ⟨rfl, hb24⟩
  have z24 : Hid (w23.heap.size ≤ w24.heap.size) := hb24.size
  replace ks := ks.stay hb24
  replace sA := sA.keep hb24
  replace kg := kg.stay hb24
  replace sB := sB.keep hb24
  replace BW := Below.step BW hb24
  clear hb24 csA0 csA1 zsA csB0 csB1 zsB
  have csB0 := sB 0 _ rfl
  have csB1 := sB 1 _ rfl
  have zsB := sB.lt
  go_wp2_with fail
  refine (markBytes1_c _ _ _ (opL bs0 bs1 bs2 bs3) _ kg hlen).mono ?_
  rintro e w25 ⟨rfl, km, hg⟩
  replace ks := ks.other hg (fun k hk e => by have h1 := gkg.out k e; have h2 := gks.out k hk; have := z1.out; have := z2.out; have := z3.out; have := z4.out; have := z5.out; have := z6.out; have := z7.out; have := z8.out; have := z9.out; have := z10.out; have := z11.out; have := z12.out; have := z13.out; have := z14.out; have := z15.out; have := z16.out; have := z17.out; have := z18.out; have := z19.out; have := z20.out; have := z21.out; have := z22.out; have := z23.out; have := z24.out; omega)
  replace sA := sA.other hg (fun e => by have h1 := gkg.out _ e; have := z1.out; have := z2.out; have := z3.out; have := z4.out; have := z5.out; have := z6.out; have := z7.out; have := z8.out; have := z9.out; have := z10.out; have := z11.out; have := z12.out; have := z13.out; have := z14.out; have := z15.out; have := z16.out; have := z17.out; have := z18.out; have := z19.out; have := z20.out; have := z21.out; have := z22.out; have := z23.out; have := z24.out; omega)
  replace sB := sB.other hg (fun e => by have h1 := gkg.out _ e; have := z1.out; have := z2.out; have := z3.out; have := z4.out; have := z5.out; have := z6.out; have := z7.out; have := z8.out; have := z9.out; have := z10.out; have := z11.out; have := z12.out; have := z13.out; have := z14.out; have := z15.out; have := z16.out; have := z17.out; have := z18.out; have := z19.out; have := z20.out; have := z21.out; have := z22.out; have := z23.out; have := z24.out; omega)
  have z25 : Hid (w24.heap.size ≤ w25.heap.size) := hg.size
  replace BW := BW.grown hg BW.size (fun k e => by have h1 := gkg.out k e; have := z1.out; have := z2.out; have := z3.out; have := z4.out; have := z5.out; have := z6.out; have := z7.out; have := z8.out; have := z9.out; have := z10.out; have := z11.out; have := z12.out; have := z13.out; have := z14.out; have := z15.out; have := z16.out; have := z17.out; have := z18.out; have := z19.out; have := z20.out; have := z21.out; have := z22.out; have := z23.out; have := z24.out; omega)
  have gkm := gkg
  clear hg kg gkg csB0 csB1 zsB
  have csB0 := sB 0 _ rfl
  have csB1 := sB 1 _ rfl
  have zsB := sB.lt
  go_wp2_with fail
  refine (heldBytes1_c _ _ pg qg (opL bs0 bs1 bs2 bs3).length _ km hlen).mono ?_
  rintro e w26 ⟨rfl, hb26⟩
  have z26 : Hid (w25.heap.size ≤ w26.heap.size) := hb26.size
  replace ks := ks.stay hb26
  replace sA := sA.keep hb26
  replace sB := sB.keep hb26
  replace km := km.stay hb26
  replace BW := Below.step BW hb26
  clear hb26 csB0 csB1 zsB
  go_wp2_with fail
  refine (toByteS_c _ _ bs0 _ (r0.keep BW) hl0).mono ?_
  rintro e w27 ⟨u12, rfl, k12, hb27⟩
  obtain ⟨p12, q12, rfl, -⟩ := k12.rd
  have z27 : Hid (w26.heap.size ≤ w27.heap.size) := hb27.size
  have gk12 : Hid (∀ k, (Value.slice p12 bs0.length q12).ownBlock = some k → w26.heap.size ≤ k ∧ k < w27.heap.size) := fun k e => ⟨by have h := k12.ge k e; omega, k12.lt k e⟩
  replace ks := ks.stay hb27
  replace sA := sA.keep hb27
  replace sB := sB.keep hb27
  replace km := km.stay hb27
  replace BW := Below.step BW hb27
  clear hb27
  go_wp2_with fail
  refine (toByteS_c _ _ bs1 _ (r1.keep BW) hl1).mono ?_
  rintro e w28 ⟨u13, rfl, k13, hb28⟩
  obtain ⟨p13, q13, rfl, -⟩ := k13.rd
  have z28 : Hid (w27.heap.size ≤ w28.heap.size) := hb28.size
  have gk13 : Hid (∀ k, (Value.slice p13 bs1.length q13).ownBlock = some k → w27.heap.size ≤ k ∧ k < w28.heap.size) := fun k e => ⟨by have h := k13.ge k e; omega, k13.lt k e⟩
  replace ks := ks.stay hb28
  replace sA := sA.keep hb28
  replace sB := sB.keep hb28
  replace km := km.stay hb28
  replace k12 := k12.stay hb28
  replace BW := Below.step BW hb28
  clear hb28
  go_wp2_with fail
  refine (toByteS_c _ _ bs2 _ (r2.keep BW) hl2).mono ?_
  rintro e w29 ⟨u14, rfl, k14, hb29⟩
  obtain ⟨p14, q14, rfl, -⟩ := k14.rd
  have z29 : Hid (w28.heap.size ≤ w29.heap.size) := hb29.size
  have gk14 : Hid (∀ k, (Value.slice p14 bs2.length q14).ownBlock = some k → w28.heap.size ≤ k ∧ k < w29.heap.size) := fun k e => ⟨by have h := k14.ge k e; omega, k14.lt k e⟩
  replace ks := ks.stay hb29
  replace sA := sA.keep hb29
  replace sB := sB.keep hb29
  replace km := km.stay hb29
  replace k12 := k12.stay hb29
  replace k13 := k13.stay hb29
  replace BW := Below.step BW hb29
  clear hb29
  go_wp2_with fail
  refine (toByteS_c _ _ bs3 _ (r3.keep BW) hl3).mono ?_
  rintro e w30 ⟨u15, rfl, k15, hb30⟩
  obtain ⟨p15, q15, rfl, -⟩ := k15.rd
  have z30 : Hid (w29.heap.size ≤ w30.heap.size) := hb30.size
  have gk15 : Hid (∀ k, (Value.slice p15 bs3.length q15).ownBlock = some k → w29.heap.size ≤ k ∧ k < w30.heap.size) := fun k e => ⟨by have h := k15.ge k e; omega, k15.lt k e⟩
  replace ks := ks.stay hb30
  replace sA := sA.keep hb30
  replace sB := sB.keep hb30
  replace km := km.stay hb30
  replace k12 := k12.stay hb30
  replace k13 := k13.stay hb30
  replace k14 := k14.stay hb30
  replace BW := Below.step BW hb30
  clear hb30
  go_wp2_with fail
  refine (implOp_c p12 p13 p14 p15 q12 q13 q14 q15 bs0 bs1 bs2 bs3 _ (Rd.own k12) (Rd.own k13) (Rd.own k14) (Rd.own k15) hl3 (hT.keep BW) (hH.keep BW)).mono ?_
  rintro e w31 ⟨uh, rfl, kh, hb31⟩
  obtain ⟨ph, qh, rfl, -⟩ := kh.rd
  have z31 : Hid (w30.heap.size ≤ w31.heap.size) := hb31.size
  have gkh : Hid (∀ k, (Value.slice ph (opL bs0 bs1 bs2 bs3).length qh).ownBlock = some k → w30.heap.size ≤ k ∧ k < w31.heap.size) := fun k e => ⟨by have h := kh.ge k e; omega, kh.lt k e⟩
  replace ks := ks.stay hb31
  replace sA := sA.keep hb31
  replace sB := sB.keep hb31
  replace km := km.stay hb31
  replace k12 := k12.stay hb31
  replace k13 := k13.stay hb31
  replace k14 := k14.stay hb31
  replace k15 := k15.stay hb31
  replace BW := Below.step BW hb31
  clear hb31
  clear k12 k13 k14 k15
  have csA0 := sA 0 _ rfl
  have csA1 := sA 1 _ rfl
  have zsA := sA.lt
  go_wp2_with fail
  refine (eqBytes2_c _ _ _ ph ps qh qs (opL bs0 bs1 bs2 bs3) _ (kh.stay (alloc_below _ _)) (ks.stay (alloc_below _ _))).mono ?_
  rintro e w32 ⟨rfl, hb32⟩
  have z32 : Hid (w31.heap.size < w32.heap.size) := size_lt hb32
  have sC := Has.new hb32
  replace hb32 := Below.res hb32
  replace ks := ks.stay hb32
  replace sA := sA.keep hb32
  replace sB := sB.keep hb32
  replace km := km.stay hb32
  replace kh := kh.stay hb32
  replace BW := Below.step BW hb32
  clear hb32 csA0 csA1 zsA
  clear sC sA ks kh
  have csB0 := sB 0 _ rfl
  have csB1 := sB 1 _ rfl
  have zsB := sB.lt
  go_wp2_with fail
  refine (heldBytes1_c _ _ pg qg (opL bs0 bs1 bs2 bs3).length _ km hlen).mono ?_
  rintro e w33 ⟨rfl, hb33⟩
  have z33 : Hid (w32.heap.size ≤ w33.heap.size) := hb33.size
  replace sB := sB.keep hb33
  replace km := km.stay hb33
  replace BW := Below.step BW hb33
  clear hb33 csB0 csB1 zsB
  go_wp2
  go_ret
  exact ⟨rfl, BW⟩

/-! The row's step. -/
/-- The door's own heap meets the condition. -/
theorem door_met (os : Os) (args : Array Value) : laidMetH Tryd.prog Rows.fnExactOpenBytesRow.laid ((World.doorLaid Tryd.prog 400 os).forCall (fun _ _ => 0) ⟨#[], args, []⟩).memory :=
  laidMetH_of_parts (laidMet_of_run' 8 (by kernel_rfl) (by kernel_rfl)) (by kernel_rfl)

set_option maxRecDepth 100000 in
theorem lifted (os : Os) (started : os.Started) (H : Type) (enc : TypeId × Value → H) :
    ReturnsInHanded {} Tryd.checked os 6 .any (fun w args => (Rows.fnExactOpenBytesSpec.pre enc Tryd.prog Tryd.f6 [] false w args ∧ laidMetH Tryd.prog Rows.fnExactOpenBytesRow.laid w) ∧ sizedMet enc Tryd.prog Tryd.f6 (OpenSpec.ofChange Rows.fnExactOpenBytesSpec) false w args) (Rows.fnExactOpenBytesSpec.post enc Tryd.prog Tryd.f6 false true false false) := by
  refine returnsInHanded_of_change_and (C := Tryd.checked) (X := fun w _ => laidMetH Tryd.prog Rows.fnExactOpenBytesRow.laid w) (fun _ _ _ hh h => h.of_heap hh) own started (by kernel_rfl) Tryd.func6
    (ChangeSpec.witness_shaped (enc := enc) (C := Tryd.checked) (os := os) (X := fun w _ => laidMetH Tryd.prog Rows.fnExactOpenBytesRow.laid w) false (World.doorLaid Tryd.prog 400 os) #[.slice none 0 0, .slice none 0 0, .slice none 0 0, .slice none 0 0] 8 rfl (World.shaped_of_RefB (by kernel_rfl) (by kernel_rfl)) (by kernel_rfl) (by kernel_rfl) (by kernel_rfl) (door_met os _)) ?_
  intro W base args ds gs before hval0 hW hcnd _ hL _
  have hval : ∀ (j : Nat) t v, Tryd.f6.params[j]? = some t → args[j]? = some v → Value.okWide Tryd.prog W .any base t v := hval0
  have hW' := hW
  obtain ⟨p, q, hA0, hV, rfl, hfz, hnd⟩ := hW
  have hA : DataW.TrodAll enc Tryd.prog W 0 (fun _ => true) true Tryd.f6.params.toList args.toList ds p := hA0
  rw [Tryd.params6] at hA hval
  obtain ⟨v0, vs0, d0, ds0, p0, q0, hargs, rfl, rfl, h0, r0⟩ := trodAll_cons hA
  obtain ⟨v1, vs1, d1, ds1, p1, q1, rfl, rfl, rfl, h1, r1⟩ := trodAll_cons r0
  obtain ⟨v2, vs2, d2, ds2, p2, q2, rfl, rfl, rfl, h2, r2⟩ := trodAll_cons r1
  obtain ⟨v3, vs3, d3, ds3, p3, q3, rfl, rfl, rfl, h3, r3⟩ := trodAll_cons r2
  obtain ⟨rfl, rfl, rfl⟩ := trodAll_nil r3
  obtain rfl : args = #[v0, v1, v2, v3] := by cases args; simp_all
  obtain ⟨v0a, v0b, v0c, v0d, v0e, v0f, v1a, v1b, v1c, v1d, v1e, v1f, rfl, -⟩ := trodVars_two hV
  obtain ⟨a0, len0, cap0, rfl⟩ := okWide_slice Tryd.underlying22 (hval 0 22 v0 rfl rfl)
  have k0 := h0
  have lt0 : ∀ x ∈ p0, x.block < W.heap.size := by obtain ⟨m, hm⟩ := k0; exact DataW.trod_lt m _ _ _ hm
  obtain ⟨z0, w0⟩ : ∃ zs, IsRow .u8 W a0 len0 cap0 zs := by
    obtain ⟨fuel, hf⟩ := h0
    rcases open_ints Tryd.underlying22 Tryd.underlying5 (by kernel_rfl) hf with ⟨hcs, _⟩ | ⟨x, l, c, zs, hcs, _, hl, hm, hz, _, hcell, hwz⟩
    · simp [Value.cells] at hcs
      obtain ⟨rfl, rfl, rfl⟩ := hcs
      exact ⟨[], .inl ⟨rfl, rfl, rfl, rfl⟩⟩
    · simp [Value.cells] at hcs
      obtain ⟨rfl, rfl, rfl⟩ := hcs
      exact ⟨zs, .inr ⟨_, rfl, hl, hm, by simpa using hz, hcell, hwz⟩⟩
  obtain ⟨a1, len1, cap1, rfl⟩ := okWide_slice Tryd.underlying22 (hval 1 22 v1 rfl rfl)
  have k1 := h1
  have lt1 : ∀ x ∈ p1, x.block < W.heap.size := by obtain ⟨m, hm⟩ := k1; exact DataW.trod_lt m _ _ _ hm
  obtain ⟨z1, w1⟩ : ∃ zs, IsRow .u8 W a1 len1 cap1 zs := by
    obtain ⟨fuel, hf⟩ := h1
    rcases open_ints Tryd.underlying22 Tryd.underlying5 (by kernel_rfl) hf with ⟨hcs, _⟩ | ⟨x, l, c, zs, hcs, _, hl, hm, hz, _, hcell, hwz⟩
    · simp [Value.cells] at hcs
      obtain ⟨rfl, rfl, rfl⟩ := hcs
      exact ⟨[], .inl ⟨rfl, rfl, rfl, rfl⟩⟩
    · simp [Value.cells] at hcs
      obtain ⟨rfl, rfl, rfl⟩ := hcs
      exact ⟨zs, .inr ⟨_, rfl, hl, hm, by simpa using hz, hcell, hwz⟩⟩
  obtain ⟨a2, len2, cap2, rfl⟩ := okWide_slice Tryd.underlying22 (hval 2 22 v2 rfl rfl)
  have k2 := h2
  have lt2 : ∀ x ∈ p2, x.block < W.heap.size := by obtain ⟨m, hm⟩ := k2; exact DataW.trod_lt m _ _ _ hm
  obtain ⟨z2, w2⟩ : ∃ zs, IsRow .u8 W a2 len2 cap2 zs := by
    obtain ⟨fuel, hf⟩ := h2
    rcases open_ints Tryd.underlying22 Tryd.underlying5 (by kernel_rfl) hf with ⟨hcs, _⟩ | ⟨x, l, c, zs, hcs, _, hl, hm, hz, _, hcell, hwz⟩
    · simp [Value.cells] at hcs
      obtain ⟨rfl, rfl, rfl⟩ := hcs
      exact ⟨[], .inl ⟨rfl, rfl, rfl, rfl⟩⟩
    · simp [Value.cells] at hcs
      obtain ⟨rfl, rfl, rfl⟩ := hcs
      exact ⟨zs, .inr ⟨_, rfl, hl, hm, by simpa using hz, hcell, hwz⟩⟩
  obtain ⟨a3, len3, cap3, rfl⟩ := okWide_slice Tryd.underlying22 (hval 3 22 v3 rfl rfl)
  have k3 := h3
  have lt3 : ∀ x ∈ p3, x.block < W.heap.size := by obtain ⟨m, hm⟩ := k3; exact DataW.trod_lt m _ _ _ hm
  obtain ⟨z3, w3⟩ : ∃ zs, IsRow .u8 W a3 len3 cap3 zs := by
    obtain ⟨fuel, hf⟩ := h3
    rcases open_ints Tryd.underlying22 Tryd.underlying5 (by kernel_rfl) hf with ⟨hcs, _⟩ | ⟨x, l, c, zs, hcs, _, hl, hm, hz, _, hcell, hwz⟩
    · simp [Value.cells] at hcs
      obtain ⟨rfl, rfl, rfl⟩ := hcs
      exact ⟨[], .inl ⟨rfl, rfl, rfl, rfl⟩⟩
    · simp [Value.cells] at hcs
      obtain ⟨rfl, rfl, rfl⟩ := hcs
      exact ⟨zs, .inr ⟨_, rfl, hl, hm, by simpa using hz, hcell, hwz⟩⟩
  clear hA0 hval0
  refine (walk a0 len0 cap0 z0 a1 len1 cap1 z1 a2 len2 cap2 z2 a3 len3 cap3 z3 W w0 w1 w2 w3 (tabs_of (parts_of hL).1) (hnd_of (parts_of hL).2)).mono fun e W' ⟨he, bel⟩ => ?_
  subst he
  exact ⟨_, rfl, _, _, _, [], _, _, hW', trodAll_mk1 (shut_bool Tryd.underlying4 _), (trodAll_cons_mk (Below.trod laidOut (by kernel_rfl) (of_decide_eq_true (by kernel_rfl)) k0 bel lt0) (trodAll_cons_mk (Below.trod laidOut (by kernel_rfl) (of_decide_eq_true (by kernel_rfl)) k1 bel lt1) (trodAll_cons_mk (Below.trod laidOut (by kernel_rfl) (of_decide_eq_true (by kernel_rfl)) k2 bel lt2) (trodAll_cons_mk (Below.trod laidOut (by kernel_rfl) (of_decide_eq_true (by kernel_rfl)) k3 bel lt3) trodAll_mk0)))), Below.trodVars laidOut bel (by kernel_rfl) hV, bel.frame _, fun h => by cases h⟩

theorem over : Rows.fnExactOpenBytesRow.holds Tryd.pinned (OpenSpec.ofChange Rows.fnExactOpenBytesSpec) :=
  OpenClaim.holds_of_wide 6 Tryd.f6 rfl rfl rfl rfl rfl rfl rfl ⟨rfl, rfl, rfl, rfl, rfl⟩ rfl rfl rfl rfl rfl (by kernel_rfl) Tryd.func6 (by kernel_rfl)
    (of_decide_eq_true (by kernel_rfl)) (by unfold Func.isWrapper; first | (rw [if_pos (by decide +kernel)]; kernel_rfl) | (rw [if_neg (by decide +kernel)]; exact ⟨rfl, rfl⟩))
    (fun os started H enc _ => lifted os started H enc)


theorem plain (f : FuncId) (fn : Func) (hf : Tryd.pinned.checked.prog.funcNamed "loop.example/g00375/laws.FnExactOpenBytes" = some f) (hfn : Tryd.pinned.checked.prog.funcs[f]? = some fn) :
    true = Tryd.pinned.checked.prog.looks [] ∧ ∀ (j : Nat) t, fn.params[j]? = some t → Tryd.pinned.checked.prog.wantsStandIn t = false := by
  obtain rfl : f = 6 := Option.some.inj ((show Tryd.prog.funcNamed "loop.example/g00375/laws.FnExactOpenBytes" = some 6 by kernel_rfl).symm.trans hf) |>.symm
  obtain rfl : fn = Tryd.f6 := (Option.some.inj (Tryd.func6.symm.trans hfn)).symm
  refine ⟨by kernel_rfl, fun j t ht => ?_⟩
  rw [Tryd.params6] at ht
  have hm : t ∈ [22, 22, 22, 22] := by simpa using Array.mem_of_getElem? ht
  have hall : ([22, 22, 22, 22].all fun u => !Tryd.prog.wantsStandIn u) = true := by kernel_rfl
  exact (show Tryd.prog.wantsStandIn t = false by simpa using List.all_eq_true.1 hall t hm)
/-- The card. -/
theorem card : Rows.FnExactOpenBytesCardSaid :=
  Claim7.holds_tied_plain_at .later [] _ _ _ _ over (fun _ h => by cases h) (by kernel_rfl) (fun _ h => by cases h) fnExactOpenBytes_row_tie rfl ⟨rfl, rfl⟩ (by kernel_rfl) rfl plain (by kernel_rfl)
end Go.Proofs.YtpcgpefefklfoaaDoor.fnExactOpenBytes

namespace Go.Proofs.YtpcgpefefklfoaaDoor
theorem fnExactOpenBytes_holds : Rows.FnExactOpenBytesCardSaid := fnExactOpenBytes.card
end Go.Proofs.YtpcgpefefklfoaaDoor
