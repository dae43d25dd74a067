/- StreamXor of the program answers as the specification's, code and bytes, leaves its arguments alone, and its answer owns its memory, behind another call too. For every argument; no condition. The frame is the one that the guide's program writes; the walk and its contracts are ours. -/
import Derived.Test.YtohcohinggjdpaaRows
import Derived.WalkKit
import Derived.ProofKit
import Derived.OpenShut
import Derived.ShutString
import Derived.ChangeOld
import Derived.Below
import Derived.Test.YtohcohinggjdpaaStrI
import Derived.Test.YtohcohinggjdpaaEqBytes
namespace Go.Proofs.Ytohcohinggjdpaa.fnExactStreamXor
open Go.ChangeShapes Go.WideShapes Go.ChangeAt Go.RowKit
open Go.ChangeMaps (open_string shut_string)
set_option linter.unusedVariables false

theorem own : ownKnob Try.prog.godebug = none := by kernel_rfl
theorem laidOut : laidOutB Try.prog = true := by kernel_rfl

def IsRow (k : IntKind) (w : World) (a : Option Addr) (len cap : Nat) (zs : List Int) : Prop :=
  (a = none ∧ len = 0 ∧ cap = 0 ∧ zs = []) ∨
  ∃ x, a = some x ∧ len ≤ cap ∧ cap ≤ maxLen ∧ zs.length = cap ∧ (∀ i, i < zs.length → w.cell? (x.add i) = some (.int k (zs.getD i 0))) ∧ ∀ n ∈ zs, (Lit.int k n).wf = true


/-! The walk. -/
theorem walk (a0 : Option Addr) (len0 cap0 : Nat) (z0 : List Int) (a1 : Option Addr) (len1 cap1 : Nat) (z1 : List Int) (a2 : Option Addr) (len2 cap2 : Nat) (z2 : List Int) (w : World) (w0 : IsRow .u8 w a0 len0 cap0 z0) (w1 : IsRow .u8 w a1 len1 cap1 z1) (w2 : IsRow .u8 w a2 len2 cap2 z2) :
    Calls Try.prog 8 #[.slice a0 len0 cap0, .slice a1 len1 cap1, .slice a2 len2 cap2] w fun e w' => e = .returned (.bool true) ∧ Below w.heap.size w w' := by
  obtain ⟨bs0, rfl, r0⟩ := rd_of w0
  clear w0
  obtain ⟨bs1, rfl, r1⟩ := rd_of w1
  clear w1
  obtain ⟨bs2, rfl, r2⟩ := rd_of w2
  clear w2
  by_cases hl0 : 1048576 < bs0.length
  · go_enter Try.func8, Try.ntmps8
    go_wp2
    go_ret
    exact ⟨rfl, Below.refl _ _⟩
  replace hl0 : bs0.length ≤ 1048576 := by omega
  by_cases hl1 : 1048576 < bs1.length
  · go_enter Try.func8, Try.ntmps8
    go_wp2
    go_ret
    exact ⟨rfl, Below.refl _ _⟩
  replace hl1 : bs1.length ≤ 1048576 := by omega
  by_cases hl2 : 1048576 < bs2.length
  · go_enter Try.func8, Try.ntmps8
    go_wp2
    go_ret
    exact ⟨rfl, Below.refl _ _⟩
  replace hl2 : bs2.length ≤ 1048576 := by omega
  have hlen := sxL_len bs0 bs1 bs2
  go_enter Try.func8, Try.ntmps8
  go_wp2_with fail
  refine (toByteS_c _ _ bs0 _ r0 hl0).mono ?_
  rintro e w1 ⟨u0, rfl, k0, hb1⟩
  obtain ⟨p0, q0, rfl, -⟩ := k0.rd
  have z1 : Hid (w.heap.size ≤ w1.heap.size) := hb1.size
  have gk0 : Hid (∀ k, (Value.slice p0 bs0.length q0).ownBlock = some k → w.heap.size ≤ k ∧ k < w1.heap.size) := fun k e => ⟨by have h := k0.ge k e; omega, k0.lt k e⟩
  have BW := hb1
  clear hb1
  go_wp2_with fail
  refine (toByteS_c _ _ bs1 _ (r1.keep BW) hl1).mono ?_
  rintro e w2 ⟨u1, rfl, k1, hb2⟩
  obtain ⟨p1, q1, rfl, -⟩ := k1.rd
  have z2 : Hid (w1.heap.size ≤ w2.heap.size) := hb2.size
  have gk1 : Hid (∀ k, (Value.slice p1 bs1.length q1).ownBlock = some k → w1.heap.size ≤ k ∧ k < w2.heap.size) := fun k e => ⟨by have h := k1.ge k e; omega, k1.lt k e⟩
  replace k0 := k0.stay hb2
  replace BW := Below.step BW hb2
  clear hb2
  go_wp2_with fail
  refine (toByteS_c _ _ bs2 _ (r2.keep BW) hl2).mono ?_
  rintro e w3 ⟨u2, rfl, k2, hb3⟩
  obtain ⟨p2, q2, rfl, -⟩ := k2.rd
  have z3 : Hid (w2.heap.size ≤ w3.heap.size) := hb3.size
  have gk2 : Hid (∀ k, (Value.slice p2 bs2.length q2).ownBlock = some k → w2.heap.size ≤ k ∧ k < w3.heap.size) := fun k e => ⟨by have h := k2.ge k e; omega, k2.lt k e⟩
  replace k0 := k0.stay hb3
  replace k1 := k1.stay hb3
  replace BW := Below.step BW hb3
  clear hb3
  go_wp2_with fail
  refine (specSX_c p0 p1 p2 q0 q1 q2 bs0 bs1 bs2 _ (Rd.own k0) (Rd.own k1) (Rd.own k2)).mono ?_
  rintro e w4 ⟨us, rfl, ks, hb4⟩
  obtain ⟨ps, qs, rfl, -⟩ := ks.rd
  have z4 : Hid (w3.heap.size ≤ w4.heap.size) := hb4.size
  have gks : Hid (∀ k, (Value.slice ps (sxL bs0 bs1 bs2).length qs).ownBlock = some k → w3.heap.size ≤ k ∧ k < w4.heap.size) := fun k e => ⟨by have h := ks.ge k e; omega, ks.lt k e⟩
  replace k0 := k0.stay hb4
  replace k1 := k1.stay hb4
  replace k2 := k2.stay hb4
  replace BW := Below.step BW hb4
  clear hb4
  clear k0 k1 k2
  go_wp2_with fail
  refine (toByteS_c _ _ bs0 _ ((r0.keep BW).keep (alloc_below _ _)) hl0).mono ?_
  rintro e w5 ⟨u3, rfl, k3, hb5⟩
  obtain ⟨p3, q3, rfl, -⟩ := k3.rd
  have z5 : Hid (w4.heap.size < w5.heap.size) := size_lt hb5
  have gk3 : Hid (∀ k, (Value.slice p3 bs0.length q3).ownBlock = some k → w4.heap.size < k ∧ k < w5.heap.size) := fun k e => ⟨by have h := k3.ge k e; rw [size_alloc] at h; omega, k3.lt k e⟩
  have sA := Has.new hb5
  replace hb5 := Below.res hb5
  replace ks := ks.stay hb5
  replace BW := Below.step BW hb5
  clear hb5
  go_wp2_with fail
  refine (toByteS_c _ _ bs1 _ (r1.keep BW) hl1).mono ?_
  rintro e w6 ⟨u4, rfl, k4, hb6⟩
  obtain ⟨p4, q4, rfl, -⟩ := k4.rd
  have z6 : Hid (w5.heap.size ≤ w6.heap.size) := hb6.size
  have gk4 : Hid (∀ k, (Value.slice p4 bs1.length q4).ownBlock = some k → w5.heap.size ≤ k ∧ k < w6.heap.size) := fun k e => ⟨by have h := k4.ge k e; omega, k4.lt k e⟩
  replace ks := ks.stay hb6
  replace sA := sA.keep hb6
  replace k3 := k3.stay hb6
  replace BW := Below.step BW hb6
  clear hb6
  go_wp2_with fail
  refine (toByteS_c _ _ bs2 _ (r2.keep BW) hl2).mono ?_
  rintro e w7 ⟨u5, rfl, k5, hb7⟩
  obtain ⟨p5, q5, rfl, -⟩ := k5.rd
  have z7 : Hid (w6.heap.size ≤ w7.heap.size) := hb7.size
  have gk5 : Hid (∀ k, (Value.slice p5 bs2.length q5).ownBlock = some k → w6.heap.size ≤ k ∧ k < w7.heap.size) := fun k e => ⟨by have h := k5.ge k e; omega, k5.lt k e⟩
  replace ks := ks.stay hb7
  replace sA := sA.keep hb7
  replace k3 := k3.stay hb7
  replace k4 := k4.stay hb7
  replace BW := Below.step BW hb7
  clear hb7
  go_wp2_with fail
  refine (implSX_c p3 p4 p5 q3 q4 q5 bs0 bs1 bs2 _ (Rd.own k3) (Rd.own k4) (Rd.own k5)).mono ?_
  rintro e w8 ⟨ug, rfl, kg, hb8⟩
  obtain ⟨pg, qg, rfl, -⟩ := kg.rd
  have z8 : Hid (w7.heap.size ≤ w8.heap.size) := hb8.size
  have gkg : Hid (∀ k, (Value.slice pg (sxL bs0 bs1 bs2).length qg).ownBlock = some k → w7.heap.size ≤ k ∧ k < w8.heap.size) := fun k e => ⟨by have h := kg.ge k e; omega, kg.lt k e⟩
  replace ks := ks.stay hb8
  replace sA := sA.keep hb8
  replace k3 := k3.stay hb8
  replace k4 := k4.stay hb8
  replace k5 := k5.stay hb8
  replace BW := Below.step BW hb8
  clear hb8
  have csA0 := sA 0 _ rfl
  have csA1 := sA 1 _ rfl
  have zsA := sA.lt
  go_wp2_with fail
  refine (eqBytes2_c _ _ _ pg ps qg qs (sxL bs0 bs1 bs2) _ (kg.stay (alloc_below _ _)) (ks.stay (alloc_below _ _))).mono ?_
  rintro e w9 ⟨rfl, hb9⟩
  have z9 : Hid (w8.heap.size < w9.heap.size) := size_lt hb9
  have sB := Has.new hb9
  replace hb9 := Below.res hb9
  replace ks := ks.stay hb9
  replace sA := sA.keep hb9
  replace k3 := k3.stay hb9
  replace k4 := k4.stay hb9
  replace k5 := k5.stay hb9
  replace kg := kg.stay hb9
  replace BW := Below.step BW hb9
  clear hb9 csA0 csA1 zsA
  go_wp2_with fail
  refine (toByteS_c _ _ bs0 _ (r0.keep BW) hl0).mono ?_
  rintro e w10 ⟨u6, rfl, k6, hb10⟩
  obtain ⟨p6, q6, rfl, -⟩ := k6.rd
  have z10 : Hid (w9.heap.size ≤ w10.heap.size) := hb10.size
  have gk6 : Hid (∀ k, (Value.slice p6 bs0.length q6).ownBlock = some k → w9.heap.size ≤ k ∧ k < w10.heap.size) := fun k e => ⟨by have h := k6.ge k e; omega, k6.lt k e⟩
  replace ks := ks.stay hb10
  replace sA := sA.keep hb10
  replace k3 := k3.stay hb10
  replace k4 := k4.stay hb10
  replace k5 := k5.stay hb10
  replace kg := kg.stay hb10
  replace sB := sB.keep hb10
  replace BW := Below.step BW hb10
  clear hb10
  go_wp2_with fail
  refine (eqByteS_c p3 p6 q3 q6 bs0 _ (Rd.own k3) (Rd.own k6)).mono ?_
  rintro e w11 ⟨rfl, hb11⟩
  have z11 : Hid (w10.heap.size ≤ w11.heap.size) := hb11.size
  replace ks := ks.stay hb11
  replace sA := sA.keep hb11
  replace k3 := k3.stay hb11
  replace k4 := k4.stay hb11
  replace k5 := k5.stay hb11
  replace kg := kg.stay hb11
  replace sB := sB.keep hb11
  replace k6 := k6.stay hb11
  replace BW := Below.step BW hb11
  clear hb11
  clear k6
  go_wp2_with fail
  refine (toByteS_c _ _ bs1 _ (r1.keep BW) hl1).mono ?_
  rintro e w12 ⟨u7, rfl, k7, hb12⟩
  obtain ⟨p7, q7, rfl, -⟩ := k7.rd
  have z12 : Hid (w11.heap.size ≤ w12.heap.size) := hb12.size
  have gk7 : Hid (∀ k, (Value.slice p7 bs1.length q7).ownBlock = some k → w11.heap.size ≤ k ∧ k < w12.heap.size) := fun k e => ⟨by have h := k7.ge k e; omega, k7.lt k e⟩
  replace ks := ks.stay hb12
  replace sA := sA.keep hb12
  replace k3 := k3.stay hb12
  replace k4 := k4.stay hb12
  replace k5 := k5.stay hb12
  replace kg := kg.stay hb12
  replace sB := sB.keep hb12
  replace BW := Below.step BW hb12
  clear hb12
  go_wp2_with fail
  refine (eqByteS_c p4 p7 q4 q7 bs1 _ (Rd.own k4) (Rd.own k7)).mono ?_
  rintro e w13 ⟨rfl, hb13⟩
  have z13 : Hid (w12.heap.size ≤ w13.heap.size) := hb13.size
  replace ks := ks.stay hb13
  replace sA := sA.keep hb13
  replace k3 := k3.stay hb13
  replace k4 := k4.stay hb13
  replace k5 := k5.stay hb13
  replace kg := kg.stay hb13
  replace sB := sB.keep hb13
  replace k7 := k7.stay hb13
  replace BW := Below.step BW hb13
  clear hb13
  clear k7
  go_wp2_with fail
  refine (toByteS_c _ _ bs2 _ (r2.keep BW) hl2).mono ?_
  rintro e w14 ⟨u8, rfl, k8, hb14⟩
  obtain ⟨p8, q8, rfl, -⟩ := k8.rd
  have z14 : Hid (w13.heap.size ≤ w14.heap.size) := hb14.size
  have gk8 : Hid (∀ k, (Value.slice p8 bs2.length q8).ownBlock = some k → w13.heap.size ≤ k ∧ k < w14.heap.size) := fun k e => ⟨by have h := k8.ge k e; omega, k8.lt k e⟩
  replace ks := ks.stay hb14
  replace sA := sA.keep hb14
  replace k3 := k3.stay hb14
  replace k4 := k4.stay hb14
  replace k5 := k5.stay hb14
  replace kg := kg.stay hb14
  replace sB := sB.keep hb14
  replace BW := Below.step BW hb14
  clear hb14
  go_wp2_with fail
  refine (eqByteS_c p5 p8 q5 q8 bs2 _ (Rd.own k5) (Rd.own k8)).mono ?_
  rintro e w15 ⟨rfl, hb15⟩
  have z15 : Hid (w14.heap.size ≤ w15.heap.size) := hb15.size
  replace ks := ks.stay hb15
  replace sA := sA.keep hb15
  replace k3 := k3.stay hb15
  replace k4 := k4.stay hb15
  replace k5 := k5.stay hb15
  replace kg := kg.stay hb15
  replace sB := sB.keep hb15
  replace k8 := k8.stay hb15
  replace BW := Below.step BW hb15
  clear hb15
  clear k8
  go_wp2_with fail
  refine (markByteS_c1 _ _ bs0 _ k3 hl0).mono ?_
  rintro e w16 ⟨rfl, x3, hg⟩
  replace ks := ks.other hg (fun k hk e => by have h1 := gk3.out k e; have h2 := gks.out k hk; have := z1.out; have := z2.out; have := z3.out; have := z4.out; have := z5.out; have := z6.out; have := z7.out; have := z8.out; have := z9.out; have := z10.out; have := z11.out; have := z12.out; have := z13.out; have := z14.out; have := z15.out; omega)
  replace sA := sA.other hg (fun e => by have h1 := gk3.out _ e; have := z1.out; have := z2.out; have := z3.out; have := z4.out; have := z5.out; have := z6.out; have := z7.out; have := z8.out; have := z9.out; have := z10.out; have := z11.out; have := z12.out; have := z13.out; have := z14.out; have := z15.out; omega)
  replace k4 := k4.other hg (fun k hk e => by have h1 := gk3.out k e; have h2 := gk4.out k hk; have := z1.out; have := z2.out; have := z3.out; have := z4.out; have := z5.out; have := z6.out; have := z7.out; have := z8.out; have := z9.out; have := z10.out; have := z11.out; have := z12.out; have := z13.out; have := z14.out; have := z15.out; omega)
  replace k5 := k5.other hg (fun k hk e => by have h1 := gk3.out k e; have h2 := gk5.out k hk; have := z1.out; have := z2.out; have := z3.out; have := z4.out; have := z5.out; have := z6.out; have := z7.out; have := z8.out; have := z9.out; have := z10.out; have := z11.out; have := z12.out; have := z13.out; have := z14.out; have := z15.out; omega)
  replace kg := kg.other hg (fun k hk e => by have h1 := gk3.out k e; have h2 := gkg.out k hk; have := z1.out; have := z2.out; have := z3.out; have := z4.out; have := z5.out; have := z6.out; have := z7.out; have := z8.out; have := z9.out; have := z10.out; have := z11.out; have := z12.out; have := z13.out; have := z14.out; have := z15.out; omega)
  replace sB := sB.other hg (fun e => by have h1 := gk3.out _ e; have := z1.out; have := z2.out; have := z3.out; have := z4.out; have := z5.out; have := z6.out; have := z7.out; have := z8.out; have := z9.out; have := z10.out; have := z11.out; have := z12.out; have := z13.out; have := z14.out; have := z15.out; omega)
  have z16 : Hid (w15.heap.size ≤ w16.heap.size) := hg.size
  replace BW := BW.grown hg BW.size (fun k e => by have h1 := gk3.out k e; have := z1.out; have := z2.out; have := z3.out; have := z4.out; have := z5.out; have := z6.out; have := z7.out; have := z8.out; have := z9.out; have := z10.out; have := z11.out; have := z12.out; have := z13.out; have := z14.out; have := z15.out; omega)
  have gx3 := gk3
  clear hg k3 gk3
  clear x3
  go_wp2_with fail
  refine (markByteS_cn _ _ _ bs1 _ k4 (by omega) (by omega) hl1).mono ?_
  rintro e w17 ⟨rfl, x4, hg⟩
  replace ks := ks.other hg (fun k hk e => by have h1 := gk4.out k e; have h2 := gks.out k hk; have := z1.out; have := z2.out; have := z3.out; have := z4.out; have := z5.out; have := z6.out; have := z7.out; have := z8.out; have := z9.out; have := z10.out; have := z11.out; have := z12.out; have := z13.out; have := z14.out; have := z15.out; have := z16.out; omega)
  replace sA := sA.other hg (fun e => by have h1 := gk4.out _ e; have := z1.out; have := z2.out; have := z3.out; have := z4.out; have := z5.out; have := z6.out; have := z7.out; have := z8.out; have := z9.out; have := z10.out; have := z11.out; have := z12.out; have := z13.out; have := z14.out; have := z15.out; have := z16.out; omega)
  replace k5 := k5.other hg (fun k hk e => by have h1 := gk4.out k e; have h2 := gk5.out k hk; have := z1.out; have := z2.out; have := z3.out; have := z4.out; have := z5.out; have := z6.out; have := z7.out; have := z8.out; have := z9.out; have := z10.out; have := z11.out; have := z12.out; have := z13.out; have := z14.out; have := z15.out; have := z16.out; omega)
  replace kg := kg.other hg (fun k hk e => by have h1 := gk4.out k e; have h2 := gkg.out k hk; have := z1.out; have := z2.out; have := z3.out; have := z4.out; have := z5.out; have := z6.out; have := z7.out; have := z8.out; have := z9.out; have := z10.out; have := z11.out; have := z12.out; have := z13.out; have := z14.out; have := z15.out; have := z16.out; omega)
  replace sB := sB.other hg (fun e => by have h1 := gk4.out _ e; have := z1.out; have := z2.out; have := z3.out; have := z4.out; have := z5.out; have := z6.out; have := z7.out; have := z8.out; have := z9.out; have := z10.out; have := z11.out; have := z12.out; have := z13.out; have := z14.out; have := z15.out; have := z16.out; omega)
  have z17 : Hid (w16.heap.size ≤ w17.heap.size) := hg.size
  replace BW := BW.grown hg BW.size (fun k e => by have h1 := gk4.out k e; have := z1.out; have := z2.out; have := z3.out; have := z4.out; have := z5.out; have := z6.out; have := z7.out; have := z8.out; have := z9.out; have := z10.out; have := z11.out; have := z12.out; have := z13.out; have := z14.out; have := z15.out; have := z16.out; omega)
  have gx4 := gk4
  clear hg k4 gk4
  clear x4
  go_wp2_with fail
  refine (markByteS_cn _ _ _ bs2 _ k5 (by omega) (by omega) hl2).mono ?_
  rintro e w18 ⟨rfl, x5, hg⟩
  replace ks := ks.other hg (fun k hk e => by have h1 := gk5.out k e; have h2 := gks.out k hk; have := z1.out; have := z2.out; have := z3.out; have := z4.out; have := z5.out; have := z6.out; have := z7.out; have := z8.out; have := z9.out; have := z10.out; have := z11.out; have := z12.out; have := z13.out; have := z14.out; have := z15.out; have := z16.out; have := z17.out; omega)
  replace sA := sA.other hg (fun e => by have h1 := gk5.out _ e; have := z1.out; have := z2.out; have := z3.out; have := z4.out; have := z5.out; have := z6.out; have := z7.out; have := z8.out; have := z9.out; have := z10.out; have := z11.out; have := z12.out; have := z13.out; have := z14.out; have := z15.out; have := z16.out; have := z17.out; omega)
  replace kg := kg.other hg (fun k hk e => by have h1 := gk5.out k e; have h2 := gkg.out k hk; have := z1.out; have := z2.out; have := z3.out; have := z4.out; have := z5.out; have := z6.out; have := z7.out; have := z8.out; have := z9.out; have := z10.out; have := z11.out; have := z12.out; have := z13.out; have := z14.out; have := z15.out; have := z16.out; have := z17.out; omega)
  replace sB := sB.other hg (fun e => by have h1 := gk5.out _ e; have := z1.out; have := z2.out; have := z3.out; have := z4.out; have := z5.out; have := z6.out; have := z7.out; have := z8.out; have := z9.out; have := z10.out; have := z11.out; have := z12.out; have := z13.out; have := z14.out; have := z15.out; have := z16.out; have := z17.out; omega)
  have z18 : Hid (w17.heap.size ≤ w18.heap.size) := hg.size
  replace BW := BW.grown hg BW.size (fun k e => by have h1 := gk5.out k e; have := z1.out; have := z2.out; have := z3.out; have := z4.out; have := z5.out; have := z6.out; have := z7.out; have := z8.out; have := z9.out; have := z10.out; have := z11.out; have := z12.out; have := z13.out; have := z14.out; have := z15.out; have := z16.out; have := z17.out; omega)
  have gx5 := gk5
  clear hg k5 gk5
  clear x5
  have csA0 := sA 0 _ rfl
  have csA1 := sA 1 _ rfl
  have zsA := sA.lt
  have csB0 := sB 0 _ rfl
  have csB1 := sB 1 _ rfl
  have zsB := sB.lt
  go_wp2_with fail
  refine (eqBytes2_c _ _ _ pg ps qg qs (sxL bs0 bs1 bs2) _ kg ks).mono ?_
  rintro e w19 ⟨rfl, hb19⟩
  have z19 : Hid (w18.heap.size ≤ w19.heap.size) := hb19.size
  replace ks := ks.stay hb19
  replace sA := sA.keep hb19
  replace kg := kg.stay hb19
  replace sB := sB.keep hb19
  replace BW := Below.step BW hb19
  clear hb19 csA0 csA1 zsA csB0 csB1 zsB
  have csB0 := sB 0 _ rfl
  have csB1 := sB 1 _ rfl
  have zsB := sB.lt
  go_wp2_with fail
  refine (markBytes1_c _ _ _ (sxL bs0 bs1 bs2) _ kg hlen).mono ?_
  rintro e w20 ⟨rfl, km, hg⟩
  replace ks := ks.other hg (fun k hk e => by have h1 := gkg.out k e; have h2 := gks.out k hk; have := z1.out; have := z2.out; have := z3.out; have := z4.out; have := z5.out; have := z6.out; have := z7.out; have := z8.out; have := z9.out; have := z10.out; have := z11.out; have := z12.out; have := z13.out; have := z14.out; have := z15.out; have := z16.out; have := z17.out; have := z18.out; have := z19.out; omega)
  replace sA := sA.other hg (fun e => by have h1 := gkg.out _ e; have := z1.out; have := z2.out; have := z3.out; have := z4.out; have := z5.out; have := z6.out; have := z7.out; have := z8.out; have := z9.out; have := z10.out; have := z11.out; have := z12.out; have := z13.out; have := z14.out; have := z15.out; have := z16.out; have := z17.out; have := z18.out; have := z19.out; omega)
  replace sB := sB.other hg (fun e => by have h1 := gkg.out _ e; have := z1.out; have := z2.out; have := z3.out; have := z4.out; have := z5.out; have := z6.out; have := z7.out; have := z8.out; have := z9.out; have := z10.out; have := z11.out; have := z12.out; have := z13.out; have := z14.out; have := z15.out; have := z16.out; have := z17.out; have := z18.out; have := z19.out; omega)
  have z20 : Hid (w19.heap.size ≤ w20.heap.size) := hg.size
  replace BW := BW.grown hg BW.size (fun k e => by have h1 := gkg.out k e; have := z1.out; have := z2.out; have := z3.out; have := z4.out; have := z5.out; have := z6.out; have := z7.out; have := z8.out; have := z9.out; have := z10.out; have := z11.out; have := z12.out; have := z13.out; have := z14.out; have := z15.out; have := z16.out; have := z17.out; have := z18.out; have := z19.out; omega)
  have gkm := gkg
  clear hg kg gkg csB0 csB1 zsB
  have csB0 := sB 0 _ rfl
  have csB1 := sB 1 _ rfl
  have zsB := sB.lt
  go_wp2_with fail
  refine (heldBytes1_c _ _ pg qg (sxL bs0 bs1 bs2).length _ km hlen).mono ?_
  rintro e w21 ⟨rfl, hb21⟩
  have z21 : Hid (w20.heap.size ≤ w21.heap.size) := hb21.size
  replace ks := ks.stay hb21
  replace sA := sA.keep hb21
  replace sB := sB.keep hb21
  replace km := km.stay hb21
  replace BW := Below.step BW hb21
  clear hb21 csB0 csB1 zsB
  go_wp2_with fail
  refine (toByteS_c _ _ bs0 _ (r0.keep BW) hl0).mono ?_
  rintro e w22 ⟨u9, rfl, k9, hb22⟩
  obtain ⟨p9, q9, rfl, -⟩ := k9.rd
  have z22 : Hid (w21.heap.size ≤ w22.heap.size) := hb22.size
  have gk9 : Hid (∀ k, (Value.slice p9 bs0.length q9).ownBlock = some k → w21.heap.size ≤ k ∧ k < w22.heap.size) := fun k e => ⟨by have h := k9.ge k e; omega, k9.lt k e⟩
  replace ks := ks.stay hb22
  replace sA := sA.keep hb22
  replace sB := sB.keep hb22
  replace km := km.stay hb22
  replace BW := Below.step BW hb22
  clear hb22
  go_wp2_with fail
  refine (toByteS_c _ _ bs1 _ (r1.keep BW) hl1).mono ?_
  rintro e w23 ⟨u10, rfl, k10, hb23⟩
  obtain ⟨p10, q10, rfl, -⟩ := k10.rd
  have z23 : Hid (w22.heap.size ≤ w23.heap.size) := hb23.size
  have gk10 : Hid (∀ k, (Value.slice p10 bs1.length q10).ownBlock = some k → w22.heap.size ≤ k ∧ k < w23.heap.size) := fun k e => ⟨by have h := k10.ge k e; omega, k10.lt k e⟩
  replace ks := ks.stay hb23
  replace sA := sA.keep hb23
  replace sB := sB.keep hb23
  replace km := km.stay hb23
  replace k9 := k9.stay hb23
  replace BW := Below.step BW hb23
  clear hb23
  go_wp2_with fail
  refine (toByteS_c _ _ bs2 _ (r2.keep BW) hl2).mono ?_
  rintro e w24 ⟨u11, rfl, k11, hb24⟩
  obtain ⟨p11, q11, rfl, -⟩ := k11.rd
  have z24 : Hid (w23.heap.size ≤ w24.heap.size) := hb24.size
  have gk11 : Hid (∀ k, (Value.slice p11 bs2.length q11).ownBlock = some k → w23.heap.size ≤ k ∧ k < w24.heap.size) := fun k e => ⟨by have h := k11.ge k e; omega, k11.lt k e⟩
  replace ks := ks.stay hb24
  replace sA := sA.keep hb24
  replace sB := sB.keep hb24
  replace km := km.stay hb24
  replace k9 := k9.stay hb24
  replace k10 := k10.stay hb24
  replace BW := Below.step BW hb24
  clear hb24
  go_wp2_with fail
  refine (implSX_c p9 p10 p11 q9 q10 q11 bs0 bs1 bs2 _ (Rd.own k9) (Rd.own k10) (Rd.own k11)).mono ?_
  rintro e w25 ⟨uh, rfl, kh, hb25⟩
  obtain ⟨ph, qh, rfl, -⟩ := kh.rd
  have z25 : Hid (w24.heap.size ≤ w25.heap.size) := hb25.size
  have gkh : Hid (∀ k, (Value.slice ph (sxL bs0 bs1 bs2).length qh).ownBlock = some k → w24.heap.size ≤ k ∧ k < w25.heap.size) := fun k e => ⟨by have h := kh.ge k e; omega, kh.lt k e⟩
  replace ks := ks.stay hb25
  replace sA := sA.keep hb25
  replace sB := sB.keep hb25
  replace km := km.stay hb25
  replace k9 := k9.stay hb25
  replace k10 := k10.stay hb25
  replace k11 := k11.stay hb25
  replace BW := Below.step BW hb25
  clear hb25
  clear k9 k10 k11
  have csA0 := sA 0 _ rfl
  have csA1 := sA 1 _ rfl
  have zsA := sA.lt
  go_wp2_with fail
  refine (eqBytes2_c _ _ _ ph ps qh qs (sxL bs0 bs1 bs2) _ (kh.stay (alloc_below _ _)) (ks.stay (alloc_below _ _))).mono ?_
  rintro e w26 ⟨rfl, hb26⟩
  have z26 : Hid (w25.heap.size < w26.heap.size) := size_lt hb26
  have sC := Has.new hb26
  replace hb26 := Below.res hb26
  replace ks := ks.stay hb26
  replace sA := sA.keep hb26
  replace sB := sB.keep hb26
  replace km := km.stay hb26
  replace kh := kh.stay hb26
  replace BW := Below.step BW hb26
  clear hb26 csA0 csA1 zsA
  clear sC sA ks kh
  have csB0 := sB 0 _ rfl
  have csB1 := sB 1 _ rfl
  have zsB := sB.lt
  go_wp2_with fail
  refine (heldBytes1_c _ _ pg qg (sxL bs0 bs1 bs2).length _ km hlen).mono ?_
  rintro e w27 ⟨rfl, hb27⟩
  have z27 : Hid (w26.heap.size ≤ w27.heap.size) := hb27.size
  replace sB := sB.keep hb27
  replace km := km.stay hb27
  replace BW := Below.step BW hb27
  clear hb27 csB0 csB1 zsB
  go_wp2
  go_ret
  exact ⟨rfl, BW⟩

/-! The row's step. -/
set_option maxRecDepth 100000 in
theorem lifted (os : Os) (started : os.Started) (H : Type) (enc : TypeId × Value → H) :
    ReturnsInHanded {} Try.checked os 8 .any (Rows.fnExactStreamXorSpec.pre6 enc Try.prog Try.f8 Rows.fnExactStreamXorRow.domain false) (Rows.fnExactStreamXorSpec.post enc Try.prog Try.f8 false true false false) := by
  refine returnsInHanded_of_change (C := Try.checked) own started (by kernel_rfl) Try.func8
    (ChangeSpec.witness6 (enc := enc) (C := Try.checked) false ⟨#[], #[.slice none 0 0, .slice none 0 0, .slice none 0 0], []⟩ 8 (by kernel_rfl) (by kernel_rfl) (by kernel_rfl) (by kernel_rfl)) ?_
  intro W base args ds gs before hval0 hW hcnd _
  have hval : ∀ (j : Nat) t v, Try.f8.params[j]? = some t → args[j]? = some v → Value.okWide Try.prog W .any base t v := hval0
  have hW' := hW
  obtain ⟨p, q, hA0, hV, rfl, hfz, hnd⟩ := hW
  have hA : DataW.TrodAll enc Try.prog W 0 (fun _ => true) true Try.f8.params.toList args.toList ds p := hA0
  rw [Try.params8] at hA hval
  obtain ⟨v0, vs0, d0, ds0, p0, q0, hargs, rfl, rfl, h0, r0⟩ := trodAll_cons hA
  obtain ⟨v1, vs1, d1, ds1, p1, q1, rfl, rfl, rfl, h1, r1⟩ := trodAll_cons r0
  obtain ⟨v2, vs2, d2, ds2, p2, q2, rfl, rfl, rfl, h2, r2⟩ := trodAll_cons r1
  obtain ⟨rfl, rfl, rfl⟩ := trodAll_nil r2
  obtain rfl : args = #[v0, v1, v2] := by cases args; simp_all
  obtain ⟨rfl, rfl⟩ := trodVars_none hV
  obtain ⟨a0, len0, cap0, rfl⟩ := okWide_slice Try.underlying22 (hval 0 22 v0 rfl rfl)
  have k0 := h0
  have lt0 : ∀ x ∈ p0, x.block < W.heap.size := by obtain ⟨m, hm⟩ := k0; exact DataW.trod_lt m _ _ _ hm
  obtain ⟨z0, w0⟩ : ∃ zs, IsRow .u8 W a0 len0 cap0 zs := by
    obtain ⟨fuel, hf⟩ := h0
    rcases open_ints Try.underlying22 Try.underlying5 (by kernel_rfl) hf with ⟨hcs, _⟩ | ⟨x, l, c, zs, hcs, _, hl, hm, hz, _, hcell, hwz⟩
    · simp [Value.cells] at hcs
      obtain ⟨rfl, rfl, rfl⟩ := hcs
      exact ⟨[], .inl ⟨rfl, rfl, rfl, rfl⟩⟩
    · simp [Value.cells] at hcs
      obtain ⟨rfl, rfl, rfl⟩ := hcs
      exact ⟨zs, .inr ⟨_, rfl, hl, hm, by simpa using hz, hcell, hwz⟩⟩
  obtain ⟨a1, len1, cap1, rfl⟩ := okWide_slice Try.underlying22 (hval 1 22 v1 rfl rfl)
  have k1 := h1
  have lt1 : ∀ x ∈ p1, x.block < W.heap.size := by obtain ⟨m, hm⟩ := k1; exact DataW.trod_lt m _ _ _ hm
  obtain ⟨z1, w1⟩ : ∃ zs, IsRow .u8 W a1 len1 cap1 zs := by
    obtain ⟨fuel, hf⟩ := h1
    rcases open_ints Try.underlying22 Try.underlying5 (by kernel_rfl) hf with ⟨hcs, _⟩ | ⟨x, l, c, zs, hcs, _, hl, hm, hz, _, hcell, hwz⟩
    · simp [Value.cells] at hcs
      obtain ⟨rfl, rfl, rfl⟩ := hcs
      exact ⟨[], .inl ⟨rfl, rfl, rfl, rfl⟩⟩
    · simp [Value.cells] at hcs
      obtain ⟨rfl, rfl, rfl⟩ := hcs
      exact ⟨zs, .inr ⟨_, rfl, hl, hm, by simpa using hz, hcell, hwz⟩⟩
  obtain ⟨a2, len2, cap2, rfl⟩ := okWide_slice Try.underlying22 (hval 2 22 v2 rfl rfl)
  have k2 := h2
  have lt2 : ∀ x ∈ p2, x.block < W.heap.size := by obtain ⟨m, hm⟩ := k2; exact DataW.trod_lt m _ _ _ hm
  obtain ⟨z2, w2⟩ : ∃ zs, IsRow .u8 W a2 len2 cap2 zs := by
    obtain ⟨fuel, hf⟩ := h2
    rcases open_ints Try.underlying22 Try.underlying5 (by kernel_rfl) hf with ⟨hcs, _⟩ | ⟨x, l, c, zs, hcs, _, hl, hm, hz, _, hcell, hwz⟩
    · simp [Value.cells] at hcs
      obtain ⟨rfl, rfl, rfl⟩ := hcs
      exact ⟨[], .inl ⟨rfl, rfl, rfl, rfl⟩⟩
    · simp [Value.cells] at hcs
      obtain ⟨rfl, rfl, rfl⟩ := hcs
      exact ⟨zs, .inr ⟨_, rfl, hl, hm, by simpa using hz, hcell, hwz⟩⟩
  clear hA0 hval0
  refine (walk a0 len0 cap0 z0 a1 len1 cap1 z1 a2 len2 cap2 z2 W w0 w1 w2).mono fun e W' ⟨he, bel⟩ => ?_
  subst he
  exact ⟨_, rfl, _, _, _, [], _, [], hW', trodAll_mk1 (shut_bool Try.underlying4 _), (trodAll_cons_mk (Below.trod laidOut (by kernel_rfl) (of_decide_eq_true (by kernel_rfl)) k0 bel lt0) (trodAll_cons_mk (Below.trod laidOut (by kernel_rfl) (of_decide_eq_true (by kernel_rfl)) k1 bel lt1) (trodAll_cons_mk (Below.trod laidOut (by kernel_rfl) (of_decide_eq_true (by kernel_rfl)) k2 bel lt2) trodAll_mk0))), rfl, bel.frame _, fun h => by cases h⟩

theorem over : Rows.fnExactStreamXorRow.holds Try.pinned (OpenSpec.ofChange Rows.fnExactStreamXorSpec) :=
  OpenClaim.holds_of_wide 8 Try.f8 rfl rfl rfl rfl rfl rfl rfl ⟨rfl, rfl, rfl, rfl, rfl⟩ rfl rfl rfl rfl rfl (by kernel_rfl) Try.func8 (by kernel_rfl)
    (of_decide_eq_true (by kernel_rfl)) (by unfold Func.isWrapper; first | (rw [if_pos (by decide +kernel)]; kernel_rfl) | (rw [if_neg (by decide +kernel)]; exact ⟨rfl, rfl⟩))
    (fun os started H enc _ => lifted os started H enc)

/-- The given statement. -/
theorem proved : Rows.FnExactStreamXorSaid := over
end Go.Proofs.Ytohcohinggjdpaa.fnExactStreamXor

namespace Go.Proofs.Ytohcohinggjdpaa
theorem fnExactStreamXor_holds : Rows.FnExactStreamXorSaid := fnExactStreamXor.proved
end Go.Proofs.Ytohcohinggjdpaa
