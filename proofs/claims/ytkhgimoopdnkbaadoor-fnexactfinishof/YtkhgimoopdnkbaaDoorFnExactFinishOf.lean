/- FinishOf of the program answers as the specification's, code and bytes, leaves its arguments alone, and its answer owns its memory, behind another call too; the two tables of the program's text are tied to it by the card. For every argument; no condition. The frame is the one that the guide's program writes; the walk and its contracts are ours. -/
import Derived.Test.YtkhgimoopdnkbaaDoorRows
import Derived.WalkKit
import Derived.ProofKit
import Derived.OpenShut
import Derived.ShutString
import Derived.ChangeOld
import Derived.Below
import Derived.Test.YtkhgimoopdnkbaaDoorFinI
import Derived.Test.YtkhgimoopdnkbaaDoorEqBytes
import Derived.Test.YtkhgimoopdnkbaaDoorLaid
import Derived.Test.YtkhgimoopdnkbaaDoorCards
import Derived.Test.YtkhgimoopdnkbaaDoorTie
import Derived.OpenVars
import Derived.LaidMore
import Derived.Stop.Joined
import Derived.SevenTiedAt
namespace Go.Proofs.YtkhgimoopdnkbaaDoor.fnExactFinishOf
open Go.ChangeShapes Go.WideShapes Go.ChangeAt Go.RowKit
open Go.ChangeMaps (open_string shut_string)
set_option linter.unusedVariables false

theorem own : ownKnob Tryd.prog.godebug = none := by kernel_rfl
theorem laidOut : laidOutB Tryd.prog = true := by kernel_rfl

def IsRow (k : IntKind) (w : World) (a : Option Addr) (len cap : Nat) (zs : List Int) : Prop :=
  (a = none ∧ len = 0 ∧ cap = 0 ∧ zs = []) ∨
  ∃ x, a = some x ∧ len ≤ cap ∧ cap ≤ maxLen ∧ zs.length = cap ∧ (∀ i, i < zs.length → w.cell? (x.add i) = some (.int k (zs.getD i 0))) ∧ ∀ n ∈ zs, (Lit.int k n).wf = true


/-! The walk. -/
theorem walk (a0 : Option Addr) (len0 cap0 : Nat) (z0 : List Int) (a1 : Option Addr) (len1 cap1 : Nat) (z1 : List Int) (w : World) (w0 : IsRow .u8 w a0 len0 cap0 z0) (w1 : IsRow .u8 w a1 len1 cap1 z1) (hT : Tabs w) :
    Calls Tryd.prog 7 #[.slice a0 len0 cap0, .slice a1 len1 cap1] w fun e w' => e = .returned (.bool true) ∧ Below w.heap.size w w' := by
  obtain ⟨bs0, rfl, r0⟩ := rd_of w0
  clear w0
  obtain ⟨bs1, rfl, r1⟩ := rd_of w1
  clear w1
  by_cases hl0 : 1048576 < bs0.length
  · go_enter Tryd.func7, Tryd.ntmps7
    go_wp2
    go_ret
    exact ⟨rfl, Below.refl _ _⟩
  replace hl0 : bs0.length ≤ 1048576 := by omega
  by_cases hl1 : 1048576 < bs1.length
  · go_enter Tryd.func7, Tryd.ntmps7
    go_wp2
    go_ret
    exact ⟨rfl, Below.refl _ _⟩
  replace hl1 : bs1.length ≤ 1048576 := by omega
  have hlen := fnL_len bs0 bs1
  go_enter Tryd.func7, Tryd.ntmps7
  go_wp2_with fail
  refine (toByteS_c _ _ bs0 _ r0 hl0).mono ?_
  rintro e w1 ⟨u0, rfl, k0, hb1⟩
  obtain ⟨p0, q0, rfl, -⟩ := k0.rd
  have z1 : Hid (w.heap.size ≤ w1.heap.size) := hb1.size
  have gk0 : Hid (∀ k, (Value.slice p0 bs0.length q0).ownBlock = some k → w.heap.size ≤ k ∧ k < w1.heap.size) := fun k e => ⟨by have h := k0.ge k e; omega, k0.lt k e⟩
  have BW := hb1
  clear hb1
  go_wp2_with fail
  refine (toByteS_c _ _ bs1 _ (r1.keep BW) hl1).mono ?_
  rintro e w2 ⟨u1, rfl, k1, hb2⟩
  obtain ⟨p1, q1, rfl, -⟩ := k1.rd
  have z2 : Hid (w1.heap.size ≤ w2.heap.size) := hb2.size
  have gk1 : Hid (∀ k, (Value.slice p1 bs1.length q1).ownBlock = some k → w1.heap.size ≤ k ∧ k < w2.heap.size) := fun k e => ⟨by have h := k1.ge k e; omega, k1.lt k e⟩
  replace k0 := k0.stay hb2
  replace BW := Below.step BW hb2
  clear hb2
  go_wp2_with fail
  refine (specFn_c p0 p1 q0 q1 bs0 bs1 _ (Rd.own k0) (Rd.own k1)).mono ?_
  rintro e w3 ⟨us, rfl, ks, hb3⟩
  obtain ⟨ps, qs, rfl, -⟩ := ks.rd
  have z3 : Hid (w2.heap.size ≤ w3.heap.size) := hb3.size
  have gks : Hid (∀ k, (Value.slice ps (fnL bs0 bs1).length qs).ownBlock = some k → w2.heap.size ≤ k ∧ k < w3.heap.size) := fun k e => ⟨by have h := ks.ge k e; omega, ks.lt k e⟩
  replace k0 := k0.stay hb3
  replace k1 := k1.stay hb3
  replace BW := Below.step BW hb3
  clear hb3
  clear k0 k1
  go_wp2_with fail
  refine (toByteS_c _ _ bs0 _ ((r0.keep BW).keep (alloc_below _ _)) hl0).mono ?_
  rintro e w4 ⟨u2, rfl, k2, hb4⟩
  obtain ⟨p2, q2, rfl, -⟩ := k2.rd
  have z4 : Hid (w3.heap.size < w4.heap.size) := size_lt hb4
  have gk2 : Hid (∀ k, (Value.slice p2 bs0.length q2).ownBlock = some k → w3.heap.size < k ∧ k < w4.heap.size) := fun k e => ⟨by have h := k2.ge k e; rw [size_alloc] at h; omega, k2.lt k e⟩
  have sA := Has.new hb4
  replace hb4 := Below.res hb4
  replace ks := ks.stay hb4
  replace BW := Below.step BW hb4
  clear hb4
  go_wp2_with fail
  refine (toByteS_c _ _ bs1 _ (r1.keep BW) hl1).mono ?_
  rintro e w5 ⟨u3, rfl, k3, hb5⟩
  obtain ⟨p3, q3, rfl, -⟩ := k3.rd
  have z5 : Hid (w4.heap.size ≤ w5.heap.size) := hb5.size
  have gk3 : Hid (∀ k, (Value.slice p3 bs1.length q3).ownBlock = some k → w4.heap.size ≤ k ∧ k < w5.heap.size) := fun k e => ⟨by have h := k3.ge k e; omega, k3.lt k e⟩
  replace ks := ks.stay hb5
  replace sA := sA.keep hb5
  replace k2 := k2.stay hb5
  replace BW := Below.step BW hb5
  clear hb5
  go_wp2_with fail
  refine (implFn_c p2 p3 q2 q3 bs0 bs1 _ (Rd.own k2) (Rd.own k3) (hT.keep BW)).mono ?_
  rintro e w6 ⟨ug, rfl, kg, hb6⟩
  obtain ⟨pg, qg, rfl, -⟩ := kg.rd
  have z6 : Hid (w5.heap.size ≤ w6.heap.size) := hb6.size
  have gkg : Hid (∀ k, (Value.slice pg (fnL bs0 bs1).length qg).ownBlock = some k → w5.heap.size ≤ k ∧ k < w6.heap.size) := fun k e => ⟨by have h := kg.ge k e; omega, kg.lt k e⟩
  replace ks := ks.stay hb6
  replace sA := sA.keep hb6
  replace k2 := k2.stay hb6
  replace k3 := k3.stay hb6
  replace BW := Below.step BW hb6
  clear hb6
  have csA0 := sA 0 _ rfl
  have csA1 := sA 1 _ rfl
  have zsA := sA.lt
  go_wp2_with fail
  refine (eqBytes2_c _ _ _ pg ps qg qs (fnL bs0 bs1) _ (kg.stay (alloc_below _ _)) (ks.stay (alloc_below _ _))).mono ?_
  rintro e w7 ⟨rfl, hb7⟩
  have z7 : Hid (w6.heap.size < w7.heap.size) := size_lt hb7
  have sB := Has.new hb7
  replace hb7 := Below.res hb7
  replace ks := ks.stay hb7
  replace sA := sA.keep hb7
  replace k2 := k2.stay hb7
  replace k3 := k3.stay hb7
  replace kg := kg.stay hb7
  replace BW := Below.step BW hb7
  clear hb7 csA0 csA1 zsA
  go_wp2_with fail
  refine (toByteS_c _ _ bs0 _ (r0.keep BW) hl0).mono ?_
  rintro e w8 ⟨u4, rfl, k4, hb8⟩
  obtain ⟨p4, q4, rfl, -⟩ := k4.rd
  have z8 : Hid (w7.heap.size ≤ w8.heap.size) := hb8.size
  have gk4 : Hid (∀ k, (Value.slice p4 bs0.length q4).ownBlock = some k → w7.heap.size ≤ k ∧ k < w8.heap.size) := fun k e => ⟨by have h := k4.ge k e; omega, k4.lt k e⟩
  replace ks := ks.stay hb8
  replace sA := sA.keep hb8
  replace k2 := k2.stay hb8
  replace k3 := k3.stay hb8
  replace kg := kg.stay hb8
  replace sB := sB.keep hb8
  replace BW := Below.step BW hb8
  clear hb8
  go_wp2_with fail
  refine (eqByteS_c p2 p4 q2 q4 bs0 _ (Rd.own k2) (Rd.own k4)).mono ?_
  rintro e w9 ⟨rfl, hb9⟩
  have z9 : Hid (w8.heap.size ≤ w9.heap.size) := hb9.size
  replace ks := ks.stay hb9
  replace sA := sA.keep hb9
  replace k2 := k2.stay hb9
  replace k3 := k3.stay hb9
  replace kg := kg.stay hb9
  replace sB := sB.keep hb9
  replace k4 := k4.stay hb9
  replace BW := Below.step BW hb9
  clear hb9
  clear k4
  go_wp2_with fail
  refine (toByteS_c _ _ bs1 _ (r1.keep BW) hl1).mono ?_
  rintro e w10 ⟨u5, rfl, k5, hb10⟩
  obtain ⟨p5, q5, rfl, -⟩ := k5.rd
  have z10 : Hid (w9.heap.size ≤ w10.heap.size) := hb10.size
  have gk5 : Hid (∀ k, (Value.slice p5 bs1.length q5).ownBlock = some k → w9.heap.size ≤ k ∧ k < w10.heap.size) := fun k e => ⟨by have h := k5.ge k e; omega, k5.lt k e⟩
  replace ks := ks.stay hb10
  replace sA := sA.keep hb10
  replace k2 := k2.stay hb10
  replace k3 := k3.stay hb10
  replace kg := kg.stay hb10
  replace sB := sB.keep hb10
  replace BW := Below.step BW hb10
  clear hb10
  go_wp2_with fail
  refine (eqByteS_c p3 p5 q3 q5 bs1 _ (Rd.own k3) (Rd.own k5)).mono ?_
  rintro e w11 ⟨rfl, hb11⟩
  have z11 : Hid (w10.heap.size ≤ w11.heap.size) := hb11.size
  replace ks := ks.stay hb11
  replace sA := sA.keep hb11
  replace k2 := k2.stay hb11
  replace k3 := k3.stay hb11
  replace kg := kg.stay hb11
  replace sB := sB.keep hb11
  replace k5 := k5.stay hb11
  replace BW := Below.step BW hb11
  clear hb11
  clear k5
  go_wp2_with fail
  refine (markByteS_c1 _ _ bs0 _ k2 hl0).mono ?_
  rintro e w12 ⟨rfl, x2, hg⟩
  replace ks := ks.other hg (fun k hk e => by have h1 := gk2.out k e; have h2 := gks.out k hk; have := z1.out; have := z2.out; have := z3.out; have := z4.out; have := z5.out; have := z6.out; have := z7.out; have := z8.out; have := z9.out; have := z10.out; have := z11.out; omega)
  replace sA := sA.other hg (fun e => by have h1 := gk2.out _ e; have := z1.out; have := z2.out; have := z3.out; have := z4.out; have := z5.out; have := z6.out; have := z7.out; have := z8.out; have := z9.out; have := z10.out; have := z11.out; omega)
  replace k3 := k3.other hg (fun k hk e => by have h1 := gk2.out k e; have h2 := gk3.out k hk; have := z1.out; have := z2.out; have := z3.out; have := z4.out; have := z5.out; have := z6.out; have := z7.out; have := z8.out; have := z9.out; have := z10.out; have := z11.out; omega)
  replace kg := kg.other hg (fun k hk e => by have h1 := gk2.out k e; have h2 := gkg.out k hk; have := z1.out; have := z2.out; have := z3.out; have := z4.out; have := z5.out; have := z6.out; have := z7.out; have := z8.out; have := z9.out; have := z10.out; have := z11.out; omega)
  replace sB := sB.other hg (fun e => by have h1 := gk2.out _ e; have := z1.out; have := z2.out; have := z3.out; have := z4.out; have := z5.out; have := z6.out; have := z7.out; have := z8.out; have := z9.out; have := z10.out; have := z11.out; omega)
  have z12 : Hid (w11.heap.size ≤ w12.heap.size) := hg.size
  replace BW := BW.grown hg BW.size (fun k e => by have h1 := gk2.out k e; have := z1.out; have := z2.out; have := z3.out; have := z4.out; have := z5.out; have := z6.out; have := z7.out; have := z8.out; have := z9.out; have := z10.out; have := z11.out; omega)
  have gx2 := gk2
  clear hg k2 gk2
  clear x2
  go_wp2_with fail
  refine (markByteS_cn _ _ _ bs1 _ k3 (by omega) (by omega) hl1).mono ?_
  rintro e w13 ⟨rfl, x3, hg⟩
  replace ks := ks.other hg (fun k hk e => by have h1 := gk3.out k e; have h2 := gks.out k hk; have := z1.out; have := z2.out; have := z3.out; have := z4.out; have := z5.out; have := z6.out; have := z7.out; have := z8.out; have := z9.out; have := z10.out; have := z11.out; have := z12.out; omega)
  replace sA := sA.other hg (fun e => by have h1 := gk3.out _ e; have := z1.out; have := z2.out; have := z3.out; have := z4.out; have := z5.out; have := z6.out; have := z7.out; have := z8.out; have := z9.out; have := z10.out; have := z11.out; have := z12.out; omega)
  replace kg := kg.other hg (fun k hk e => by have h1 := gk3.out k e; have h2 := gkg.out k hk; have := z1.out; have := z2.out; have := z3.out; have := z4.out; have := z5.out; have := z6.out; have := z7.out; have := z8.out; have := z9.out; have := z10.out; have := z11.out; have := z12.out; omega)
  replace sB := sB.other hg (fun e => by have h1 := gk3.out _ e; have := z1.out; have := z2.out; have := z3.out; have := z4.out; have := z5.out; have := z6.out; have := z7.out; have := z8.out; have := z9.out; have := z10.out; have := z11.out; have := z12.out; omega)
  have z13 : Hid (w12.heap.size ≤ w13.heap.size) := hg.size
  replace BW := BW.grown hg BW.size (fun k e => by have h1 := gk3.out k e; have := z1.out; have := z2.out; have := z3.out; have := z4.out; have := z5.out; have := z6.out; have := z7.out; have := z8.out; have := z9.out; have := z10.out; have := z11.out; have := z12.out; omega)
  have gx3 := gk3
  clear hg k3 gk3
  clear x3
  have csA0 := sA 0 _ rfl
  have csA1 := sA 1 _ rfl
  have zsA := sA.lt
  have csB0 := sB 0 _ rfl
  have csB1 := sB 1 _ rfl
  have zsB := sB.lt
  go_wp2_with fail
  refine (eqBytes2_c _ _ _ pg ps qg qs (fnL bs0 bs1) _ kg ks).mono ?_
  rintro e w14 ⟨rfl, hb14⟩
  have z14 : Hid (w13.heap.size ≤ w14.heap.size) := hb14.size
  replace ks := ks.stay hb14
  replace sA := sA.keep hb14
  replace kg := kg.stay hb14
  replace sB := sB.keep hb14
  replace BW := Below.step BW hb14
  clear hb14 csA0 csA1 zsA csB0 csB1 zsB
  have csB0 := sB 0 _ rfl
  have csB1 := sB 1 _ rfl
  have zsB := sB.lt
  go_wp2_with fail
  refine (markBytes1_c _ _ _ (fnL bs0 bs1) _ kg hlen).mono ?_
  rintro e w15 ⟨rfl, km, hg⟩
  replace ks := ks.other hg (fun k hk e => by have h1 := gkg.out k e; have h2 := gks.out k hk; have := z1.out; have := z2.out; have := z3.out; have := z4.out; have := z5.out; have := z6.out; have := z7.out; have := z8.out; have := z9.out; have := z10.out; have := z11.out; have := z12.out; have := z13.out; have := z14.out; omega)
  replace sA := sA.other hg (fun e => by have h1 := gkg.out _ e; have := z1.out; have := z2.out; have := z3.out; have := z4.out; have := z5.out; have := z6.out; have := z7.out; have := z8.out; have := z9.out; have := z10.out; have := z11.out; have := z12.out; have := z13.out; have := z14.out; omega)
  replace sB := sB.other hg (fun e => by have h1 := gkg.out _ e; have := z1.out; have := z2.out; have := z3.out; have := z4.out; have := z5.out; have := z6.out; have := z7.out; have := z8.out; have := z9.out; have := z10.out; have := z11.out; have := z12.out; have := z13.out; have := z14.out; omega)
  have z15 : Hid (w14.heap.size ≤ w15.heap.size) := hg.size
  replace BW := BW.grown hg BW.size (fun k e => by have h1 := gkg.out k e; have := z1.out; have := z2.out; have := z3.out; have := z4.out; have := z5.out; have := z6.out; have := z7.out; have := z8.out; have := z9.out; have := z10.out; have := z11.out; have := z12.out; have := z13.out; have := z14.out; omega)
  have gkm := gkg
  clear hg kg gkg csB0 csB1 zsB
  have csB0 := sB 0 _ rfl
  have csB1 := sB 1 _ rfl
  have zsB := sB.lt
  go_wp2_with fail
  refine (heldBytes1_c _ _ pg qg (fnL bs0 bs1).length _ km hlen).mono ?_
  rintro e w16 ⟨rfl, hb16⟩
  have z16 : Hid (w15.heap.size ≤ w16.heap.size) := hb16.size
  replace ks := ks.stay hb16
  replace sA := sA.keep hb16
  replace sB := sB.keep hb16
  replace km := km.stay hb16
  replace BW := Below.step BW hb16
  clear hb16 csB0 csB1 zsB
  go_wp2_with fail
  refine (toByteS_c _ _ bs0 _ (r0.keep BW) hl0).mono ?_
  rintro e w17 ⟨u6, rfl, k6, hb17⟩
  obtain ⟨p6, q6, rfl, -⟩ := k6.rd
  have z17 : Hid (w16.heap.size ≤ w17.heap.size) := hb17.size
  have gk6 : Hid (∀ k, (Value.slice p6 bs0.length q6).ownBlock = some k → w16.heap.size ≤ k ∧ k < w17.heap.size) := fun k e => ⟨by have h := k6.ge k e; omega, k6.lt k e⟩
  replace ks := ks.stay hb17
  replace sA := sA.keep hb17
  replace sB := sB.keep hb17
  replace km := km.stay hb17
  replace BW := Below.step BW hb17
  clear hb17
  go_wp2_with fail
  refine (toByteS_c _ _ bs1 _ (r1.keep BW) hl1).mono ?_
  rintro e w18 ⟨u7, rfl, k7, hb18⟩
  obtain ⟨p7, q7, rfl, -⟩ := k7.rd
  have z18 : Hid (w17.heap.size ≤ w18.heap.size) := hb18.size
  have gk7 : Hid (∀ k, (Value.slice p7 bs1.length q7).ownBlock = some k → w17.heap.size ≤ k ∧ k < w18.heap.size) := fun k e => ⟨by have h := k7.ge k e; omega, k7.lt k e⟩
  replace ks := ks.stay hb18
  replace sA := sA.keep hb18
  replace sB := sB.keep hb18
  replace km := km.stay hb18
  replace k6 := k6.stay hb18
  replace BW := Below.step BW hb18
  clear hb18
  go_wp2_with fail
  refine (implFn_c p6 p7 q6 q7 bs0 bs1 _ (Rd.own k6) (Rd.own k7) (hT.keep BW)).mono ?_
  rintro e w19 ⟨uh, rfl, kh, hb19⟩
  obtain ⟨ph, qh, rfl, -⟩ := kh.rd
  have z19 : Hid (w18.heap.size ≤ w19.heap.size) := hb19.size
  have gkh : Hid (∀ k, (Value.slice ph (fnL bs0 bs1).length qh).ownBlock = some k → w18.heap.size ≤ k ∧ k < w19.heap.size) := fun k e => ⟨by have h := kh.ge k e; omega, kh.lt k e⟩
  replace ks := ks.stay hb19
  replace sA := sA.keep hb19
  replace sB := sB.keep hb19
  replace km := km.stay hb19
  replace k6 := k6.stay hb19
  replace k7 := k7.stay hb19
  replace BW := Below.step BW hb19
  clear hb19
  clear k6 k7
  have csA0 := sA 0 _ rfl
  have csA1 := sA 1 _ rfl
  have zsA := sA.lt
  go_wp2_with fail
  refine (eqBytes2_c _ _ _ ph ps qh qs (fnL bs0 bs1) _ (kh.stay (alloc_below _ _)) (ks.stay (alloc_below _ _))).mono ?_
  rintro e w20 ⟨rfl, hb20⟩
  have z20 : Hid (w19.heap.size < w20.heap.size) := size_lt hb20
  have sC := Has.new hb20
  replace hb20 := Below.res hb20
  replace ks := ks.stay hb20
  replace sA := sA.keep hb20
  replace sB := sB.keep hb20
  replace km := km.stay hb20
  replace kh := kh.stay hb20
  replace BW := Below.step BW hb20
  clear hb20 csA0 csA1 zsA
  clear sC sA ks kh
  have csB0 := sB 0 _ rfl
  have csB1 := sB 1 _ rfl
  have zsB := sB.lt
  go_wp2_with fail
  refine (heldBytes1_c _ _ pg qg (fnL bs0 bs1).length _ km hlen).mono ?_
  rintro e w21 ⟨rfl, hb21⟩
  have z21 : Hid (w20.heap.size ≤ w21.heap.size) := hb21.size
  replace sB := sB.keep hb21
  replace km := km.stay hb21
  replace BW := Below.step BW hb21
  clear hb21 csB0 csB1 zsB
  go_wp2
  go_ret
  exact ⟨rfl, BW⟩

/-! The row's step. -/
/-- The door's own heap meets the condition. -/
theorem door_met (os : Os) (args : Array Value) : laidMetH Tryd.prog Rows.fnExactFinishOfRow.laid ((World.doorLaid Tryd.prog 400 os).forCall (fun _ _ => 0) ⟨#[], args, []⟩).memory :=
  laidMet_of_run' 8 (by kernel_rfl) (by kernel_rfl)

set_option maxRecDepth 100000 in
theorem lifted (os : Os) (started : os.Started) (H : Type) (enc : TypeId × Value → H) :
    ReturnsInHanded {} Tryd.checked os 7 .any (fun w args => (Rows.fnExactFinishOfSpec.pre enc Tryd.prog Tryd.f7 [] false w args ∧ laidMetH Tryd.prog Rows.fnExactFinishOfRow.laid w) ∧ sizedMet enc Tryd.prog Tryd.f7 (OpenSpec.ofChange Rows.fnExactFinishOfSpec) false w args) (Rows.fnExactFinishOfSpec.post enc Tryd.prog Tryd.f7 false true false false) := by
  refine returnsInHanded_of_change_and (C := Tryd.checked) (X := fun w _ => laidMetH Tryd.prog Rows.fnExactFinishOfRow.laid w) (fun _ _ _ hh h => h.of_heap hh) own started (by kernel_rfl) Tryd.func7
    (ChangeSpec.witness_shaped (enc := enc) (C := Tryd.checked) (os := os) (X := fun w _ => laidMetH Tryd.prog Rows.fnExactFinishOfRow.laid w) false (World.doorLaid Tryd.prog 400 os) #[.slice none 0 0, .slice none 0 0] 8 rfl (World.shaped_of_RefB (by kernel_rfl) (by kernel_rfl)) (by kernel_rfl) (by kernel_rfl) (by kernel_rfl) (door_met os _)) ?_
  intro W base args ds gs before hval0 hW hcnd _ hL _
  have hval : ∀ (j : Nat) t v, Tryd.f7.params[j]? = some t → args[j]? = some v → Value.okWide Tryd.prog W .any base t v := hval0
  have hW' := hW
  obtain ⟨p, q, hA0, hV, rfl, hfz, hnd⟩ := hW
  have hA : DataW.TrodAll enc Tryd.prog W 0 (fun _ => true) true Tryd.f7.params.toList args.toList ds p := hA0
  rw [Tryd.params7] at hA hval
  obtain ⟨v0, vs0, d0, ds0, p0, q0, hargs, rfl, rfl, h0, r0⟩ := trodAll_cons hA
  obtain ⟨v1, vs1, d1, ds1, p1, q1, rfl, rfl, rfl, h1, r1⟩ := trodAll_cons r0
  obtain ⟨rfl, rfl, rfl⟩ := trodAll_nil r1
  obtain rfl : args = #[v0, v1] := by cases args; simp_all
  obtain ⟨v0a, v0b, v0c, v0d, v0e, v0f, v1a, v1b, v1c, v1d, v1e, v1f, rfl, -⟩ := trodVars_two hV
  obtain ⟨a0, len0, cap0, rfl⟩ := okWide_slice Tryd.underlying22 (hval 0 22 v0 rfl rfl)
  have k0 := h0
  have lt0 : ∀ x ∈ p0, x.block < W.heap.size := by obtain ⟨m, hm⟩ := k0; exact DataW.trod_lt m _ _ _ hm
  obtain ⟨z0, w0⟩ : ∃ zs, IsRow .u8 W a0 len0 cap0 zs := by
    obtain ⟨fuel, hf⟩ := h0
    rcases open_ints Tryd.underlying22 Tryd.underlying5 (by kernel_rfl) hf with ⟨hcs, _⟩ | ⟨x, l, c, zs, hcs, _, hl, hm, hz, _, hcell, hwz⟩
    · simp [Value.cells] at hcs
      obtain ⟨rfl, rfl, rfl⟩ := hcs
      exact ⟨[], .inl ⟨rfl, rfl, rfl, rfl⟩⟩
    · simp [Value.cells] at hcs
      obtain ⟨rfl, rfl, rfl⟩ := hcs
      exact ⟨zs, .inr ⟨_, rfl, hl, hm, by simpa using hz, hcell, hwz⟩⟩
  obtain ⟨a1, len1, cap1, rfl⟩ := okWide_slice Tryd.underlying22 (hval 1 22 v1 rfl rfl)
  have k1 := h1
  have lt1 : ∀ x ∈ p1, x.block < W.heap.size := by obtain ⟨m, hm⟩ := k1; exact DataW.trod_lt m _ _ _ hm
  obtain ⟨z1, w1⟩ : ∃ zs, IsRow .u8 W a1 len1 cap1 zs := by
    obtain ⟨fuel, hf⟩ := h1
    rcases open_ints Tryd.underlying22 Tryd.underlying5 (by kernel_rfl) hf with ⟨hcs, _⟩ | ⟨x, l, c, zs, hcs, _, hl, hm, hz, _, hcell, hwz⟩
    · simp [Value.cells] at hcs
      obtain ⟨rfl, rfl, rfl⟩ := hcs
      exact ⟨[], .inl ⟨rfl, rfl, rfl, rfl⟩⟩
    · simp [Value.cells] at hcs
      obtain ⟨rfl, rfl, rfl⟩ := hcs
      exact ⟨zs, .inr ⟨_, rfl, hl, hm, by simpa using hz, hcell, hwz⟩⟩
  clear hA0 hval0
  refine (walk a0 len0 cap0 z0 a1 len1 cap1 z1 W w0 w1 (tabs_of hL)).mono fun e W' ⟨he, bel⟩ => ?_
  subst he
  exact ⟨_, rfl, _, _, _, [], _, _, hW', trodAll_mk1 (shut_bool Tryd.underlying4 _), (trodAll_cons_mk (Below.trod laidOut (by kernel_rfl) (of_decide_eq_true (by kernel_rfl)) k0 bel lt0) (trodAll_cons_mk (Below.trod laidOut (by kernel_rfl) (of_decide_eq_true (by kernel_rfl)) k1 bel lt1) trodAll_mk0)), Below.trodVars laidOut bel (by kernel_rfl) hV, bel.frame _, fun h => by cases h⟩

theorem over : Rows.fnExactFinishOfRow.holds Tryd.pinned (OpenSpec.ofChange Rows.fnExactFinishOfSpec) :=
  OpenClaim.holds_of_wide 7 Tryd.f7 rfl rfl rfl rfl rfl rfl rfl ⟨rfl, rfl, rfl, rfl, rfl⟩ rfl rfl rfl rfl rfl (by kernel_rfl) Tryd.func7 (by kernel_rfl)
    (of_decide_eq_true (by kernel_rfl)) (by unfold Func.isWrapper; first | (rw [if_pos (by decide +kernel)]; kernel_rfl) | (rw [if_neg (by decide +kernel)]; exact ⟨rfl, rfl⟩))
    (fun os started H enc _ => lifted os started H enc)


theorem plain (f : FuncId) (fn : Func) (hf : Tryd.pinned.checked.prog.funcNamed "loop.example/g00375/laws.FnExactFinishOf" = some f) (hfn : Tryd.pinned.checked.prog.funcs[f]? = some fn) :
    false = Tryd.pinned.checked.prog.looks [] ∧ ∀ (j : Nat) t, fn.params[j]? = some t → Tryd.pinned.checked.prog.wantsStandIn t = false := by
  obtain rfl : f = 7 := Option.some.inj ((show Tryd.prog.funcNamed "loop.example/g00375/laws.FnExactFinishOf" = some 7 by kernel_rfl).symm.trans hf) |>.symm
  obtain rfl : fn = Tryd.f7 := (Option.some.inj (Tryd.func7.symm.trans hfn)).symm
  refine ⟨by kernel_rfl, fun j t ht => ?_⟩
  rw [Tryd.params7] at ht
  have hm : t ∈ [22, 22] := by simpa using Array.mem_of_getElem? ht
  have hall : ([22, 22].all fun u => !Tryd.prog.wantsStandIn u) = true := by kernel_rfl
  exact (show Tryd.prog.wantsStandIn t = false by simpa using List.all_eq_true.1 hall t hm)
/-- The card. -/
theorem card : Rows.FnExactFinishOfCardSaid :=
  Claim7.holds_tied_plain_at .later [] _ _ _ _ over (fun _ h => by cases h) (by kernel_rfl) (fun _ h => by cases h) fnExactFinishOf_row_tie rfl ⟨rfl, rfl⟩ (by kernel_rfl) rfl plain (by kernel_rfl)
end Go.Proofs.YtkhgimoopdnkbaaDoor.fnExactFinishOf

namespace Go.Proofs.YtkhgimoopdnkbaaDoor
theorem fnExactFinishOf_holds : Rows.FnExactFinishOfCardSaid := fnExactFinishOf.card
end Go.Proofs.YtkhgimoopdnkbaaDoor
