/- SecretsOf of the program answers as the specification's, code and secrets, leaves its arguments alone, and its answer owns its memory, behind another call too; the two tables of the program's text are tied to it by the card. For every argument; no condition. The frame is the one that the guide's program writes; the walk and its contracts are ours. -/
import Derived.Test.YthkiabcbpkhgiaaDoorRows
import Derived.WalkKit
import Derived.ProofKit
import Derived.OpenShut
import Derived.ShutString
import Derived.ChangeOld
import Derived.Below
import Derived.Test.YthkiabcbpkhgiaaDoorWin
import Derived.Test.YthkiabcbpkhgiaaDoorSchJ
import Derived.Test.YthkiabcbpkhgiaaDoorJoint4
import Derived.Test.YthkiabcbpkhgiaaDoorCards
import Derived.Test.YthkiabcbpkhgiaaDoorTie
import Derived.OpenVars
import Derived.LaidMore
import Derived.Stop.Joined
import Derived.SevenTiedAt
namespace Go.Proofs.YthkiabcbpkhgiaaDoor.fnExactSecretsOf
open Go.ChangeShapes Go.WideShapes Go.ChangeAt Go.RowKit
open Go.ChangeMaps (open_string shut_string)
set_option linter.unusedVariables false

theorem own : ownKnob Tryd.prog.godebug = none := by kernel_rfl
theorem laidOut : laidOutB Tryd.prog = true := by kernel_rfl

def IsRow (k : IntKind) (w : World) (a : Option Addr) (len cap : Nat) (zs : List Int) : Prop :=
  (a = none ∧ len = 0 ∧ cap = 0 ∧ zs = []) ∨
  ∃ x, a = some x ∧ len ≤ cap ∧ cap ≤ maxLen ∧ zs.length = cap ∧ (∀ i, i < zs.length → w.cell? (x.add i) = some (.int k (zs.getD i 0))) ∧ ∀ n ∈ zs, (Lit.int k n).wf = true


/-! The walk. -/
theorem walk (a0 : Option Addr) (len0 cap0 : Nat) (z0 : List Int) (a1 : Option Addr) (len1 cap1 : Nat) (z1 : List Int) (w : World) (w0 : IsRow .u8 w a0 len0 cap0 z0) (w1 : IsRow .u8 w a1 len1 cap1 z1) (hT : Tabs w) :
    Calls Tryd.prog 8 #[.slice a0 len0 cap0, .slice a1 len1 cap1] w fun e w' => e = .returned (.bool true) ∧ Below w.heap.size w w' := by
  obtain ⟨bs0, rfl, r0⟩ := rd_of w0
  clear w0
  obtain ⟨bs1, rfl, r1⟩ := rd_of w1
  clear w1
  by_cases hl0 : 1048576 < bs0.length
  · go_enter Tryd.func8, Tryd.ntmps8
    go_wp2
    go_ret
    exact ⟨rfl, Below.refl _ _⟩
  replace hl0 : bs0.length ≤ 1048576 := by omega
  by_cases hl1 : 1048576 < bs1.length
  · go_enter Tryd.func8, Tryd.ntmps8
    go_wp2
    go_ret
    exact ⟨rfl, Below.refl _ _⟩
  replace hl1 : bs1.length ≤ 1048576 := by omega
  have hlen := scD_small bs0 bs1
  have hlen1 : 1 + secretsResultT (scD bs0 bs1) ≤ 1000000000 := by omega
  have hlen2 : 1 + secretsResultT (scD bs0 bs1) ≤ 1048577 := by omega
  go_enter Tryd.func8, Tryd.ntmps8
  go_wp2_with fail
  refine (toByteS_c _ _ bs0 _ r0 (by omega)).mono ?_
  rintro e w1 ⟨u0, rfl, k0, hb1⟩
  obtain ⟨pc0, qc0, rfl, -⟩ := k0.rd
  have gk0 : Hid (∀ k, k ∈ _ → w.heap.size ≤ k ∧ k < w1.heap.size) := fun k hk => ⟨by have h := (k0.ins k hk).1; exact h, (k0.ins k hk).2⟩
  replace k0 := k0.win (Nat.le_refl _) gk0.out
  have z1 : Hid (w.heap.size ≤ w1.heap.size) := hb1.size
  have BW := hb1
  clear hb1
  go_wp2_with fail
  refine (toByteS_c _ _ bs1 _ (r1.keep BW) (by omega)).mono ?_
  rintro e w2 ⟨u1, rfl, k1, hb2⟩
  obtain ⟨pc1, qc1, rfl, -⟩ := k1.rd
  have gk1 : Hid (∀ k, k ∈ _ → w1.heap.size ≤ k ∧ k < w2.heap.size) := fun k hk => ⟨by have h := (k1.ins k hk).1; exact h, (k1.ins k hk).2⟩
  replace k1 := k1.win (Nat.le_refl _) gk1.out
  have z2 : Hid (w1.heap.size ≤ w2.heap.size) := hb2.size
  replace k0 := k0.stay hb2
  replace BW := Below.step BW hb2
  clear hb2
  go_wp2_with fail
  refine (specSc_k pc0 pc1 qc0 qc1 bs0 bs1 _ (Rd.own k0.now) (Rd.own k1.now)).mono ?_
  rintro e w3 ⟨uss, fps, rfl, ks, hb3⟩
  obtain ⟨ps2_1, qs2_1, ps2_2, qs2_2, ps2_3, qs2_3, ps2_4, qs2_4, ess, -, -, -, -⟩ := secretsResult_rep (secretsResultC.toRep ks)
  subst ess
  have gks : Hid (∀ k, k ∈ _ → w2.heap.size ≤ k ∧ k < w3.heap.size) := fun k hk => ⟨by have h := (ks.ins k hk).1; exact h, (ks.ins k hk).2⟩
  replace ks := ks.win (Nat.le_refl _) gks.out
  have z3 : Hid (w2.heap.size ≤ w3.heap.size) := hb3.size
  replace k0 := k0.stay hb3
  replace k1 := k1.stay hb3
  replace BW := Below.step BW hb3
  clear hb3
  clear k0 k1
  go_wp2_with fail
  refine (toByteS_c _ _ bs0 _ ((r0.keep BW).keep (alloc_below _ _)) (by omega)).mono ?_
  rintro e w4 ⟨u2, rfl, k2, hb4⟩
  obtain ⟨pc2, qc2, rfl, -⟩ := k2.rd
  have gk2 : Hid (∀ k, k ∈ _ → (w3.heap.size + 1) ≤ k ∧ k < w4.heap.size) := fun k hk => ⟨by have h := (k2.ins k hk).1; rw [size_alloc] at h; exact h, (k2.ins k hk).2⟩
  replace k2 := k2.win (Nat.le_refl _) gk2.out
  have sA := (Has.new hb4).win
  have z4 : Hid (w3.heap.size + 1 ≤ w4.heap.size) := size_lt hb4
  replace hb4 := Below.res hb4
  replace ks := ks.stay hb4
  replace BW := Below.step BW hb4
  clear hb4
  go_wp2_with fail
  refine (toByteS_c _ _ bs1 _ (r1.keep BW) (by omega)).mono ?_
  rintro e w5 ⟨u3, rfl, k3, hb5⟩
  obtain ⟨pc3, qc3, rfl, -⟩ := k3.rd
  have gk3 : Hid (∀ k, k ∈ _ → w4.heap.size ≤ k ∧ k < w5.heap.size) := fun k hk => ⟨by have h := (k3.ins k hk).1; exact h, (k3.ins k hk).2⟩
  replace k3 := k3.win (Nat.le_refl _) gk3.out
  have z5 : Hid (w4.heap.size ≤ w5.heap.size) := hb5.size
  replace ks := ks.stay hb5
  replace sA := sA.stay hb5
  replace k2 := k2.stay hb5
  replace BW := Below.step BW hb5
  clear hb5
  go_wp2_with fail
  refine (implSc_k pc2 pc3 qc2 qc3 bs0 bs1 _ (Rd.own k2.now) (Rd.own k3.now) (hT.keep BW)).mono ?_
  rintro e w6 ⟨usg, fpg, rfl, kg, hb6⟩
  obtain ⟨pg2_1, qg2_1, pg2_2, qg2_2, pg2_3, qg2_3, pg2_4, qg2_4, esg, -, -, -, -⟩ := secretsResult_rep (secretsResultC.toRep kg)
  subst esg
  have gkg : Hid (∀ k, k ∈ _ → w5.heap.size ≤ k ∧ k < w6.heap.size) := fun k hk => ⟨by have h := (kg.ins k hk).1; exact h, (kg.ins k hk).2⟩
  replace kg := kg.win (Nat.le_refl _) gkg.out
  have z6 : Hid (w5.heap.size ≤ w6.heap.size) := hb6.size
  replace ks := ks.stay hb6
  replace sA := sA.stay hb6
  replace k2 := k2.stay hb6
  replace k3 := k3.stay hb6
  replace BW := Below.step BW hb6
  clear hb6
  have csA0 := sA.now 0 _ rfl
  have csA1 := sA.now 1 _ rfl
  have csA2 := sA.now 2 _ rfl
  have csA3 := sA.now 3 _ rfl
  have csA4 := sA.now 4 _ rfl
  have zsA := Has.lt sA.now
  go_wp2_with fail
  refine (eqSecretsResult_k (scD bs0 bs1) _ _ _ (secretsResultC.toRep (kg.stay (alloc_below _ _)).now) (secretsResultC.toRep (ks.stay (alloc_below _ _)).now)).mono ?_
  rintro e w7 ⟨rfl, hb7⟩
  have sB := (Has.new hb7).win
  have z7 : Hid (w6.heap.size + 1 ≤ w7.heap.size) := size_lt hb7
  replace hb7 := Below.res hb7
  replace ks := ks.stay hb7
  replace sA := sA.stay hb7
  replace k2 := k2.stay hb7
  replace k3 := k3.stay hb7
  replace kg := kg.stay hb7
  replace BW := Below.step BW hb7
  clear hb7 csA0 csA1 csA2 csA3 csA4 zsA
  go_wp2_with fail
  refine (toByteS_c _ _ bs0 _ (r0.keep BW) (by omega)).mono ?_
  rintro e w8 ⟨u4, rfl, k4, hb8⟩
  obtain ⟨pc4, qc4, rfl, -⟩ := k4.rd
  have gk4 : Hid (∀ k, k ∈ _ → w7.heap.size ≤ k ∧ k < w8.heap.size) := fun k hk => ⟨by have h := (k4.ins k hk).1; exact h, (k4.ins k hk).2⟩
  replace k4 := k4.win (Nat.le_refl _) gk4.out
  have z8 : Hid (w7.heap.size ≤ w8.heap.size) := hb8.size
  replace ks := ks.stay hb8
  replace sA := sA.stay hb8
  replace k2 := k2.stay hb8
  replace k3 := k3.stay hb8
  replace kg := kg.stay hb8
  replace sB := sB.stay hb8
  replace BW := Below.step BW hb8
  clear hb8
  go_wp2_with fail
  refine (eqByteS_c pc2 pc4 qc2 qc4 bs0 _ (Rd.own k2.now) (Rd.own k4.now)).mono ?_
  rintro e w9 ⟨rfl, hb9⟩
  have z9 : Hid (w8.heap.size ≤ w9.heap.size) := hb9.size
  replace ks := ks.stay hb9
  replace sA := sA.stay hb9
  replace k2 := k2.stay hb9
  replace k3 := k3.stay hb9
  replace kg := kg.stay hb9
  replace sB := sB.stay hb9
  replace k4 := k4.stay hb9
  replace BW := Below.step BW hb9
  clear hb9
  clear k4
  go_wp2_with fail
  refine (toByteS_c _ _ bs1 _ (r1.keep BW) (by omega)).mono ?_
  rintro e w10 ⟨u5, rfl, k5, hb10⟩
  obtain ⟨pc5, qc5, rfl, -⟩ := k5.rd
  have gk5 : Hid (∀ k, k ∈ _ → w9.heap.size ≤ k ∧ k < w10.heap.size) := fun k hk => ⟨by have h := (k5.ins k hk).1; exact h, (k5.ins k hk).2⟩
  replace k5 := k5.win (Nat.le_refl _) gk5.out
  have z10 : Hid (w9.heap.size ≤ w10.heap.size) := hb10.size
  replace ks := ks.stay hb10
  replace sA := sA.stay hb10
  replace k2 := k2.stay hb10
  replace k3 := k3.stay hb10
  replace kg := kg.stay hb10
  replace sB := sB.stay hb10
  replace BW := Below.step BW hb10
  clear hb10
  go_wp2_with fail
  refine (eqByteS_c pc3 pc5 qc3 qc5 bs1 _ (Rd.own k3.now) (Rd.own k5.now)).mono ?_
  rintro e w11 ⟨rfl, hb11⟩
  have z11 : Hid (w10.heap.size ≤ w11.heap.size) := hb11.size
  replace ks := ks.stay hb11
  replace sA := sA.stay hb11
  replace k2 := k2.stay hb11
  replace k3 := k3.stay hb11
  replace kg := kg.stay hb11
  replace sB := sB.stay hb11
  replace k5 := k5.stay hb11
  replace BW := Below.step BW hb11
  clear hb11
  clear k5
  go_wp2_with fail
  refine (markByteS_c1 _ _ bs0 _ k2.now hl0).mono ?_
  rintro e w12 ⟨rfl, -, hg⟩
  have z12 : Hid (w11.heap.size ≤ w12.heap.size) := hg.size
  have sg := grown_seg hg gk2.out
  replace ks := ks.seg sg (by have := z1.out; have := z2.out; have := z3.out; have := z4.out; have := z5.out; have := z6.out; have := z7.out; have := z8.out; have := z9.out; have := z10.out; have := z11.out; have := z12.out; omega)
  replace sA := sA.seg sg (by have := z1.out; have := z2.out; have := z3.out; have := z4.out; have := z5.out; have := z6.out; have := z7.out; have := z8.out; have := z9.out; have := z10.out; have := z11.out; have := z12.out; omega)
  replace k3 := k3.seg sg (by have := z1.out; have := z2.out; have := z3.out; have := z4.out; have := z5.out; have := z6.out; have := z7.out; have := z8.out; have := z9.out; have := z10.out; have := z11.out; have := z12.out; omega)
  replace kg := kg.seg sg (by have := z1.out; have := z2.out; have := z3.out; have := z4.out; have := z5.out; have := z6.out; have := z7.out; have := z8.out; have := z9.out; have := z10.out; have := z11.out; have := z12.out; omega)
  replace sB := sB.seg sg (by have := z1.out; have := z2.out; have := z3.out; have := z4.out; have := z5.out; have := z6.out; have := z7.out; have := z8.out; have := z9.out; have := z10.out; have := z11.out; have := z12.out; omega)
  replace BW := Below.seg BW sg (by have := z1.out; have := z2.out; have := z3.out; have := z4.out; have := z5.out; have := z6.out; have := z7.out; have := z8.out; have := z9.out; have := z10.out; have := z11.out; have := z12.out; omega)
  clear hg sg k2
  go_wp2_with fail
  refine (markByteS_cn _ _ _ bs1 _ k3.now (by omega) (by omega) (by omega)).mono ?_
  rintro e w13 ⟨rfl, -, hg⟩
  have z13 : Hid (w12.heap.size ≤ w13.heap.size) := hg.size
  have sg := grown_seg hg gk3.out
  replace ks := ks.seg sg (by have := z1.out; have := z2.out; have := z3.out; have := z4.out; have := z5.out; have := z6.out; have := z7.out; have := z8.out; have := z9.out; have := z10.out; have := z11.out; have := z12.out; have := z13.out; omega)
  replace sA := sA.seg sg (by have := z1.out; have := z2.out; have := z3.out; have := z4.out; have := z5.out; have := z6.out; have := z7.out; have := z8.out; have := z9.out; have := z10.out; have := z11.out; have := z12.out; have := z13.out; omega)
  replace kg := kg.seg sg (by have := z1.out; have := z2.out; have := z3.out; have := z4.out; have := z5.out; have := z6.out; have := z7.out; have := z8.out; have := z9.out; have := z10.out; have := z11.out; have := z12.out; have := z13.out; omega)
  replace sB := sB.seg sg (by have := z1.out; have := z2.out; have := z3.out; have := z4.out; have := z5.out; have := z6.out; have := z7.out; have := z8.out; have := z9.out; have := z10.out; have := z11.out; have := z12.out; have := z13.out; omega)
  replace BW := Below.seg BW sg (by have := z1.out; have := z2.out; have := z3.out; have := z4.out; have := z5.out; have := z6.out; have := z7.out; have := z8.out; have := z9.out; have := z10.out; have := z11.out; have := z12.out; have := z13.out; omega)
  clear hg sg k3
  have csA0 := sA.now 0 _ rfl
  have csA1 := sA.now 1 _ rfl
  have csA2 := sA.now 2 _ rfl
  have csA3 := sA.now 3 _ rfl
  have csA4 := sA.now 4 _ rfl
  have zsA := Has.lt sA.now
  have csB0 := sB.now 0 _ rfl
  have csB1 := sB.now 1 _ rfl
  have csB2 := sB.now 2 _ rfl
  have csB3 := sB.now 3 _ rfl
  have csB4 := sB.now 4 _ rfl
  have zsB := Has.lt sB.now
  go_wp2_with fail
  refine (eqSecretsResult_k (scD bs0 bs1) _ _ _ (secretsResultC.toRep kg.now) (secretsResultC.toRep ks.now)).mono ?_
  rintro e w14 ⟨rfl, hb14⟩
  have z14 : Hid (w13.heap.size ≤ w14.heap.size) := hb14.size
  replace ks := ks.stay hb14
  replace sA := sA.stay hb14
  replace kg := kg.stay hb14
  replace sB := sB.stay hb14
  replace BW := Below.step BW hb14
  clear hb14 csA0 csA1 csA2 csA3 csA4 zsA csB0 csB1 csB2 csB3 csB4 zsB
  have csB0 := sB.now 0 _ rfl
  have csB1 := sB.now 1 _ rfl
  have csB2 := sB.now 2 _ rfl
  have csB3 := sB.now 3 _ rfl
  have csB4 := sB.now 4 _ rfl
  have zsB := Has.lt sB.now
  go_wp2_with fail
  refine (markSecretsResult_k (scD bs0 bs1) _ _ _ 1 1 rfl _ kg.now hlen1).mono ?_
  rintro e w15 ⟨rfl, km, hg⟩
  have z15 : Hid (w14.heap.size ≤ w15.heap.size) := hg.size
  have sg := Only.seg hg gkg.out
  replace ks := ks.seg sg (by have := z1.out; have := z2.out; have := z3.out; have := z4.out; have := z5.out; have := z6.out; have := z7.out; have := z8.out; have := z9.out; have := z10.out; have := z11.out; have := z12.out; have := z13.out; have := z14.out; have := z15.out; omega)
  replace sA := sA.seg sg (by have := z1.out; have := z2.out; have := z3.out; have := z4.out; have := z5.out; have := z6.out; have := z7.out; have := z8.out; have := z9.out; have := z10.out; have := z11.out; have := z12.out; have := z13.out; have := z14.out; have := z15.out; omega)
  replace sB := sB.seg sg (by have := z1.out; have := z2.out; have := z3.out; have := z4.out; have := z5.out; have := z6.out; have := z7.out; have := z8.out; have := z9.out; have := z10.out; have := z11.out; have := z12.out; have := z13.out; have := z14.out; have := z15.out; omega)
  replace BW := Below.seg BW sg (by have := z1.out; have := z2.out; have := z3.out; have := z4.out; have := z5.out; have := z6.out; have := z7.out; have := z8.out; have := z9.out; have := z10.out; have := z11.out; have := z12.out; have := z13.out; have := z14.out; have := z15.out; omega)
  replace km := km.win (by have := z1.out; have := z2.out; have := z3.out; have := z4.out; have := z5.out; have := z6.out; have := z7.out; have := z8.out; have := z9.out; have := z10.out; have := z11.out; have := z12.out; have := z13.out; have := z14.out; have := z15.out; omega) gkg.out
  clear hg sg kg csB0 csB1 csB2 csB3 csB4 zsB
  have csB0 := sB.now 0 _ rfl
  have csB1 := sB.now 1 _ rfl
  have csB2 := sB.now 2 _ rfl
  have csB3 := sB.now 3 _ rfl
  have csB4 := sB.now 4 _ rfl
  have zsB := Has.lt sB.now
  go_wp2_with fail
  refine (heldSecretsResult_k (scD bs0 bs1) _ 1 1 rfl _ (secretsResultC.toRep km.now) hlen2).mono ?_
  rintro e w16 ⟨rfl, hb16⟩
  have z16 : Hid (w15.heap.size ≤ w16.heap.size) := hb16.size
  replace ks := ks.stay hb16
  replace sA := sA.stay hb16
  replace sB := sB.stay hb16
  replace km := km.stay hb16
  replace BW := Below.step BW hb16
  clear hb16 csB0 csB1 csB2 csB3 csB4 zsB
  go_wp2_with fail
  refine (toByteS_c _ _ bs0 _ (r0.keep BW) (by omega)).mono ?_
  rintro e w17 ⟨u6, rfl, k6, hb17⟩
  obtain ⟨pc6, qc6, rfl, -⟩ := k6.rd
  have gk6 : Hid (∀ k, k ∈ _ → w16.heap.size ≤ k ∧ k < w17.heap.size) := fun k hk => ⟨by have h := (k6.ins k hk).1; exact h, (k6.ins k hk).2⟩
  replace k6 := k6.win (Nat.le_refl _) gk6.out
  have z17 : Hid (w16.heap.size ≤ w17.heap.size) := hb17.size
  replace ks := ks.stay hb17
  replace sA := sA.stay hb17
  replace sB := sB.stay hb17
  replace km := km.stay hb17
  replace BW := Below.step BW hb17
  clear hb17
  go_wp2_with fail
  refine (toByteS_c _ _ bs1 _ (r1.keep BW) (by omega)).mono ?_
  rintro e w18 ⟨u7, rfl, k7, hb18⟩
  obtain ⟨pc7, qc7, rfl, -⟩ := k7.rd
  have gk7 : Hid (∀ k, k ∈ _ → w17.heap.size ≤ k ∧ k < w18.heap.size) := fun k hk => ⟨by have h := (k7.ins k hk).1; exact h, (k7.ins k hk).2⟩
  replace k7 := k7.win (Nat.le_refl _) gk7.out
  have z18 : Hid (w17.heap.size ≤ w18.heap.size) := hb18.size
  replace ks := ks.stay hb18
  replace sA := sA.stay hb18
  replace sB := sB.stay hb18
  replace km := km.stay hb18
  replace k6 := k6.stay hb18
  replace BW := Below.step BW hb18
  clear hb18
  go_wp2_with fail
  refine (implSc_k pc6 pc7 qc6 qc7 bs0 bs1 _ (Rd.own k6.now) (Rd.own k7.now) (hT.keep BW)).mono ?_
  rintro e w19 ⟨ush, fph, rfl, kh, hb19⟩
  obtain ⟨ph2_1, qh2_1, ph2_2, qh2_2, ph2_3, qh2_3, ph2_4, qh2_4, esh, -, -, -, -⟩ := secretsResult_rep (secretsResultC.toRep kh)
  subst esh
  have gkh : Hid (∀ k, k ∈ _ → w18.heap.size ≤ k ∧ k < w19.heap.size) := fun k hk => ⟨by have h := (kh.ins k hk).1; exact h, (kh.ins k hk).2⟩
  replace kh := kh.win (Nat.le_refl _) gkh.out
  have z19 : Hid (w18.heap.size ≤ w19.heap.size) := hb19.size
  replace ks := ks.stay hb19
  replace sA := sA.stay hb19
  replace sB := sB.stay hb19
  replace km := km.stay hb19
  replace k6 := k6.stay hb19
  replace k7 := k7.stay hb19
  replace BW := Below.step BW hb19
  clear hb19
  clear k6 k7
  have csA0 := sA.now 0 _ rfl
  have csA1 := sA.now 1 _ rfl
  have csA2 := sA.now 2 _ rfl
  have csA3 := sA.now 3 _ rfl
  have csA4 := sA.now 4 _ rfl
  have zsA := Has.lt sA.now
  go_wp2_with fail
  refine (eqSecretsResult_k (scD bs0 bs1) _ _ _ (secretsResultC.toRep (kh.stay (alloc_below _ _)).now) (secretsResultC.toRep (ks.stay (alloc_below _ _)).now)).mono ?_
  rintro e w20 ⟨rfl, hb20⟩
  have sC := (Has.new hb20).win
  have z20 : Hid (w19.heap.size + 1 ≤ w20.heap.size) := size_lt hb20
  replace hb20 := Below.res hb20
  replace ks := ks.stay hb20
  replace sA := sA.stay hb20
  replace sB := sB.stay hb20
  replace km := km.stay hb20
  replace kh := kh.stay hb20
  replace BW := Below.step BW hb20
  clear hb20 csA0 csA1 csA2 csA3 csA4 zsA
  clear sC sA ks kh
  have csB0 := sB.now 0 _ rfl
  have csB1 := sB.now 1 _ rfl
  have csB2 := sB.now 2 _ rfl
  have csB3 := sB.now 3 _ rfl
  have csB4 := sB.now 4 _ rfl
  have zsB := Has.lt sB.now
  go_wp2_with fail
  refine (heldSecretsResult_k (scD bs0 bs1) _ 1 1 rfl _ (secretsResultC.toRep km.now) hlen2).mono ?_
  rintro e w21 ⟨rfl, hb21⟩
  have z21 : Hid (w20.heap.size ≤ w21.heap.size) := hb21.size
  replace sB := sB.stay hb21
  replace km := km.stay hb21
  replace BW := Below.step BW hb21
  clear hb21 csB0 csB1 csB2 csB3 csB4 zsB
  go_wp2
  go_ret
  exact ⟨rfl, BW⟩

/-! The row's step. -/
/-- The door's own heap meets the condition. -/
theorem door_met (os : Os) (args : Array Value) : laidMetH Tryd.prog Rows.fnExactSecretsOfRow.laid ((World.doorLaid Tryd.prog 400 os).forCall (fun _ _ => 0) ⟨#[], args, []⟩).memory :=
  laidMet_of_run' 8 (by kernel_rfl) (by kernel_rfl)

set_option maxRecDepth 100000 in
theorem lifted (os : Os) (started : os.Started) (H : Type) (enc : TypeId × Value → H) :
    ReturnsInHanded {} Tryd.checked os 8 .any (fun w args => (Rows.fnExactSecretsOfSpec.pre enc Tryd.prog Tryd.f8 [] false w args ∧ laidMetH Tryd.prog Rows.fnExactSecretsOfRow.laid w) ∧ sizedMet enc Tryd.prog Tryd.f8 (OpenSpec.ofChange Rows.fnExactSecretsOfSpec) false w args) (Rows.fnExactSecretsOfSpec.post enc Tryd.prog Tryd.f8 false true false false) := by
  refine returnsInHanded_of_change_and (C := Tryd.checked) (X := fun w _ => laidMetH Tryd.prog Rows.fnExactSecretsOfRow.laid w) (fun _ _ _ hh h => h.of_heap hh) own started (by kernel_rfl) Tryd.func8
    (ChangeSpec.witness_shaped (enc := enc) (C := Tryd.checked) (os := os) (X := fun w _ => laidMetH Tryd.prog Rows.fnExactSecretsOfRow.laid w) false (World.doorLaid Tryd.prog 400 os) #[.slice none 0 0, .slice none 0 0] 8 rfl (World.shaped_of_RefB (by kernel_rfl) (by kernel_rfl)) (by kernel_rfl) (by kernel_rfl) (by kernel_rfl) (door_met os _)) ?_
  intro W base args ds gs before hval0 hW hcnd _ hL _
  have hval : ∀ (j : Nat) t v, Tryd.f8.params[j]? = some t → args[j]? = some v → Value.okWide Tryd.prog W .any base t v := hval0
  have hW' := hW
  obtain ⟨p, q, hA0, hV, rfl, hfz, hnd⟩ := hW
  have hA : DataW.TrodAll enc Tryd.prog W 0 (fun _ => true) true Tryd.f8.params.toList args.toList ds p := hA0
  rw [Tryd.params8] at hA hval
  obtain ⟨v0, vs0, d0, ds0, p0, q0, hargs, rfl, rfl, h0, r0⟩ := trodAll_cons hA
  obtain ⟨v1, vs1, d1, ds1, p1, q1, rfl, rfl, rfl, h1, r1⟩ := trodAll_cons r0
  obtain ⟨rfl, rfl, rfl⟩ := trodAll_nil r1
  obtain rfl : args = #[v0, v1] := by cases args; simp_all
  obtain ⟨v0a, v0b, v0c, v0d, v0e, v0f, v1a, v1b, v1c, v1d, v1e, v1f, rfl, -⟩ := trodVars_two hV
  obtain ⟨a0, len0, cap0, rfl⟩ := okWide_slice Tryd.underlying22 (hval 0 22 v0 rfl rfl)
  have k0 := h0
  have lt0 : ∀ x ∈ p0, x.block < W.heap.size := by obtain ⟨m, hm⟩ := k0; exact DataW.trod_lt m _ _ _ hm
  obtain ⟨z0, w0⟩ : ∃ zs, IsRow .u8 W a0 len0 cap0 zs := by
    obtain ⟨fuel, hf⟩ := h0
    rcases open_ints Tryd.underlying22 Tryd.underlying5 (by kernel_rfl) hf with ⟨hcs, _⟩ | ⟨x, l, c, zs, hcs, _, hl, hm, hz, _, hcell, hwz⟩
    · simp [Value.cells] at hcs
      obtain ⟨rfl, rfl, rfl⟩ := hcs
      exact ⟨[], .inl ⟨rfl, rfl, rfl, rfl⟩⟩
    · simp [Value.cells] at hcs
      obtain ⟨rfl, rfl, rfl⟩ := hcs
      exact ⟨zs, .inr ⟨_, rfl, hl, hm, by simpa using hz, hcell, hwz⟩⟩
  obtain ⟨a1, len1, cap1, rfl⟩ := okWide_slice Tryd.underlying22 (hval 1 22 v1 rfl rfl)
  have k1 := h1
  have lt1 : ∀ x ∈ p1, x.block < W.heap.size := by obtain ⟨m, hm⟩ := k1; exact DataW.trod_lt m _ _ _ hm
  obtain ⟨z1, w1⟩ : ∃ zs, IsRow .u8 W a1 len1 cap1 zs := by
    obtain ⟨fuel, hf⟩ := h1
    rcases open_ints Tryd.underlying22 Tryd.underlying5 (by kernel_rfl) hf with ⟨hcs, _⟩ | ⟨x, l, c, zs, hcs, _, hl, hm, hz, _, hcell, hwz⟩
    · simp [Value.cells] at hcs
      obtain ⟨rfl, rfl, rfl⟩ := hcs
      exact ⟨[], .inl ⟨rfl, rfl, rfl, rfl⟩⟩
    · simp [Value.cells] at hcs
      obtain ⟨rfl, rfl, rfl⟩ := hcs
      exact ⟨zs, .inr ⟨_, rfl, hl, hm, by simpa using hz, hcell, hwz⟩⟩
  clear hA0 hval0
  refine (walk a0 len0 cap0 z0 a1 len1 cap1 z1 W w0 w1 (tabs_of hL)).mono fun e W' ⟨he, bel⟩ => ?_
  subst he
  exact ⟨_, rfl, _, _, _, [], _, _, hW', trodAll_mk1 (shut_bool Tryd.underlying4 _), (trodAll_cons_mk (Below.trod laidOut (by kernel_rfl) (of_decide_eq_true (by kernel_rfl)) k0 bel lt0) (trodAll_cons_mk (Below.trod laidOut (by kernel_rfl) (of_decide_eq_true (by kernel_rfl)) k1 bel lt1) trodAll_mk0)), Below.trodVars laidOut bel (by kernel_rfl) hV, bel.frame _, fun h => by cases h⟩

theorem over : Rows.fnExactSecretsOfRow.holds Tryd.pinned (OpenSpec.ofChange Rows.fnExactSecretsOfSpec) :=
  OpenClaim.holds_of_wide 8 Tryd.f8 rfl rfl rfl rfl rfl rfl rfl ⟨rfl, rfl, rfl, rfl, rfl⟩ rfl rfl rfl rfl rfl (by kernel_rfl) Tryd.func8 (by kernel_rfl)
    (of_decide_eq_true (by kernel_rfl)) (by unfold Func.isWrapper; first | (rw [if_pos (by decide +kernel)]; kernel_rfl) | (rw [if_neg (by decide +kernel)]; exact ⟨rfl, rfl⟩))
    (fun os started H enc _ => lifted os started H enc)


theorem plain (f : FuncId) (fn : Func) (hf : Tryd.pinned.checked.prog.funcNamed "loop.example/g00375/laws.FnExactSecretsOf" = some f) (hfn : Tryd.pinned.checked.prog.funcs[f]? = some fn) :
    false = Tryd.pinned.checked.prog.looks [] ∧ ∀ (j : Nat) t, fn.params[j]? = some t → Tryd.pinned.checked.prog.wantsStandIn t = false := by
  obtain rfl : f = 8 := Option.some.inj ((show Tryd.prog.funcNamed "loop.example/g00375/laws.FnExactSecretsOf" = some 8 by kernel_rfl).symm.trans hf) |>.symm
  obtain rfl : fn = Tryd.f8 := (Option.some.inj (Tryd.func8.symm.trans hfn)).symm
  refine ⟨by kernel_rfl, fun j t ht => ?_⟩
  rw [Tryd.params8] at ht
  have hm : t ∈ [22, 22] := by simpa using Array.mem_of_getElem? ht
  have hall : ([22, 22].all fun u => !Tryd.prog.wantsStandIn u) = true := by kernel_rfl
  exact (show Tryd.prog.wantsStandIn t = false by simpa using List.all_eq_true.1 hall t hm)
/-- The card. -/
theorem card : Rows.FnExactSecretsOfCardSaid :=
  Claim7.holds_tied_plain_at .later [] _ _ _ _ over (fun _ h => by cases h) (by kernel_rfl) (fun _ h => by cases h) fnExactSecretsOf_row_tie rfl ⟨rfl, rfl⟩ (by kernel_rfl) rfl plain (by kernel_rfl)
end Go.Proofs.YthkiabcbpkhgiaaDoor.fnExactSecretsOf

namespace Go.Proofs.YthkiabcbpkhgiaaDoor
theorem fnExactSecretsOf_holds : Rows.FnExactSecretsOfCardSaid := fnExactSecretsOf.card
end Go.Proofs.YthkiabcbpkhgiaaDoor
