/- The walk of FnPairs, where the two tables hold what the program's text lays. -/
import Derived.Test.YtiabacnmmojfjaaGreatDoorJoint24
import Derived.Test.YtiabacnmmojfjaaGreatDoorPairS
import Derived.Test.YtiabacnmmojfjaaGreatDoorPairI
import Derived.Test.YtiabacnmmojfjaaGreatDoorJoint7
import Derived.Test.YtiabacnmmojfjaaGreatDoorJoint4
import Derived.Test.YtiabacnmmojfjaaGreatDoorJoint5
import Derived.Test.YtiabacnmmojfjaaGreatDoorJoint18
import Derived.Test.YtiabacnmmojfjaaGreatDoorJoint1
namespace Go.Proofs.YtiabacnmmojfjaaGreatDoor
open Go.ChangeShapes Go.WideShapes Go.ChangeAt Go.RowKit

theorem pairR_f0 (c : Int) (v1 v2 v3 v4 v5 v6 v7 v8 v9 v10 v11 v12 v13 v14 v15 v16 v17 v18 v19 v20 v21 v22 v23 v24 : Value) (w : World) : (Instr.field 34 (.agg #[.int .i64 c, v1, v2, v3, v4, v5, v6, v7, v8, v9, v10, v11, v12, v13, v14, v15, v16, v17, v18, v19, v20, v21, v22, v23, v24]) 0).run Tryz.prog w = .ok (.int .i64 c) w := by kernel_rfl
set_option maxRecDepth 4000 in
set_option maxHeartbeats 8000000 in
theorem fnPairs_walk (a : Option Addr) (cap : Nat) (bs0 : List UInt8) (w : World) (r0 : Rd w a cap bs0) (hT : Tabs w) :
    Calls Tryz.prog 3 #[.slice a bs0.length cap] w fun e w' => e = .returned (.bool true) ∧ Below w.heap.size w w' := by
  by_cases hl0 : 1048576 < bs0.length
  · go_enter Tryz.func3, Tryz.ntmps3
    go_wp2_with fail
    refine (lwBig_yes _ _ _ _ hl0).mono ?_
    rintro e w1 ⟨rfl, rfl⟩
    go_wp2
    go_ret
    exact ⟨rfl, Below.refl _ _⟩
  replace hl0 : bs0.length ≤ 1048576 := by omega
  go_enter Tryz.func3, Tryz.ntmps3
  go_wp2_with fail
  refine (lwBig_no _ _ _ _ hl0).mono ?_
  rintro e w1 ⟨rfl, hw1⟩
  rw [hw1]
  clear hw1 w1
  go_wp2_with fail
  refine (drawPA_c _ _ bs0 _ r0).mono ?_
  rintro e w1 ⟨pu, pv, qu, qv, x, ps, pt, qs, qt, y, rfl, -, -, -, -, r1, r2, r3, r4, BW⟩
  have BA := Below.mk (alloc_below w1 (.cells #[.int .i64 x.1, .slice pu x.2.1.length qu, .int .i64 x.2.2.1, .slice pv x.2.2.2.length qv] 25)) (.cells #[.int .i64 y.1, .slice ps y.2.1.length qs, .int .i64 y.2.2.1, .slice pt y.2.2.2.length qt] 25)
  have X := (Arr.new w1 [.int .i64 x.1, .slice pu x.2.1.length qu, .int .i64 x.2.2.1, .slice pv x.2.2.2.length qv] 25).old _ (.cells #[.int .i64 y.1, .slice ps y.2.1.length qs, .int .i64 y.2.2.1, .slice pt y.2.2.2.length qt] 25)
  have Y := Arr.new (w1.alloc (.cells #[.int .i64 x.1, .slice pu x.2.1.length qu, .int .i64 x.2.2.1, .slice pv x.2.2.2.length qv] 25)) [.int .i64 y.1, .slice ps y.2.1.length qs, .int .i64 y.2.2.1, .slice pt y.2.2.2.length qt] 25
  rw [size_alloc] at Y
  have HRX : Hid (sideC.rep ((w1.alloc (.cells #[.int .i64 x.1, .slice pu x.2.1.length qu, .int .i64 x.2.2.1, .slice pv x.2.2.2.length qv] 25)).alloc (.cells #[.int .i64 y.1, .slice ps y.2.1.length qs, .int .i64 y.2.2.1, .slice pt y.2.2.2.length qt] 25)) x [.int .i64 x.1, .slice pu x.2.1.length qu, .int .i64 x.2.2.1, .slice pv x.2.2.2.length qv]) := side_mk (r1.keep BA) (r2.keep BA)
  have HRY : Hid (sideC.rep ((w1.alloc (.cells #[.int .i64 x.1, .slice pu x.2.1.length qu, .int .i64 x.2.2.1, .slice pv x.2.2.2.length qv] 25)).alloc (.cells #[.int .i64 y.1, .slice ps y.2.1.length qs, .int .i64 y.2.2.1, .slice pt y.2.2.2.length qt] 25)) y [.int .i64 y.1, .slice ps y.2.1.length qs, .int .i64 y.2.2.1, .slice pt y.2.2.2.length qt]) := side_mk (r3.keep BA) (r4.keep BA)
  have HT : Hid (Tabs ((w1.alloc (.cells #[.int .i64 x.1, .slice pu x.2.1.length qu, .int .i64 x.2.2.1, .slice pv x.2.2.2.length qv] 25)).alloc (.cells #[.int .i64 y.1, .slice ps y.2.1.length qs, .int .i64 y.2.2.1, .slice pt y.2.2.2.length qt] 25))) := (hT.keep BW).keep BA
  replace BW := Below.step BW BA
  clear BA r0 r1 r2 r3 r4 hT hl0
  obtain ⟨P, HP⟩ : ∃ P, Hid (P = paD x y) := ⟨_, rfl⟩
  have KP := implPa_k x y _ _ _ HRX.out HRY.out HT.out
  rw [← HP.out] at KP
  go_wp2_with fail
  generalize (w1.alloc (.cells #[.int .i64 x.1, .slice pu x.2.1.length qu, .int .i64 x.2.2.1, .slice pv x.2.2.2.length qv] 25)).alloc (.cells #[.int .i64 y.1, .slice ps y.2.1.length qs, .int .i64 y.2.2.1, .slice pt y.2.2.2.length qt] 25) = V at *
  refine KP.mono ?_
  rintro e w2 ⟨usp, fpp, rfl, Kp, hb2⟩
  have hus : usp.length = 25 := pairResultC.len (pairResultC.toRep Kp)
  have hone := pairResultC.one (pairResultC.toRep Kp)
  obtain ⟨pc1, qc1, pc2, qc2, pc3, qc3, pc4, qc4, pc5, qc5, pc6, qc6, pc7, qc7, pc8, qc8, pd1, qd1, pd2, qd2, pd3, qd3, pd4, qd4, pd5, qd5, pd6, qd6, pd7, qd7, pd8, qd8, eU, -, -, -, -, -, -, -, -, -, -, -, -, -, -, -, -⟩ := pairResult_rep (pairResultC.toRep Kp)
  have HU : Hid (usp = [.int .i64 P.1, .int .i64 P.2.1.1.1, .slice pc1 P.2.1.1.2.1.length qc1, .int .i64 P.2.1.1.2.2.1, .slice pc2 P.2.1.1.2.2.2.length qc2, .int .i64 P.2.1.2.1, .int .i64 P.2.1.2.2.1, .slice pc3 P.2.1.2.2.2.1.length qc3, .slice pc4 P.2.1.2.2.2.2.1.length qc4, .slice pc5 P.2.1.2.2.2.2.2.1.length qc5, .slice pc6 P.2.1.2.2.2.2.2.2.1.length qc6, .slice pc7 P.2.1.2.2.2.2.2.2.2.1.length qc7, .slice pc8 P.2.1.2.2.2.2.2.2.2.2.length qc8, .int .i64 P.2.2.1.1, .slice pd1 P.2.2.1.2.1.length qd1, .int .i64 P.2.2.1.2.2.1, .slice pd2 P.2.2.1.2.2.2.length qd2, .int .i64 P.2.2.2.1, .int .i64 P.2.2.2.2.1, .slice pd3 P.2.2.2.2.2.1.length qd3, .slice pd4 P.2.2.2.2.2.2.1.length qd4, .slice pd5 P.2.2.2.2.2.2.2.1.length qd5, .slice pd6 P.2.2.2.2.2.2.2.2.1.length qd6, .slice pd7 P.2.2.2.2.2.2.2.2.2.1.length qd7, .slice pd8 P.2.2.2.2.2.2.2.2.2.2.length qd8]) := eU
  clear eU
  have AZ := Arr.new w2 [.int .i64 0, .int .i64 0, .slice none 0 0, .int .i64 0, .slice none 0 0, .int .i64 0, .int .i64 0, .slice none 0 0, .slice none 0 0, .slice none 0 0, .slice none 0 0, .slice none 0 0, .slice none 0 0, .int .i64 0, .slice none 0 0, .int .i64 0, .slice none 0 0, .int .i64 0, .int .i64 0, .slice none 0 0, .slice none 0 0, .slice none 0 0, .slice none 0 0, .slice none 0 0, .slice none 0 0] 34
  have hb3 : Below V.heap.size V ((w2.alloc (.cells #[.int .i64 0, .int .i64 0, .slice none 0 0, .int .i64 0, .slice none 0 0, .int .i64 0, .int .i64 0, .slice none 0 0, .slice none 0 0, .slice none 0 0, .slice none 0 0, .slice none 0 0, .slice none 0 0, .int .i64 0, .slice none 0 0, .int .i64 0, .slice none 0 0, .int .i64 0, .int .i64 0, .slice none 0 0, .slice none 0 0, .slice none 0 0, .slice none 0 0, .slice none 0 0, .slice none 0 0] 34)).setRow w2.heap.size usp.toArray) := Below.row (Below.step hb2 (alloc_below _ _)) hb2.size _
  have N := AZ.row usp
  have HGE : Hid (∀ k, k ∈ fpp → k ≠ w2.heap.size) := fun k hk e => by have := (pairResultC.ins Kp k hk).2; omega
  replace Kp := pairResultC.row (pairResultC.stay Kp (alloc_below w2 (.cells #[.int .i64 0, .int .i64 0, .slice none 0 0, .int .i64 0, .slice none 0 0, .int .i64 0, .int .i64 0, .slice none 0 0, .slice none 0 0, .slice none 0 0, .slice none 0 0, .slice none 0 0, .slice none 0 0, .int .i64 0, .slice none 0 0, .int .i64 0, .slice none 0 0, .int .i64 0, .int .i64 0, .slice none 0 0, .slice none 0 0, .slice none 0 0, .slice none 0 0, .slice none 0 0, .slice none 0 0] 34))) HGE.out usp.toArray
  have hres : Hid ((Tryz.prog.info? 34).map (·.size) = some usp.toArray.size) := by show _ = _; rw [List.size_toArray, hus]; kernel_rfl
  have H25 : Hid (usp.length = 25) := hus
  have HVW : Hid (Below V.heap.size V ((w2.alloc (.cells #[.int .i64 0, .int .i64 0, .slice none 0 0, .int .i64 0, .slice none 0 0, .int .i64 0, .int .i64 0, .slice none 0 0, .slice none 0 0, .slice none 0 0, .slice none 0 0, .slice none 0 0, .slice none 0 0, .int .i64 0, .slice none 0 0, .int .i64 0, .slice none 0 0, .int .i64 0, .int .i64 0, .slice none 0 0, .slice none 0 0, .slice none 0 0, .slice none 0 0, .slice none 0 0, .slice none 0 0] 34)).setRow w2.heap.size usp.toArray)) := hb3
  replace X := X.stay hb3
  replace Y := Y.stay hb3
  replace BW := Below.step BW hb3
  clear hb2 hb3 KP hus HGE
  have x0 := (X.cell 0).trans (show _ = some _ from rfl)
  have x1 := (X.cell 1).trans (show _ = some _ from rfl)
  have x2 := (X.cell 2).trans (show _ = some _ from rfl)
  have x3 := (X.cell 3).trans (show _ = some _ from rfl)
  have y0 := (Y.cell 0).trans (show _ = some _ from rfl)
  have y1 := (Y.cell 1).trans (show _ = some _ from rfl)
  have y2 := (Y.cell 2).trans (show _ = some _ from rfl)
  have y3 := (Y.cell 3).trans (show _ = some _ from rfl)
  have KS : Hid (∀ W, Below V.heap.size V W → Calls Tryz.prog 9 #[.agg #[.int .i64 x.1, .slice pu x.2.1.length qu, .int .i64 x.2.2.1, .slice pv x.2.2.2.length qv]] W fun e w' => e = .returned (.int .i64 (sfC x)) ∧ Below W.heap.size W w') := fun W hb => implSi_k x _ W (sideC.keep HRX.out hb)
  have KT : Hid (∀ W, Below V.heap.size V W → Calls Tryz.prog 9 #[.agg #[.int .i64 y.1, .slice ps y.2.1.length qs, .int .i64 y.2.2.1, .slice pt y.2.2.2.length qt]] W fun e w' => e = .returned (.int .i64 (sfC y)) ∧ Below W.heap.size W w') := fun W hb => implSi_k y _ W (sideC.keep HRY.out hb)
  have KSP : Hid (∀ W, Below V.heap.size V W → Calls Tryz.prog 10 #[.agg #[.int .i64 x.1, .slice pu x.2.1.length qu, .int .i64 x.2.2.1, .slice pv x.2.2.2.length qv], .agg #[.int .i64 y.1, .slice ps y.2.1.length qs, .int .i64 y.2.2.1, .slice pt y.2.2.2.length qt]] W fun e w' => ∃ us fp, e = .returned (.agg us.toArray) ∧ pairResultC.own w' W.heap.size P us fp ∧ Below W.heap.size W w') := fun W hb => by
    have h := specPa_k x y _ _ W (sideC.keep HRX.out hb) (sideC.keep HRY.out hb)
    rw [← HP.out] at h
    exact h
  by_cases hsx : sfC x = 0
  · have HSX : Hid (sfC x = 0) := hsx
    have KS0 : Hid (∀ W, Below V.heap.size V W → Calls Tryz.prog 9 #[.agg #[.int .i64 x.1, .slice pu x.2.1.length qu, .int .i64 x.2.2.1, .slice pv x.2.2.2.length qv]] W fun e w' => e = .returned (.int .i64 0) ∧ Below W.heap.size W w') := fun W hb => by have h := KS.out W hb; rw [hsx] at h; exact h
    clear hsx KS
    go_wp2_with (refine wpList_store_row rfl 34 _ _ rfl w2.heap.size usp.toArray rfl rfl 34 #[.int .i64 0, .int .i64 0, .slice none 0 0, .int .i64 0, .slice none 0 0, .int .i64 0, .int .i64 0, .slice none 0 0, .slice none 0 0, .slice none 0 0, .slice none 0 0, .slice none 0 0, .slice none 0 0, .int .i64 0, .slice none 0 0, .int .i64 0, .slice none 0 0, .int .i64 0, .int .i64 0, .slice none 0 0, .slice none 0 0, .slice none 0 0, .slice none 0 0, .slice none 0 0, .slice none 0 0] AZ hres.out (by have h := H25.out; simp [h]) (by simpa using hone) ?_)
    generalize (w2.alloc (.cells #[.int .i64 0, .int .i64 0, .slice none 0 0, .int .i64 0, .slice none 0 0, .int .i64 0, .int .i64 0, .slice none 0 0, .slice none 0 0, .slice none 0 0, .slice none 0 0, .slice none 0 0, .slice none 0 0, .int .i64 0, .slice none 0 0, .int .i64 0, .slice none 0 0, .int .i64 0, .int .i64 0, .slice none 0 0, .slice none 0 0, .slice none 0 0, .slice none 0 0, .slice none 0 0, .slice none 0 0] 34)).setRow w2.heap.size usp.toArray = V2 at *
    refine (KS0.out _ HVW.out).mono ?_
    rintro e w3 ⟨rfl, hb3⟩
    replace X := X.stay hb3
    replace Y := Y.stay hb3
    replace N := N.stay hb3
    replace BW := Below.step BW hb3
    replace HVW : Hid (Below V.heap.size V w3) := Below.step HVW.out hb3
    clear x0 x1 x2 x3 y0 y1 y2 y3
    replace Kp := pairResultC.stay Kp hb3
    clear hb3 KS0
    have y0 := (Y.cell 0).trans (show _ = some _ from rfl)
    have y1 := (Y.cell 1).trans (show _ = some _ from rfl)
    have y2 := (Y.cell 2).trans (show _ = some _ from rfl)
    have y3 := (Y.cell 3).trans (show _ = some _ from rfl)
    by_cases hsy : sfC y = 0
    · have HSY : Hid (sfC y = 0) := hsy
      have KT0 : Hid (∀ W, Below V.heap.size V W → Calls Tryz.prog 9 #[.agg #[.int .i64 y.1, .slice ps y.2.1.length qs, .int .i64 y.2.2.1, .slice pt y.2.2.2.length qt]] W fun e w' => e = .returned (.int .i64 0) ∧ Below W.heap.size W w') := fun W hb => by have h := KT.out W hb; rw [hsy] at h; exact h
      clear hsy KT
      go_wp2_with fail
      obtain ⟨V3, e3⟩ : ∃ v, v = w3 := ⟨_, rfl⟩
      subst e3
      refine (KT0.out _ HVW.out).mono ?_
      rintro e w4 ⟨rfl, hb4⟩
      replace X := X.stay hb4
      replace Y := Y.stay hb4
      replace N := N.stay hb4
      replace BW := Below.step BW hb4
      replace HVW : Hid (Below V.heap.size V w4) := Below.step HVW.out hb4
      replace Kp := pairResultC.stay Kp hb4
      clear hb4 KT0 y0 y1 y2 y3
      have x2 := (X.cell 2).trans (show _ = some _ from rfl)
      have x3 := (X.cell 3).trans (show _ = some _ from rfl)
      have y2 := (Y.cell 2).trans (show _ = some _ from rfl)
      have y3 := (Y.cell 3).trans (show _ = some _ from rfl)
      have RXK : Rd w4 pv qv x.2.2.2 := by
        obtain ⟨a1, b1, a2, b2, eq, -, rk⟩ := side_rep (sideC.keep HRX.out HVW.out)
        simp only [List.cons.injEq, Value.slice.injEq, true_and, and_true] at eq
        obtain ⟨-, rfl, rfl⟩ := eq
        exact rk
      have RYK : Rd w4 pt qt y.2.2.2 := by
        obtain ⟨a1, b1, a2, b2, eq, -, rk⟩ := side_rep (sideC.keep HRY.out HVW.out)
        simp only [List.cons.injEq, Value.slice.injEq, true_and, and_true] at eq
        obtain ⟨-, rfl, rfl⟩ := eq
        exact rk
      by_cases hpq : x.2.2.1 = y.2.2.1
      · have dpq : (x.2.2.1 == y.2.2.1) = true := by rw [beq_iff_eq]; exact hpq
        by_cases hk : x.2.2.2 = y.2.2.2
        · have HK : Hid (x.2.2.1 = y.2.2.1 → x.2.2.2 = y.2.2.2) := fun _ => hk
          have dk : (x.2.2.2 == y.2.2.2) = true := by rw [beq_iff_eq]; exact hk
          have HEQ : Hid (x.2.2.1 = y.2.2.1) := hpq
          clear hk hpq
          go_wp2_with fail
          refine (lwSame_c pv pt qv qt x.2.2.2 y.2.2.2 _ RXK RYK).mono ?_
          rintro e w5 ⟨rfl, hw5⟩
          subst w5
          rw [dk]
          obtain ⟨l, base, hP, he1, he2⟩ := paD_good HSX.out HSY.out HK.out
          rw [← HP.out] at hP
          obtain ⟨mo, HMO⟩ : ∃ mo, Hid (mo = pairM x y) := ⟨_, rfl⟩
          rw [← HMO.out] at hP he1 he2
          have HE1 : Hid (efC (doneE x mo base l) = 0) := he1
          have HE2 : Hid (efC (doneE y mo base l) = 0) := he2
          obtain ⟨sx, HSXN⟩ : ∃ sx, Hid (sx = secsN base (digM (l.take 3))) := ⟨_, rfl⟩
          have HU2 : Hid (usp = [.int .i64 0, .int .i64 x.1, .slice pc1 x.2.1.length qc1, .int .i64 x.2.2.1, .slice pc2 x.2.2.2.length qc2, .int .i64 3, .int .i64 mo, .slice pc3 l.length qc3, .slice pc4 base.length qc4, .slice pc5 sx.1.length qc5, .slice pc6 sx.2.1.length qc6, .slice pc7 sx.2.2.1.length qc7, .slice pc8 sx.2.2.2.length qc8, .int .i64 y.1, .slice pd1 y.2.1.length qd1, .int .i64 y.2.2.1, .slice pd2 y.2.2.2.length qd2, .int .i64 3, .int .i64 mo, .slice pd3 l.length qd3, .slice pd4 base.length qd4, .slice pd5 sx.1.length qd5, .slice pd6 sx.2.1.length qd6, .slice pd7 sx.2.2.1.length qd7, .slice pd8 sx.2.2.2.length qd8]) := by show _ = _; rw [HU.out, hP, HSXN.out]; rfl
          have HS32 : Hid (sx.2.2.1.length = 32) := by show _ = _; rw [HSXN.out]; exact trafN_len _ _ _
          have rp := pairResultC.toRep Kp
          rw [HU2.out, hP] at rp
          obtain ⟨re1, re2⟩ := pairR_reps (r := (0, (doneE x mo base l), (doneE y mo base l))) (us := [.int .i64 x.1, .slice pc1 x.2.1.length qc1, .int .i64 x.2.2.1, .slice pc2 x.2.2.2.length qc2, .int .i64 3, .int .i64 mo, .slice pc3 l.length qc3, .slice pc4 base.length qc4, .slice pc5 sx.1.length qc5, .slice pc6 sx.2.1.length qc6, .slice pc7 sx.2.2.1.length qc7, .slice pc8 sx.2.2.2.length qc8]) rp rfl
          have HR1 : Hid (endC.rep w4 (doneE x mo base l) [.int .i64 x.1, .slice pc1 x.2.1.length qc1, .int .i64 x.2.2.1, .slice pc2 x.2.2.2.length qc2, .int .i64 3, .int .i64 mo, .slice pc3 l.length qc3, .slice pc4 base.length qc4, .slice pc5 sx.1.length qc5, .slice pc6 sx.2.1.length qc6, .slice pc7 sx.2.2.1.length qc7, .slice pc8 sx.2.2.2.length qc8]) := re1
          have HR2 : Hid (endC.rep w4 (doneE y mo base l) [.int .i64 y.1, .slice pd1 y.2.1.length qd1, .int .i64 y.2.2.1, .slice pd2 y.2.2.2.length qd2, .int .i64 3, .int .i64 mo, .slice pd3 l.length qd3, .slice pd4 base.length qd4, .slice pd5 sx.1.length qd5, .slice pd6 sx.2.1.length qd6, .slice pd7 sx.2.2.1.length qd7, .slice pd8 sx.2.2.2.length qd8]) := re2
          obtain ⟨-, -, u3, -, u5, u6, u7, u8⟩ := end_unmk (e := (x, 3, mo, l, base, sx)) (by rw [HSXN.out]; rw [HSXN.out] at re1; exact re1)
          obtain ⟨-, -, v3, -, v5, v6, v7, v8⟩ := end_unmk (e := (y, 3, mo, l, base, sx)) (by rw [HSXN.out]; rw [HSXN.out] at re2; exact re2)
          have HRD : Hid ((Rd w4 pc5 qc5 sx.1 ∧ Rd w4 pc6 qc6 sx.2.1 ∧ Rd w4 pc7 qc7 sx.2.2.1 ∧ Rd w4 pc8 qc8 sx.2.2.2 ∧ RdL msgC w4 pc3 qc3 l) ∧ Rd w4 pd5 qd5 sx.1 ∧ Rd w4 pd6 qd6 sx.2.1 ∧ Rd w4 pd7 qd7 sx.2.2.1 ∧ Rd w4 pd8 qd8 sx.2.2.2 ∧ RdL msgC w4 pd3 qd3 l) := ⟨⟨u5, u6, u7, u8, u3⟩, v5, v6, v7, v8, v3⟩
          clear he1 he2 KSP HU hP rp re1 re2 u3 u5 u6 u7 u8 v3 v5 v6 v7 v8 Kp HSXN RXK RYK hone hres H25 AZ
          by_cases hz : x.2.2.1 = 0
          · have dz : (x.2.2.1 != 0) = false := by rw [bne_eq_false_iff_eq]; exact hz
            have hmo : mo = 1 := by
              rw [HMO.out, pairM, if_neg (fun h => h.1 hz)]
            subst hmo
            clear hz HMO
            have n0 : w4.cell? ⟨w2.heap.size, 0, none⟩ = some (.int .i64 0) := (N.cell 0).trans (by rw [HU2.out]; rfl)
            have n5 : w4.cell? ⟨w2.heap.size, 5, none⟩ = some (.int .i64 3) := (N.cell 5).trans (by rw [HU2.out]; rfl)
            have n6 : w4.cell? ⟨w2.heap.size, 6, none⟩ = some (.int .i64 1) := (N.cell 6).trans (by rw [HU2.out]; rfl)
            have n7 : w4.cell? ⟨w2.heap.size, 7, none⟩ = some (.slice pc3 l.length qc3) := (N.cell 7).trans (by rw [HU2.out]; rfl)
            have n9 : w4.cell? ⟨w2.heap.size, 9, none⟩ = some (.slice pc5 sx.1.length qc5) := (N.cell 9).trans (by rw [HU2.out]; rfl)
            have n10 : w4.cell? ⟨w2.heap.size, 10, none⟩ = some (.slice pc6 sx.2.1.length qc6) := (N.cell 10).trans (by rw [HU2.out]; rfl)
            have n11 : w4.cell? ⟨w2.heap.size, 11, none⟩ = some (.slice pc7 sx.2.2.1.length qc7) := (N.cell 11).trans (by rw [HU2.out]; rfl)
            have n12 : w4.cell? ⟨w2.heap.size, 12, none⟩ = some (.slice pc8 sx.2.2.2.length qc8) := (N.cell 12).trans (by rw [HU2.out]; rfl)
            have n17 : w4.cell? ⟨w2.heap.size, 17, none⟩ = some (.int .i64 3) := (N.cell 17).trans (by rw [HU2.out]; rfl)
            have n18 : w4.cell? ⟨w2.heap.size, 18, none⟩ = some (.int .i64 1) := (N.cell 18).trans (by rw [HU2.out]; rfl)
            have n19 : w4.cell? ⟨w2.heap.size, 19, none⟩ = some (.slice pd3 l.length qd3) := (N.cell 19).trans (by rw [HU2.out]; rfl)
            have n21 : w4.cell? ⟨w2.heap.size, 21, none⟩ = some (.slice pd5 sx.1.length qd5) := (N.cell 21).trans (by rw [HU2.out]; rfl)
            have n22 : w4.cell? ⟨w2.heap.size, 22, none⟩ = some (.slice pd6 sx.2.1.length qd6) := (N.cell 22).trans (by rw [HU2.out]; rfl)
            have n23 : w4.cell? ⟨w2.heap.size, 23, none⟩ = some (.slice pd7 sx.2.2.1.length qd7) := (N.cell 23).trans (by rw [HU2.out]; rfl)
            have n24 : w4.cell? ⟨w2.heap.size, 24, none⟩ = some (.slice pd8 sx.2.2.2.length qd8) := (N.cell 24).trans (by rw [HU2.out]; rfl)
            have zN := N.lt
            have zX := X.lt
            have zY := Y.lt
            have BL : Below w4.heap.size w4 ((w4.alloc (.cells #[.slice pc5 sx.1.length qc5, .slice pc6 sx.2.1.length qc6, .slice pc7 sx.2.2.1.length qc7, .slice pc8 sx.2.2.2.length qc8] 30)).alloc (.cells #[.slice pd5 sx.1.length qd5, .slice pd6 sx.2.1.length qd6, .slice pd7 sx.2.2.1.length qd7, .slice pd8 sx.2.2.2.length qd8] 30)) := Below.mk (alloc_below _ _) _
            have d32 : ((sx.2.2.1.length : Int) == 32) = true := by rw [beq_iff_eq, HS32.out]; rfl
            have SA := (Arr.new w4 [.slice pc5 sx.1.length qc5, .slice pc6 sx.2.1.length qc6, .slice pc7 sx.2.2.1.length qc7, .slice pc8 sx.2.2.2.length qc8] 30).old _ (.cells #[.slice pd5 sx.1.length qd5, .slice pd6 sx.2.1.length qd6, .slice pd7 sx.2.2.1.length qd7, .slice pd8 sx.2.2.2.length qd8] 30)
            have SB := Arr.new (w4.alloc (.cells #[.slice pc5 sx.1.length qc5, .slice pc6 sx.2.1.length qc6, .slice pc7 sx.2.2.1.length qc7, .slice pc8 sx.2.2.2.length qc8] 30)) [.slice pd5 sx.1.length qd5, .slice pd6 sx.2.1.length qd6, .slice pd7 sx.2.2.1.length qd7, .slice pd8 sx.2.2.2.length qd8] 30
            rw [size_alloc] at SB
            go_wp2_with fail
            generalize (w4.alloc (.cells #[.slice pc5 sx.1.length qc5, .slice pc6 sx.2.1.length qc6, .slice pc7 sx.2.2.1.length qc7, .slice pc8 sx.2.2.2.length qc8] 30)).alloc (.cells #[.slice pd5 sx.1.length qd5, .slice pd6 sx.2.1.length qd6, .slice pd7 sx.2.2.1.length qd7, .slice pd8 sx.2.2.2.length qd8] 30) = V5 at *
            clear n0 n5 n6 n7 n9 n10 n11 n12 n17 n18 n19 n21 n22 n23 n24 X Y zX zY zN
            replace N := N.stay BL
            replace BW := Below.step BW BL
            have HBL : Hid (Below w4.heap.size w4 V5) := BL
            clear BL
            have a1 := (SA.cell 1).trans (show _ = some _ from rfl)
            have a2 := (SA.cell 2).trans (show _ = some _ from rfl)
            have a3 := (SA.cell 3).trans (show _ = some _ from rfl)
            have b1 := (SB.cell 1).trans (show _ = some _ from rfl)
            have b2 := (SB.cell 2).trans (show _ = some _ from rfl)
            have b3 := (SB.cell 3).trans (show _ = some _ from rfl)
            have n7 : V5.cell? ⟨w2.heap.size, 7, none⟩ = some (.slice pc3 l.length qc3) := (N.cell 7).trans (by rw [HU2.out]; rfl)
            have n19 : V5.cell? ⟨w2.heap.size, 19, none⟩ = some (.slice pd3 l.length qd3) := (N.cell 19).trans (by rw [HU2.out]; rfl)
            refine (lwSame_c pc5 pd5 qc5 qd5 sx.1 sx.1 _ (HRD.out.1.1.keep HBL.out) (HRD.out.2.1.keep HBL.out)).mono ?_
            rintro e w6 ⟨rfl, hw6⟩
            subst w6
            rw [show (sx.1 == sx.1) = true by simp]
            go_wp2_with fail
            refine (lwSame_c pc6 pd6 qc6 qd6 sx.2.1 sx.2.1 _ (HRD.out.1.2.1.keep HBL.out) (HRD.out.2.2.1.keep HBL.out)).mono ?_
            rintro e w6 ⟨rfl, hw6⟩
            subst w6
            rw [show (sx.2.1 == sx.2.1) = true by simp]
            go_wp2_with fail
            refine (lwSame_c pc7 pd7 qc7 qd7 sx.2.2.1 sx.2.2.1 _ (HRD.out.1.2.2.1.keep HBL.out) (HRD.out.2.2.2.1.keep HBL.out)).mono ?_
            rintro e w6 ⟨rfl, hw6⟩
            subst w6
            rw [show (sx.2.2.1 == sx.2.2.1) = true by simp]
            go_wp2_with fail
            refine (lwSame_c pc8 pd8 qc8 qd8 sx.2.2.2 sx.2.2.2 _ (HRD.out.1.2.2.2.1.keep HBL.out) (HRD.out.2.2.2.2.1.keep HBL.out)).mono ?_
            rintro e w6 ⟨rfl, hw6⟩
            subst w6
            rw [show (sx.2.2.2 == sx.2.2.2) = true by simp]
            go_wp2_with fail
            refine (implSM_c l l pc3 pd3 qc3 qd3 _ (HRD.out.1.2.2.2.2.keep HBL.out) (HRD.out.2.2.2.2.2.keep HBL.out)).mono ?_
            rintro e w6 ⟨rfl, hb6⟩
            rw [show sameM l l = true by simp [sameM]]
            replace N := N.stay hb6
            replace BW := Below.step BW hb6
            replace HBL : Hid (Below w4.heap.size w4 w6) := Below.step HBL.out hb6
            clear hb6 a1 a2 a3 b1 b2 b3 SA SB n7 n19
            have KE1 := implEf_k (doneE x 1 base l) _ w6 (endC.keep HR1.out HBL.out)
            rw [HE1.out] at KE1
            have n1 : w6.cell? ⟨w2.heap.size, 1, none⟩ = some (.int .i64 x.1) := (N.cell 1).trans (by rw [HU2.out]; rfl)
            have n2 : w6.cell? ⟨w2.heap.size, 2, none⟩ = some (.slice pc1 x.2.1.length qc1) := (N.cell 2).trans (by rw [HU2.out]; rfl)
            have n3 : w6.cell? ⟨w2.heap.size, 3, none⟩ = some (.int .i64 x.2.2.1) := (N.cell 3).trans (by rw [HU2.out]; rfl)
            have n4 : w6.cell? ⟨w2.heap.size, 4, none⟩ = some (.slice pc2 x.2.2.2.length qc2) := (N.cell 4).trans (by rw [HU2.out]; rfl)
            have n5 : w6.cell? ⟨w2.heap.size, 5, none⟩ = some (.int .i64 3) := (N.cell 5).trans (by rw [HU2.out]; rfl)
            have n6 : w6.cell? ⟨w2.heap.size, 6, none⟩ = some (.int .i64 1) := (N.cell 6).trans (by rw [HU2.out]; rfl)
            have n7 : w6.cell? ⟨w2.heap.size, 7, none⟩ = some (.slice pc3 l.length qc3) := (N.cell 7).trans (by rw [HU2.out]; rfl)
            have n8 : w6.cell? ⟨w2.heap.size, 8, none⟩ = some (.slice pc4 base.length qc4) := (N.cell 8).trans (by rw [HU2.out]; rfl)
            have n9 : w6.cell? ⟨w2.heap.size, 9, none⟩ = some (.slice pc5 sx.1.length qc5) := (N.cell 9).trans (by rw [HU2.out]; rfl)
            have n10 : w6.cell? ⟨w2.heap.size, 10, none⟩ = some (.slice pc6 sx.2.1.length qc6) := (N.cell 10).trans (by rw [HU2.out]; rfl)
            have n11 : w6.cell? ⟨w2.heap.size, 11, none⟩ = some (.slice pc7 sx.2.2.1.length qc7) := (N.cell 11).trans (by rw [HU2.out]; rfl)
            have n12 : w6.cell? ⟨w2.heap.size, 12, none⟩ = some (.slice pc8 sx.2.2.2.length qc8) := (N.cell 12).trans (by rw [HU2.out]; rfl)
            go_wp2_with fail
            refine KE1.mono ?_
            rintro e w7 ⟨rfl, hb7⟩
            replace N := N.stay hb7
            replace BW := Below.step BW hb7
            replace HBL : Hid (Below w4.heap.size w4 w7) := Below.step HBL.out hb7
            clear hb7 KE1 n1 n2 n3 n4 n5 n6 n7 n8 n9 n10 n11 n12
            have KE2 := implEf_k (doneE y 1 base l) _ w7 (endC.keep HR2.out HBL.out)
            rw [HE2.out] at KE2
            have n13 : w7.cell? ⟨w2.heap.size, 13, none⟩ = some (.int .i64 y.1) := (N.cell 13).trans (by rw [HU2.out]; rfl)
            have n14 : w7.cell? ⟨w2.heap.size, 14, none⟩ = some (.slice pd1 y.2.1.length qd1) := (N.cell 14).trans (by rw [HU2.out]; rfl)
            have n15 : w7.cell? ⟨w2.heap.size, 15, none⟩ = some (.int .i64 y.2.2.1) := (N.cell 15).trans (by rw [HU2.out]; rfl)
            have n16 : w7.cell? ⟨w2.heap.size, 16, none⟩ = some (.slice pd2 y.2.2.2.length qd2) := (N.cell 16).trans (by rw [HU2.out]; rfl)
            have n17 : w7.cell? ⟨w2.heap.size, 17, none⟩ = some (.int .i64 3) := (N.cell 17).trans (by rw [HU2.out]; rfl)
            have n18 : w7.cell? ⟨w2.heap.size, 18, none⟩ = some (.int .i64 1) := (N.cell 18).trans (by rw [HU2.out]; rfl)
            have n19 : w7.cell? ⟨w2.heap.size, 19, none⟩ = some (.slice pd3 l.length qd3) := (N.cell 19).trans (by rw [HU2.out]; rfl)
            have n20 : w7.cell? ⟨w2.heap.size, 20, none⟩ = some (.slice pd4 base.length qd4) := (N.cell 20).trans (by rw [HU2.out]; rfl)
            have n21 : w7.cell? ⟨w2.heap.size, 21, none⟩ = some (.slice pd5 sx.1.length qd5) := (N.cell 21).trans (by rw [HU2.out]; rfl)
            have n22 : w7.cell? ⟨w2.heap.size, 22, none⟩ = some (.slice pd6 sx.2.1.length qd6) := (N.cell 22).trans (by rw [HU2.out]; rfl)
            have n23 : w7.cell? ⟨w2.heap.size, 23, none⟩ = some (.slice pd7 sx.2.2.1.length qd7) := (N.cell 23).trans (by rw [HU2.out]; rfl)
            have n24 : w7.cell? ⟨w2.heap.size, 24, none⟩ = some (.slice pd8 sx.2.2.2.length qd8) := (N.cell 24).trans (by rw [HU2.out]; rfl)
            go_wp2_with fail
            refine KE2.mono ?_
            rintro e w8 ⟨rfl, hb8⟩
            go_wp2
            go_ret
            exact ⟨rfl, Below.step BW hb8⟩
          · have dz : (x.2.2.1 != 0) = true := by rw [bne_iff_ne]; exact hz
            have hmo : mo = 2 := by
              rw [HMO.out, pairM, if_pos ⟨hz, HEQ.out⟩]
            subst hmo
            clear hz HMO
            have n0 : w4.cell? ⟨w2.heap.size, 0, none⟩ = some (.int .i64 0) := (N.cell 0).trans (by rw [HU2.out]; rfl)
            have n5 : w4.cell? ⟨w2.heap.size, 5, none⟩ = some (.int .i64 3) := (N.cell 5).trans (by rw [HU2.out]; rfl)
            have n6 : w4.cell? ⟨w2.heap.size, 6, none⟩ = some (.int .i64 2) := (N.cell 6).trans (by rw [HU2.out]; rfl)
            have n7 : w4.cell? ⟨w2.heap.size, 7, none⟩ = some (.slice pc3 l.length qc3) := (N.cell 7).trans (by rw [HU2.out]; rfl)
            have n9 : w4.cell? ⟨w2.heap.size, 9, none⟩ = some (.slice pc5 sx.1.length qc5) := (N.cell 9).trans (by rw [HU2.out]; rfl)
            have n10 : w4.cell? ⟨w2.heap.size, 10, none⟩ = some (.slice pc6 sx.2.1.length qc6) := (N.cell 10).trans (by rw [HU2.out]; rfl)
            have n11 : w4.cell? ⟨w2.heap.size, 11, none⟩ = some (.slice pc7 sx.2.2.1.length qc7) := (N.cell 11).trans (by rw [HU2.out]; rfl)
            have n12 : w4.cell? ⟨w2.heap.size, 12, none⟩ = some (.slice pc8 sx.2.2.2.length qc8) := (N.cell 12).trans (by rw [HU2.out]; rfl)
            have n17 : w4.cell? ⟨w2.heap.size, 17, none⟩ = some (.int .i64 3) := (N.cell 17).trans (by rw [HU2.out]; rfl)
            have n18 : w4.cell? ⟨w2.heap.size, 18, none⟩ = some (.int .i64 2) := (N.cell 18).trans (by rw [HU2.out]; rfl)
            have n19 : w4.cell? ⟨w2.heap.size, 19, none⟩ = some (.slice pd3 l.length qd3) := (N.cell 19).trans (by rw [HU2.out]; rfl)
            have n21 : w4.cell? ⟨w2.heap.size, 21, none⟩ = some (.slice pd5 sx.1.length qd5) := (N.cell 21).trans (by rw [HU2.out]; rfl)
            have n22 : w4.cell? ⟨w2.heap.size, 22, none⟩ = some (.slice pd6 sx.2.1.length qd6) := (N.cell 22).trans (by rw [HU2.out]; rfl)
            have n23 : w4.cell? ⟨w2.heap.size, 23, none⟩ = some (.slice pd7 sx.2.2.1.length qd7) := (N.cell 23).trans (by rw [HU2.out]; rfl)
            have n24 : w4.cell? ⟨w2.heap.size, 24, none⟩ = some (.slice pd8 sx.2.2.2.length qd8) := (N.cell 24).trans (by rw [HU2.out]; rfl)
            have zN := N.lt
            have zX := X.lt
            have zY := Y.lt
            have BL : Below w4.heap.size w4 ((w4.alloc (.cells #[.slice pc5 sx.1.length qc5, .slice pc6 sx.2.1.length qc6, .slice pc7 sx.2.2.1.length qc7, .slice pc8 sx.2.2.2.length qc8] 30)).alloc (.cells #[.slice pd5 sx.1.length qd5, .slice pd6 sx.2.1.length qd6, .slice pd7 sx.2.2.1.length qd7, .slice pd8 sx.2.2.2.length qd8] 30)) := Below.mk (alloc_below _ _) _
            have d32 : ((sx.2.2.1.length : Int) == 32) = true := by rw [beq_iff_eq, HS32.out]; rfl
            have SA := (Arr.new w4 [.slice pc5 sx.1.length qc5, .slice pc6 sx.2.1.length qc6, .slice pc7 sx.2.2.1.length qc7, .slice pc8 sx.2.2.2.length qc8] 30).old _ (.cells #[.slice pd5 sx.1.length qd5, .slice pd6 sx.2.1.length qd6, .slice pd7 sx.2.2.1.length qd7, .slice pd8 sx.2.2.2.length qd8] 30)
            have SB := Arr.new (w4.alloc (.cells #[.slice pc5 sx.1.length qc5, .slice pc6 sx.2.1.length qc6, .slice pc7 sx.2.2.1.length qc7, .slice pc8 sx.2.2.2.length qc8] 30)) [.slice pd5 sx.1.length qd5, .slice pd6 sx.2.1.length qd6, .slice pd7 sx.2.2.1.length qd7, .slice pd8 sx.2.2.2.length qd8] 30
            rw [size_alloc] at SB
            go_wp2_with fail
            generalize (w4.alloc (.cells #[.slice pc5 sx.1.length qc5, .slice pc6 sx.2.1.length qc6, .slice pc7 sx.2.2.1.length qc7, .slice pc8 sx.2.2.2.length qc8] 30)).alloc (.cells #[.slice pd5 sx.1.length qd5, .slice pd6 sx.2.1.length qd6, .slice pd7 sx.2.2.1.length qd7, .slice pd8 sx.2.2.2.length qd8] 30) = V5 at *
            clear n0 n5 n6 n7 n9 n10 n11 n12 n17 n18 n19 n21 n22 n23 n24 X Y zX zY zN
            replace N := N.stay BL
            replace BW := Below.step BW BL
            have HBL : Hid (Below w4.heap.size w4 V5) := BL
            clear BL
            have a1 := (SA.cell 1).trans (show _ = some _ from rfl)
            have a2 := (SA.cell 2).trans (show _ = some _ from rfl)
            have a3 := (SA.cell 3).trans (show _ = some _ from rfl)
            have b1 := (SB.cell 1).trans (show _ = some _ from rfl)
            have b2 := (SB.cell 2).trans (show _ = some _ from rfl)
            have b3 := (SB.cell 3).trans (show _ = some _ from rfl)
            have n7 : V5.cell? ⟨w2.heap.size, 7, none⟩ = some (.slice pc3 l.length qc3) := (N.cell 7).trans (by rw [HU2.out]; rfl)
            have n19 : V5.cell? ⟨w2.heap.size, 19, none⟩ = some (.slice pd3 l.length qd3) := (N.cell 19).trans (by rw [HU2.out]; rfl)
            refine (lwSame_c pc5 pd5 qc5 qd5 sx.1 sx.1 _ (HRD.out.1.1.keep HBL.out) (HRD.out.2.1.keep HBL.out)).mono ?_
            rintro e w6 ⟨rfl, hw6⟩
            subst w6
            rw [show (sx.1 == sx.1) = true by simp]
            go_wp2_with fail
            refine (lwSame_c pc6 pd6 qc6 qd6 sx.2.1 sx.2.1 _ (HRD.out.1.2.1.keep HBL.out) (HRD.out.2.2.1.keep HBL.out)).mono ?_
            rintro e w6 ⟨rfl, hw6⟩
            subst w6
            rw [show (sx.2.1 == sx.2.1) = true by simp]
            go_wp2_with fail
            refine (lwSame_c pc7 pd7 qc7 qd7 sx.2.2.1 sx.2.2.1 _ (HRD.out.1.2.2.1.keep HBL.out) (HRD.out.2.2.2.1.keep HBL.out)).mono ?_
            rintro e w6 ⟨rfl, hw6⟩
            subst w6
            rw [show (sx.2.2.1 == sx.2.2.1) = true by simp]
            go_wp2_with fail
            refine (lwSame_c pc8 pd8 qc8 qd8 sx.2.2.2 sx.2.2.2 _ (HRD.out.1.2.2.2.1.keep HBL.out) (HRD.out.2.2.2.2.1.keep HBL.out)).mono ?_
            rintro e w6 ⟨rfl, hw6⟩
            subst w6
            rw [show (sx.2.2.2 == sx.2.2.2) = true by simp]
            go_wp2_with fail
            refine (implSM_c l l pc3 pd3 qc3 qd3 _ (HRD.out.1.2.2.2.2.keep HBL.out) (HRD.out.2.2.2.2.2.keep HBL.out)).mono ?_
            rintro e w6 ⟨rfl, hb6⟩
            rw [show sameM l l = true by simp [sameM]]
            replace N := N.stay hb6
            replace BW := Below.step BW hb6
            replace HBL : Hid (Below w4.heap.size w4 w6) := Below.step HBL.out hb6
            clear hb6 a1 a2 a3 b1 b2 b3 SA SB n7 n19
            have KE1 := implEf_k (doneE x 2 base l) _ w6 (endC.keep HR1.out HBL.out)
            rw [HE1.out] at KE1
            have n1 : w6.cell? ⟨w2.heap.size, 1, none⟩ = some (.int .i64 x.1) := (N.cell 1).trans (by rw [HU2.out]; rfl)
            have n2 : w6.cell? ⟨w2.heap.size, 2, none⟩ = some (.slice pc1 x.2.1.length qc1) := (N.cell 2).trans (by rw [HU2.out]; rfl)
            have n3 : w6.cell? ⟨w2.heap.size, 3, none⟩ = some (.int .i64 x.2.2.1) := (N.cell 3).trans (by rw [HU2.out]; rfl)
            have n4 : w6.cell? ⟨w2.heap.size, 4, none⟩ = some (.slice pc2 x.2.2.2.length qc2) := (N.cell 4).trans (by rw [HU2.out]; rfl)
            have n5 : w6.cell? ⟨w2.heap.size, 5, none⟩ = some (.int .i64 3) := (N.cell 5).trans (by rw [HU2.out]; rfl)
            have n6 : w6.cell? ⟨w2.heap.size, 6, none⟩ = some (.int .i64 2) := (N.cell 6).trans (by rw [HU2.out]; rfl)
            have n7 : w6.cell? ⟨w2.heap.size, 7, none⟩ = some (.slice pc3 l.length qc3) := (N.cell 7).trans (by rw [HU2.out]; rfl)
            have n8 : w6.cell? ⟨w2.heap.size, 8, none⟩ = some (.slice pc4 base.length qc4) := (N.cell 8).trans (by rw [HU2.out]; rfl)
            have n9 : w6.cell? ⟨w2.heap.size, 9, none⟩ = some (.slice pc5 sx.1.length qc5) := (N.cell 9).trans (by rw [HU2.out]; rfl)
            have n10 : w6.cell? ⟨w2.heap.size, 10, none⟩ = some (.slice pc6 sx.2.1.length qc6) := (N.cell 10).trans (by rw [HU2.out]; rfl)
            have n11 : w6.cell? ⟨w2.heap.size, 11, none⟩ = some (.slice pc7 sx.2.2.1.length qc7) := (N.cell 11).trans (by rw [HU2.out]; rfl)
            have n12 : w6.cell? ⟨w2.heap.size, 12, none⟩ = some (.slice pc8 sx.2.2.2.length qc8) := (N.cell 12).trans (by rw [HU2.out]; rfl)
            go_wp2_with fail
            refine KE1.mono ?_
            rintro e w7 ⟨rfl, hb7⟩
            replace N := N.stay hb7
            replace BW := Below.step BW hb7
            replace HBL : Hid (Below w4.heap.size w4 w7) := Below.step HBL.out hb7
            clear hb7 KE1 n1 n2 n3 n4 n5 n6 n7 n8 n9 n10 n11 n12
            have KE2 := implEf_k (doneE y 2 base l) _ w7 (endC.keep HR2.out HBL.out)
            rw [HE2.out] at KE2
            have n13 : w7.cell? ⟨w2.heap.size, 13, none⟩ = some (.int .i64 y.1) := (N.cell 13).trans (by rw [HU2.out]; rfl)
            have n14 : w7.cell? ⟨w2.heap.size, 14, none⟩ = some (.slice pd1 y.2.1.length qd1) := (N.cell 14).trans (by rw [HU2.out]; rfl)
            have n15 : w7.cell? ⟨w2.heap.size, 15, none⟩ = some (.int .i64 y.2.2.1) := (N.cell 15).trans (by rw [HU2.out]; rfl)
            have n16 : w7.cell? ⟨w2.heap.size, 16, none⟩ = some (.slice pd2 y.2.2.2.length qd2) := (N.cell 16).trans (by rw [HU2.out]; rfl)
            have n17 : w7.cell? ⟨w2.heap.size, 17, none⟩ = some (.int .i64 3) := (N.cell 17).trans (by rw [HU2.out]; rfl)
            have n18 : w7.cell? ⟨w2.heap.size, 18, none⟩ = some (.int .i64 2) := (N.cell 18).trans (by rw [HU2.out]; rfl)
            have n19 : w7.cell? ⟨w2.heap.size, 19, none⟩ = some (.slice pd3 l.length qd3) := (N.cell 19).trans (by rw [HU2.out]; rfl)
            have n20 : w7.cell? ⟨w2.heap.size, 20, none⟩ = some (.slice pd4 base.length qd4) := (N.cell 20).trans (by rw [HU2.out]; rfl)
            have n21 : w7.cell? ⟨w2.heap.size, 21, none⟩ = some (.slice pd5 sx.1.length qd5) := (N.cell 21).trans (by rw [HU2.out]; rfl)
            have n22 : w7.cell? ⟨w2.heap.size, 22, none⟩ = some (.slice pd6 sx.2.1.length qd6) := (N.cell 22).trans (by rw [HU2.out]; rfl)
            have n23 : w7.cell? ⟨w2.heap.size, 23, none⟩ = some (.slice pd7 sx.2.2.1.length qd7) := (N.cell 23).trans (by rw [HU2.out]; rfl)
            have n24 : w7.cell? ⟨w2.heap.size, 24, none⟩ = some (.slice pd8 sx.2.2.2.length qd8) := (N.cell 24).trans (by rw [HU2.out]; rfl)
            go_wp2_with fail
            refine KE2.mono ?_
            rintro e w8 ⟨rfl, hb8⟩
            go_wp2
            go_ret
            exact ⟨rfl, Below.step BW hb8⟩
        · have dk : (x.2.2.2 == y.2.2.2) = false := by rw [beq_eq_false_iff_ne]; exact hk
          clear hk hpq
          go_wp2_with fail
          refine (lwSame_c pv pt qv qt x.2.2.2 y.2.2.2 _ RXK RYK).mono ?_
          rintro e w5 ⟨rfl, hw5⟩
          subst w5
          rw [dk]
          clear x2 x3 y2 y3 Kp RXK RYK
          go_wp2_with fail
          have hne := HW.some w4
          have g0 := HW.at ((X.cell 0).trans (show _ = some _ from rfl))
          have g1 := HW.at ((X.cell 1).trans (show _ = some _ from rfl))
          have g2 := HW.at ((X.cell 2).trans (show _ = some _ from rfl))
          have g3 := HW.at ((X.cell 3).trans (show _ = some _ from rfl))
          have h0 := HW.at ((Y.cell 0).trans (show _ = some _ from rfl))
          have h1 := HW.at ((Y.cell 1).trans (show _ = some _ from rfl))
          have h2 := HW.at ((Y.cell 2).trans (show _ = some _ from rfl))
          have h3 := HW.at ((Y.cell 3).trans (show _ = some _ from rfl))
          have n0 := HW.at ((N.cell 0).trans (show _ = some (.int .i64 P.1) by rw [HU.out]; rfl))
          have BV := Below.refl w4.heap.size w4
          have dE : (P.1 == P.1) = true := by simp
          refine wp_region_pick [0, 1, 2, 3] 7 3 1 rfl rfl rfl (by kernel_rfl) (by kernel_rfl) (by kernel_rfl) (by kernel_rfl) ?_
          simp only [opsAt, List.getElem?_toArray, List.getElem?_cons_zero, List.getElem?_cons_succ]
          repeat (go_big_quiet_step (fail))
          refine wpQuiet_nil ?_
          clear g0 g1 g2 g3 h0 h1 h2 h3 n0
          refine wpM_only (i := 4) (by kernel_rfl) ?_
          refine mOp_call rfl (by go_simp) 10 _ #[.agg #[.int .i64 x.1, .slice pu x.2.1.length qu, .int .i64 x.2.2.1, .slice pv x.2.2.2.length qv], .agg #[.int .i64 y.1, .slice ps y.2.1.length qs, .int .i64 y.2.2.1, .slice pt y.2.2.2.length qt]] (fun w => by go_simp) rfl ?_
          rintro _ ⟨sg, rfl⟩
          refine (KSP.out _ (Below.step HVW.out (Below.step BV sg.h))).mono ?_
          rintro e wg0 ⟨uss, fps, rfl, Ks, hbx⟩
          have hf : ∀ w, (Instr.field 34 (.agg uss.toArray) 0).run Tryz.prog w = .ok (.int .i64 P.1) w := by
            obtain ⟨ps1, qs1, ps2, qs2, ps3, qs3, ps4, qs4, ps5, qs5, ps6, qs6, ps7, qs7, ps8, qs8, pt1, qt1, pt2, qt2, pt3, qt3, pt4, qt4, pt5, qt5, pt6, qt6, pt7, qt7, pt8, qt8, eu, -, -, -, -, -, -, -, -, -, -, -, -, -, -, -, -⟩ := pairResult_rep (pairResultC.toRep Ks)
            subst eu
            exact fun w => pairR_f0 P.1 (.int .i64 P.2.1.1.1) (.slice ps1 P.2.1.1.2.1.length qs1) (.int .i64 P.2.1.1.2.2.1) (.slice ps2 P.2.1.1.2.2.2.length qs2) (.int .i64 P.2.1.2.1) (.int .i64 P.2.1.2.2.1) (.slice ps3 P.2.1.2.2.2.1.length qs3) (.slice ps4 P.2.1.2.2.2.2.1.length qs4) (.slice ps5 P.2.1.2.2.2.2.2.1.length qs5) (.slice ps6 P.2.1.2.2.2.2.2.2.1.length qs6) (.slice ps7 P.2.1.2.2.2.2.2.2.2.1.length qs7) (.slice ps8 P.2.1.2.2.2.2.2.2.2.2.length qs8) (.int .i64 P.2.2.1.1) (.slice pt1 P.2.2.1.2.1.length qt1) (.int .i64 P.2.2.1.2.2.1) (.slice pt2 P.2.2.1.2.2.2.length qt2) (.int .i64 P.2.2.2.1) (.int .i64 P.2.2.2.2.1) (.slice pt3 P.2.2.2.2.2.1.length qt3) (.slice pt4 P.2.2.2.2.2.2.1.length qt4) (.slice pt5 P.2.2.2.2.2.2.2.1.length qt5) (.slice pt6 P.2.2.2.2.2.2.2.2.1.length qt6) (.slice pt7 P.2.2.2.2.2.2.2.2.2.1.length qt7) (.slice pt8 P.2.2.2.2.2.2.2.2.2.2.length qt8) w
          have hbg := Below.step sg.h hbx
          refine ⟨_, rfl, ⟨⟨wg0, hbx⟩, rfl⟩, ?_⟩
          have I0 : Hid (∀ k, k ∈ fps → w4.heap.size ≤ k ∧ k < wg0.heap.size) := fun k hk => ⟨Nat.le_trans sg.h.size (pairResultC.ins Ks k hk).1, (pairResultC.ins Ks k hk).2⟩
          have T0 : Hid (w4.heap.size ≤ wg0.heap.size) := Nat.le_trans sg.h.size hbx.size
          replace Ks := pairResultC.low Ks (Below.step BV sg.h).size
          replace BV := Below.step BV hbg
          replace hne := HW.some wg0
          clear hbg hbx sg
          refine wpM_more [5, 6] 2 0 rfl (by kernel_rfl) (by kernel_rfl) (by kernel_rfl) (by kernel_rfl) ?_
          simp only [opsAt, List.getElem?_toArray, List.getElem?_cons_zero, List.getElem?_cons_succ]
          go_simp
          repeat (go_big_quiet_step (fail))
          refine wpQuiet_nil ?_
          refine wpM_end (by kernel_rfl) rfl (by kernel_rfl) (by decide) ?_
          rintro _ ⟨sgz, rfl⟩
          simp only [List.drop_succ_cons, List.drop_zero]
          go_simp
          replace Ks := pairResultC.stay Ks sgz.h
          replace BV := Below.step BV sgz.h
          clear hne
          generalize sgz.w = W at *
          clear sgz
          go_wp2
          go_ret
          exact ⟨rfl, Below.step BW BV⟩
      · have dpq : (x.2.2.1 == y.2.2.1) = false := by rw [beq_eq_false_iff_ne]; exact hpq
        have HK : Hid (x.2.2.1 = y.2.2.1 → x.2.2.2 = y.2.2.2) := fun h => absurd h hpq
        have HEQ : Hid (¬ x.2.2.1 = y.2.2.1) := hpq
        clear hpq
        obtain ⟨l, base, hP, he1, he2⟩ := paD_good HSX.out HSY.out HK.out
        rw [← HP.out] at hP
        obtain ⟨mo, HMO⟩ : ∃ mo, Hid (mo = pairM x y) := ⟨_, rfl⟩
        rw [← HMO.out] at hP he1 he2
        have HE1 : Hid (efC (doneE x mo base l) = 0) := he1
        have HE2 : Hid (efC (doneE y mo base l) = 0) := he2
        obtain ⟨sx, HSXN⟩ : ∃ sx, Hid (sx = secsN base (digM (l.take 3))) := ⟨_, rfl⟩
        have HU2 : Hid (usp = [.int .i64 0, .int .i64 x.1, .slice pc1 x.2.1.length qc1, .int .i64 x.2.2.1, .slice pc2 x.2.2.2.length qc2, .int .i64 3, .int .i64 mo, .slice pc3 l.length qc3, .slice pc4 base.length qc4, .slice pc5 sx.1.length qc5, .slice pc6 sx.2.1.length qc6, .slice pc7 sx.2.2.1.length qc7, .slice pc8 sx.2.2.2.length qc8, .int .i64 y.1, .slice pd1 y.2.1.length qd1, .int .i64 y.2.2.1, .slice pd2 y.2.2.2.length qd2, .int .i64 3, .int .i64 mo, .slice pd3 l.length qd3, .slice pd4 base.length qd4, .slice pd5 sx.1.length qd5, .slice pd6 sx.2.1.length qd6, .slice pd7 sx.2.2.1.length qd7, .slice pd8 sx.2.2.2.length qd8]) := by show _ = _; rw [HU.out, hP, HSXN.out]; rfl
        have HS32 : Hid (sx.2.2.1.length = 32) := by show _ = _; rw [HSXN.out]; exact trafN_len _ _ _
        have rp := pairResultC.toRep Kp
        rw [HU2.out, hP] at rp
        obtain ⟨re1, re2⟩ := pairR_reps (r := (0, (doneE x mo base l), (doneE y mo base l))) (us := [.int .i64 x.1, .slice pc1 x.2.1.length qc1, .int .i64 x.2.2.1, .slice pc2 x.2.2.2.length qc2, .int .i64 3, .int .i64 mo, .slice pc3 l.length qc3, .slice pc4 base.length qc4, .slice pc5 sx.1.length qc5, .slice pc6 sx.2.1.length qc6, .slice pc7 sx.2.2.1.length qc7, .slice pc8 sx.2.2.2.length qc8]) rp rfl
        have HR1 : Hid (endC.rep w4 (doneE x mo base l) [.int .i64 x.1, .slice pc1 x.2.1.length qc1, .int .i64 x.2.2.1, .slice pc2 x.2.2.2.length qc2, .int .i64 3, .int .i64 mo, .slice pc3 l.length qc3, .slice pc4 base.length qc4, .slice pc5 sx.1.length qc5, .slice pc6 sx.2.1.length qc6, .slice pc7 sx.2.2.1.length qc7, .slice pc8 sx.2.2.2.length qc8]) := re1
        have HR2 : Hid (endC.rep w4 (doneE y mo base l) [.int .i64 y.1, .slice pd1 y.2.1.length qd1, .int .i64 y.2.2.1, .slice pd2 y.2.2.2.length qd2, .int .i64 3, .int .i64 mo, .slice pd3 l.length qd3, .slice pd4 base.length qd4, .slice pd5 sx.1.length qd5, .slice pd6 sx.2.1.length qd6, .slice pd7 sx.2.2.1.length qd7, .slice pd8 sx.2.2.2.length qd8]) := re2
        obtain ⟨-, -, u3, -, u5, u6, u7, u8⟩ := end_unmk (e := (x, 3, mo, l, base, sx)) (by rw [HSXN.out]; rw [HSXN.out] at re1; exact re1)
        obtain ⟨-, -, v3, -, v5, v6, v7, v8⟩ := end_unmk (e := (y, 3, mo, l, base, sx)) (by rw [HSXN.out]; rw [HSXN.out] at re2; exact re2)
        have HRD : Hid ((Rd w4 pc5 qc5 sx.1 ∧ Rd w4 pc6 qc6 sx.2.1 ∧ Rd w4 pc7 qc7 sx.2.2.1 ∧ Rd w4 pc8 qc8 sx.2.2.2 ∧ RdL msgC w4 pc3 qc3 l) ∧ Rd w4 pd5 qd5 sx.1 ∧ Rd w4 pd6 qd6 sx.2.1 ∧ Rd w4 pd7 qd7 sx.2.2.1 ∧ Rd w4 pd8 qd8 sx.2.2.2 ∧ RdL msgC w4 pd3 qd3 l) := ⟨⟨u5, u6, u7, u8, u3⟩, v5, v6, v7, v8, v3⟩
        clear he1 he2 KSP HU hP rp re1 re2 u3 u5 u6 u7 u8 v3 v5 v6 v7 v8 Kp HSXN RXK RYK hone hres H25 AZ
        by_cases hz : x.2.2.1 = 0
        · have dz : (x.2.2.1 != 0) = false := by rw [bne_eq_false_iff_eq]; exact hz
          have hmo : mo = 1 := by
            rw [HMO.out, pairM, if_neg (fun h => h.1 hz)]
          subst hmo
          clear hz HMO
          have n0 : w4.cell? ⟨w2.heap.size, 0, none⟩ = some (.int .i64 0) := (N.cell 0).trans (by rw [HU2.out]; rfl)
          have n5 : w4.cell? ⟨w2.heap.size, 5, none⟩ = some (.int .i64 3) := (N.cell 5).trans (by rw [HU2.out]; rfl)
          have n6 : w4.cell? ⟨w2.heap.size, 6, none⟩ = some (.int .i64 1) := (N.cell 6).trans (by rw [HU2.out]; rfl)
          have n7 : w4.cell? ⟨w2.heap.size, 7, none⟩ = some (.slice pc3 l.length qc3) := (N.cell 7).trans (by rw [HU2.out]; rfl)
          have n9 : w4.cell? ⟨w2.heap.size, 9, none⟩ = some (.slice pc5 sx.1.length qc5) := (N.cell 9).trans (by rw [HU2.out]; rfl)
          have n10 : w4.cell? ⟨w2.heap.size, 10, none⟩ = some (.slice pc6 sx.2.1.length qc6) := (N.cell 10).trans (by rw [HU2.out]; rfl)
          have n11 : w4.cell? ⟨w2.heap.size, 11, none⟩ = some (.slice pc7 sx.2.2.1.length qc7) := (N.cell 11).trans (by rw [HU2.out]; rfl)
          have n12 : w4.cell? ⟨w2.heap.size, 12, none⟩ = some (.slice pc8 sx.2.2.2.length qc8) := (N.cell 12).trans (by rw [HU2.out]; rfl)
          have n17 : w4.cell? ⟨w2.heap.size, 17, none⟩ = some (.int .i64 3) := (N.cell 17).trans (by rw [HU2.out]; rfl)
          have n18 : w4.cell? ⟨w2.heap.size, 18, none⟩ = some (.int .i64 1) := (N.cell 18).trans (by rw [HU2.out]; rfl)
          have n19 : w4.cell? ⟨w2.heap.size, 19, none⟩ = some (.slice pd3 l.length qd3) := (N.cell 19).trans (by rw [HU2.out]; rfl)
          have n21 : w4.cell? ⟨w2.heap.size, 21, none⟩ = some (.slice pd5 sx.1.length qd5) := (N.cell 21).trans (by rw [HU2.out]; rfl)
          have n22 : w4.cell? ⟨w2.heap.size, 22, none⟩ = some (.slice pd6 sx.2.1.length qd6) := (N.cell 22).trans (by rw [HU2.out]; rfl)
          have n23 : w4.cell? ⟨w2.heap.size, 23, none⟩ = some (.slice pd7 sx.2.2.1.length qd7) := (N.cell 23).trans (by rw [HU2.out]; rfl)
          have n24 : w4.cell? ⟨w2.heap.size, 24, none⟩ = some (.slice pd8 sx.2.2.2.length qd8) := (N.cell 24).trans (by rw [HU2.out]; rfl)
          have zN := N.lt
          have zX := X.lt
          have zY := Y.lt
          have BL : Below w4.heap.size w4 ((w4.alloc (.cells #[.slice pc5 sx.1.length qc5, .slice pc6 sx.2.1.length qc6, .slice pc7 sx.2.2.1.length qc7, .slice pc8 sx.2.2.2.length qc8] 30)).alloc (.cells #[.slice pd5 sx.1.length qd5, .slice pd6 sx.2.1.length qd6, .slice pd7 sx.2.2.1.length qd7, .slice pd8 sx.2.2.2.length qd8] 30)) := Below.mk (alloc_below _ _) _
          have d32 : ((sx.2.2.1.length : Int) == 32) = true := by rw [beq_iff_eq, HS32.out]; rfl
          have SA := (Arr.new w4 [.slice pc5 sx.1.length qc5, .slice pc6 sx.2.1.length qc6, .slice pc7 sx.2.2.1.length qc7, .slice pc8 sx.2.2.2.length qc8] 30).old _ (.cells #[.slice pd5 sx.1.length qd5, .slice pd6 sx.2.1.length qd6, .slice pd7 sx.2.2.1.length qd7, .slice pd8 sx.2.2.2.length qd8] 30)
          have SB := Arr.new (w4.alloc (.cells #[.slice pc5 sx.1.length qc5, .slice pc6 sx.2.1.length qc6, .slice pc7 sx.2.2.1.length qc7, .slice pc8 sx.2.2.2.length qc8] 30)) [.slice pd5 sx.1.length qd5, .slice pd6 sx.2.1.length qd6, .slice pd7 sx.2.2.1.length qd7, .slice pd8 sx.2.2.2.length qd8] 30
          rw [size_alloc] at SB
          go_wp2_with fail
          generalize (w4.alloc (.cells #[.slice pc5 sx.1.length qc5, .slice pc6 sx.2.1.length qc6, .slice pc7 sx.2.2.1.length qc7, .slice pc8 sx.2.2.2.length qc8] 30)).alloc (.cells #[.slice pd5 sx.1.length qd5, .slice pd6 sx.2.1.length qd6, .slice pd7 sx.2.2.1.length qd7, .slice pd8 sx.2.2.2.length qd8] 30) = V5 at *
          clear n0 n5 n6 n7 n9 n10 n11 n12 n17 n18 n19 n21 n22 n23 n24 X Y zX zY zN
          replace N := N.stay BL
          replace BW := Below.step BW BL
          have HBL : Hid (Below w4.heap.size w4 V5) := BL
          clear BL
          have a1 := (SA.cell 1).trans (show _ = some _ from rfl)
          have a2 := (SA.cell 2).trans (show _ = some _ from rfl)
          have a3 := (SA.cell 3).trans (show _ = some _ from rfl)
          have b1 := (SB.cell 1).trans (show _ = some _ from rfl)
          have b2 := (SB.cell 2).trans (show _ = some _ from rfl)
          have b3 := (SB.cell 3).trans (show _ = some _ from rfl)
          have n7 : V5.cell? ⟨w2.heap.size, 7, none⟩ = some (.slice pc3 l.length qc3) := (N.cell 7).trans (by rw [HU2.out]; rfl)
          have n19 : V5.cell? ⟨w2.heap.size, 19, none⟩ = some (.slice pd3 l.length qd3) := (N.cell 19).trans (by rw [HU2.out]; rfl)
          refine (lwSame_c pc5 pd5 qc5 qd5 sx.1 sx.1 _ (HRD.out.1.1.keep HBL.out) (HRD.out.2.1.keep HBL.out)).mono ?_
          rintro e w6 ⟨rfl, hw6⟩
          subst w6
          rw [show (sx.1 == sx.1) = true by simp]
          go_wp2_with fail
          refine (lwSame_c pc6 pd6 qc6 qd6 sx.2.1 sx.2.1 _ (HRD.out.1.2.1.keep HBL.out) (HRD.out.2.2.1.keep HBL.out)).mono ?_
          rintro e w6 ⟨rfl, hw6⟩
          subst w6
          rw [show (sx.2.1 == sx.2.1) = true by simp]
          go_wp2_with fail
          refine (lwSame_c pc7 pd7 qc7 qd7 sx.2.2.1 sx.2.2.1 _ (HRD.out.1.2.2.1.keep HBL.out) (HRD.out.2.2.2.1.keep HBL.out)).mono ?_
          rintro e w6 ⟨rfl, hw6⟩
          subst w6
          rw [show (sx.2.2.1 == sx.2.2.1) = true by simp]
          go_wp2_with fail
          refine (lwSame_c pc8 pd8 qc8 qd8 sx.2.2.2 sx.2.2.2 _ (HRD.out.1.2.2.2.1.keep HBL.out) (HRD.out.2.2.2.2.1.keep HBL.out)).mono ?_
          rintro e w6 ⟨rfl, hw6⟩
          subst w6
          rw [show (sx.2.2.2 == sx.2.2.2) = true by simp]
          go_wp2_with fail
          refine (implSM_c l l pc3 pd3 qc3 qd3 _ (HRD.out.1.2.2.2.2.keep HBL.out) (HRD.out.2.2.2.2.2.keep HBL.out)).mono ?_
          rintro e w6 ⟨rfl, hb6⟩
          rw [show sameM l l = true by simp [sameM]]
          replace N := N.stay hb6
          replace BW := Below.step BW hb6
          replace HBL : Hid (Below w4.heap.size w4 w6) := Below.step HBL.out hb6
          clear hb6 a1 a2 a3 b1 b2 b3 SA SB n7 n19
          have KE1 := implEf_k (doneE x 1 base l) _ w6 (endC.keep HR1.out HBL.out)
          rw [HE1.out] at KE1
          have n1 : w6.cell? ⟨w2.heap.size, 1, none⟩ = some (.int .i64 x.1) := (N.cell 1).trans (by rw [HU2.out]; rfl)
          have n2 : w6.cell? ⟨w2.heap.size, 2, none⟩ = some (.slice pc1 x.2.1.length qc1) := (N.cell 2).trans (by rw [HU2.out]; rfl)
          have n3 : w6.cell? ⟨w2.heap.size, 3, none⟩ = some (.int .i64 x.2.2.1) := (N.cell 3).trans (by rw [HU2.out]; rfl)
          have n4 : w6.cell? ⟨w2.heap.size, 4, none⟩ = some (.slice pc2 x.2.2.2.length qc2) := (N.cell 4).trans (by rw [HU2.out]; rfl)
          have n5 : w6.cell? ⟨w2.heap.size, 5, none⟩ = some (.int .i64 3) := (N.cell 5).trans (by rw [HU2.out]; rfl)
          have n6 : w6.cell? ⟨w2.heap.size, 6, none⟩ = some (.int .i64 1) := (N.cell 6).trans (by rw [HU2.out]; rfl)
          have n7 : w6.cell? ⟨w2.heap.size, 7, none⟩ = some (.slice pc3 l.length qc3) := (N.cell 7).trans (by rw [HU2.out]; rfl)
          have n8 : w6.cell? ⟨w2.heap.size, 8, none⟩ = some (.slice pc4 base.length qc4) := (N.cell 8).trans (by rw [HU2.out]; rfl)
          have n9 : w6.cell? ⟨w2.heap.size, 9, none⟩ = some (.slice pc5 sx.1.length qc5) := (N.cell 9).trans (by rw [HU2.out]; rfl)
          have n10 : w6.cell? ⟨w2.heap.size, 10, none⟩ = some (.slice pc6 sx.2.1.length qc6) := (N.cell 10).trans (by rw [HU2.out]; rfl)
          have n11 : w6.cell? ⟨w2.heap.size, 11, none⟩ = some (.slice pc7 sx.2.2.1.length qc7) := (N.cell 11).trans (by rw [HU2.out]; rfl)
          have n12 : w6.cell? ⟨w2.heap.size, 12, none⟩ = some (.slice pc8 sx.2.2.2.length qc8) := (N.cell 12).trans (by rw [HU2.out]; rfl)
          go_wp2_with fail
          refine KE1.mono ?_
          rintro e w7 ⟨rfl, hb7⟩
          replace N := N.stay hb7
          replace BW := Below.step BW hb7
          replace HBL : Hid (Below w4.heap.size w4 w7) := Below.step HBL.out hb7
          clear hb7 KE1 n1 n2 n3 n4 n5 n6 n7 n8 n9 n10 n11 n12
          have KE2 := implEf_k (doneE y 1 base l) _ w7 (endC.keep HR2.out HBL.out)
          rw [HE2.out] at KE2
          have n13 : w7.cell? ⟨w2.heap.size, 13, none⟩ = some (.int .i64 y.1) := (N.cell 13).trans (by rw [HU2.out]; rfl)
          have n14 : w7.cell? ⟨w2.heap.size, 14, none⟩ = some (.slice pd1 y.2.1.length qd1) := (N.cell 14).trans (by rw [HU2.out]; rfl)
          have n15 : w7.cell? ⟨w2.heap.size, 15, none⟩ = some (.int .i64 y.2.2.1) := (N.cell 15).trans (by rw [HU2.out]; rfl)
          have n16 : w7.cell? ⟨w2.heap.size, 16, none⟩ = some (.slice pd2 y.2.2.2.length qd2) := (N.cell 16).trans (by rw [HU2.out]; rfl)
          have n17 : w7.cell? ⟨w2.heap.size, 17, none⟩ = some (.int .i64 3) := (N.cell 17).trans (by rw [HU2.out]; rfl)
          have n18 : w7.cell? ⟨w2.heap.size, 18, none⟩ = some (.int .i64 1) := (N.cell 18).trans (by rw [HU2.out]; rfl)
          have n19 : w7.cell? ⟨w2.heap.size, 19, none⟩ = some (.slice pd3 l.length qd3) := (N.cell 19).trans (by rw [HU2.out]; rfl)
          have n20 : w7.cell? ⟨w2.heap.size, 20, none⟩ = some (.slice pd4 base.length qd4) := (N.cell 20).trans (by rw [HU2.out]; rfl)
          have n21 : w7.cell? ⟨w2.heap.size, 21, none⟩ = some (.slice pd5 sx.1.length qd5) := (N.cell 21).trans (by rw [HU2.out]; rfl)
          have n22 : w7.cell? ⟨w2.heap.size, 22, none⟩ = some (.slice pd6 sx.2.1.length qd6) := (N.cell 22).trans (by rw [HU2.out]; rfl)
          have n23 : w7.cell? ⟨w2.heap.size, 23, none⟩ = some (.slice pd7 sx.2.2.1.length qd7) := (N.cell 23).trans (by rw [HU2.out]; rfl)
          have n24 : w7.cell? ⟨w2.heap.size, 24, none⟩ = some (.slice pd8 sx.2.2.2.length qd8) := (N.cell 24).trans (by rw [HU2.out]; rfl)
          go_wp2_with fail
          refine KE2.mono ?_
          rintro e w8 ⟨rfl, hb8⟩
          go_wp2
          go_ret
          exact ⟨rfl, Below.step BW hb8⟩
        · have dz : (x.2.2.1 != 0) = true := by rw [bne_iff_ne]; exact hz
          have hmo : mo = 1 := by
            rw [HMO.out, pairM, if_neg (fun h => HEQ.out h.2)]
          subst hmo
          clear hz HMO
          have n0 : w4.cell? ⟨w2.heap.size, 0, none⟩ = some (.int .i64 0) := (N.cell 0).trans (by rw [HU2.out]; rfl)
          have n5 : w4.cell? ⟨w2.heap.size, 5, none⟩ = some (.int .i64 3) := (N.cell 5).trans (by rw [HU2.out]; rfl)
          have n6 : w4.cell? ⟨w2.heap.size, 6, none⟩ = some (.int .i64 1) := (N.cell 6).trans (by rw [HU2.out]; rfl)
          have n7 : w4.cell? ⟨w2.heap.size, 7, none⟩ = some (.slice pc3 l.length qc3) := (N.cell 7).trans (by rw [HU2.out]; rfl)
          have n9 : w4.cell? ⟨w2.heap.size, 9, none⟩ = some (.slice pc5 sx.1.length qc5) := (N.cell 9).trans (by rw [HU2.out]; rfl)
          have n10 : w4.cell? ⟨w2.heap.size, 10, none⟩ = some (.slice pc6 sx.2.1.length qc6) := (N.cell 10).trans (by rw [HU2.out]; rfl)
          have n11 : w4.cell? ⟨w2.heap.size, 11, none⟩ = some (.slice pc7 sx.2.2.1.length qc7) := (N.cell 11).trans (by rw [HU2.out]; rfl)
          have n12 : w4.cell? ⟨w2.heap.size, 12, none⟩ = some (.slice pc8 sx.2.2.2.length qc8) := (N.cell 12).trans (by rw [HU2.out]; rfl)
          have n17 : w4.cell? ⟨w2.heap.size, 17, none⟩ = some (.int .i64 3) := (N.cell 17).trans (by rw [HU2.out]; rfl)
          have n18 : w4.cell? ⟨w2.heap.size, 18, none⟩ = some (.int .i64 1) := (N.cell 18).trans (by rw [HU2.out]; rfl)
          have n19 : w4.cell? ⟨w2.heap.size, 19, none⟩ = some (.slice pd3 l.length qd3) := (N.cell 19).trans (by rw [HU2.out]; rfl)
          have n21 : w4.cell? ⟨w2.heap.size, 21, none⟩ = some (.slice pd5 sx.1.length qd5) := (N.cell 21).trans (by rw [HU2.out]; rfl)
          have n22 : w4.cell? ⟨w2.heap.size, 22, none⟩ = some (.slice pd6 sx.2.1.length qd6) := (N.cell 22).trans (by rw [HU2.out]; rfl)
          have n23 : w4.cell? ⟨w2.heap.size, 23, none⟩ = some (.slice pd7 sx.2.2.1.length qd7) := (N.cell 23).trans (by rw [HU2.out]; rfl)
          have n24 : w4.cell? ⟨w2.heap.size, 24, none⟩ = some (.slice pd8 sx.2.2.2.length qd8) := (N.cell 24).trans (by rw [HU2.out]; rfl)
          have zN := N.lt
          have zX := X.lt
          have zY := Y.lt
          have BL : Below w4.heap.size w4 ((w4.alloc (.cells #[.slice pc5 sx.1.length qc5, .slice pc6 sx.2.1.length qc6, .slice pc7 sx.2.2.1.length qc7, .slice pc8 sx.2.2.2.length qc8] 30)).alloc (.cells #[.slice pd5 sx.1.length qd5, .slice pd6 sx.2.1.length qd6, .slice pd7 sx.2.2.1.length qd7, .slice pd8 sx.2.2.2.length qd8] 30)) := Below.mk (alloc_below _ _) _
          have d32 : ((sx.2.2.1.length : Int) == 32) = true := by rw [beq_iff_eq, HS32.out]; rfl
          have SA := (Arr.new w4 [.slice pc5 sx.1.length qc5, .slice pc6 sx.2.1.length qc6, .slice pc7 sx.2.2.1.length qc7, .slice pc8 sx.2.2.2.length qc8] 30).old _ (.cells #[.slice pd5 sx.1.length qd5, .slice pd6 sx.2.1.length qd6, .slice pd7 sx.2.2.1.length qd7, .slice pd8 sx.2.2.2.length qd8] 30)
          have SB := Arr.new (w4.alloc (.cells #[.slice pc5 sx.1.length qc5, .slice pc6 sx.2.1.length qc6, .slice pc7 sx.2.2.1.length qc7, .slice pc8 sx.2.2.2.length qc8] 30)) [.slice pd5 sx.1.length qd5, .slice pd6 sx.2.1.length qd6, .slice pd7 sx.2.2.1.length qd7, .slice pd8 sx.2.2.2.length qd8] 30
          rw [size_alloc] at SB
          go_wp2_with fail
          generalize (w4.alloc (.cells #[.slice pc5 sx.1.length qc5, .slice pc6 sx.2.1.length qc6, .slice pc7 sx.2.2.1.length qc7, .slice pc8 sx.2.2.2.length qc8] 30)).alloc (.cells #[.slice pd5 sx.1.length qd5, .slice pd6 sx.2.1.length qd6, .slice pd7 sx.2.2.1.length qd7, .slice pd8 sx.2.2.2.length qd8] 30) = V5 at *
          clear n0 n5 n6 n7 n9 n10 n11 n12 n17 n18 n19 n21 n22 n23 n24 X Y zX zY zN
          replace N := N.stay BL
          replace BW := Below.step BW BL
          have HBL : Hid (Below w4.heap.size w4 V5) := BL
          clear BL
          have a1 := (SA.cell 1).trans (show _ = some _ from rfl)
          have a2 := (SA.cell 2).trans (show _ = some _ from rfl)
          have a3 := (SA.cell 3).trans (show _ = some _ from rfl)
          have b1 := (SB.cell 1).trans (show _ = some _ from rfl)
          have b2 := (SB.cell 2).trans (show _ = some _ from rfl)
          have b3 := (SB.cell 3).trans (show _ = some _ from rfl)
          have n7 : V5.cell? ⟨w2.heap.size, 7, none⟩ = some (.slice pc3 l.length qc3) := (N.cell 7).trans (by rw [HU2.out]; rfl)
          have n19 : V5.cell? ⟨w2.heap.size, 19, none⟩ = some (.slice pd3 l.length qd3) := (N.cell 19).trans (by rw [HU2.out]; rfl)
          refine (lwSame_c pc5 pd5 qc5 qd5 sx.1 sx.1 _ (HRD.out.1.1.keep HBL.out) (HRD.out.2.1.keep HBL.out)).mono ?_
          rintro e w6 ⟨rfl, hw6⟩
          subst w6
          rw [show (sx.1 == sx.1) = true by simp]
          go_wp2_with fail
          refine (lwSame_c pc6 pd6 qc6 qd6 sx.2.1 sx.2.1 _ (HRD.out.1.2.1.keep HBL.out) (HRD.out.2.2.1.keep HBL.out)).mono ?_
          rintro e w6 ⟨rfl, hw6⟩
          subst w6
          rw [show (sx.2.1 == sx.2.1) = true by simp]
          go_wp2_with fail
          refine (lwSame_c pc7 pd7 qc7 qd7 sx.2.2.1 sx.2.2.1 _ (HRD.out.1.2.2.1.keep HBL.out) (HRD.out.2.2.2.1.keep HBL.out)).mono ?_
          rintro e w6 ⟨rfl, hw6⟩
          subst w6
          rw [show (sx.2.2.1 == sx.2.2.1) = true by simp]
          go_wp2_with fail
          refine (lwSame_c pc8 pd8 qc8 qd8 sx.2.2.2 sx.2.2.2 _ (HRD.out.1.2.2.2.1.keep HBL.out) (HRD.out.2.2.2.2.1.keep HBL.out)).mono ?_
          rintro e w6 ⟨rfl, hw6⟩
          subst w6
          rw [show (sx.2.2.2 == sx.2.2.2) = true by simp]
          go_wp2_with fail
          refine (implSM_c l l pc3 pd3 qc3 qd3 _ (HRD.out.1.2.2.2.2.keep HBL.out) (HRD.out.2.2.2.2.2.keep HBL.out)).mono ?_
          rintro e w6 ⟨rfl, hb6⟩
          rw [show sameM l l = true by simp [sameM]]
          replace N := N.stay hb6
          replace BW := Below.step BW hb6
          replace HBL : Hid (Below w4.heap.size w4 w6) := Below.step HBL.out hb6
          clear hb6 a1 a2 a3 b1 b2 b3 SA SB n7 n19
          have KE1 := implEf_k (doneE x 1 base l) _ w6 (endC.keep HR1.out HBL.out)
          rw [HE1.out] at KE1
          have n1 : w6.cell? ⟨w2.heap.size, 1, none⟩ = some (.int .i64 x.1) := (N.cell 1).trans (by rw [HU2.out]; rfl)
          have n2 : w6.cell? ⟨w2.heap.size, 2, none⟩ = some (.slice pc1 x.2.1.length qc1) := (N.cell 2).trans (by rw [HU2.out]; rfl)
          have n3 : w6.cell? ⟨w2.heap.size, 3, none⟩ = some (.int .i64 x.2.2.1) := (N.cell 3).trans (by rw [HU2.out]; rfl)
          have n4 : w6.cell? ⟨w2.heap.size, 4, none⟩ = some (.slice pc2 x.2.2.2.length qc2) := (N.cell 4).trans (by rw [HU2.out]; rfl)
          have n5 : w6.cell? ⟨w2.heap.size, 5, none⟩ = some (.int .i64 3) := (N.cell 5).trans (by rw [HU2.out]; rfl)
          have n6 : w6.cell? ⟨w2.heap.size, 6, none⟩ = some (.int .i64 1) := (N.cell 6).trans (by rw [HU2.out]; rfl)
          have n7 : w6.cell? ⟨w2.heap.size, 7, none⟩ = some (.slice pc3 l.length qc3) := (N.cell 7).trans (by rw [HU2.out]; rfl)
          have n8 : w6.cell? ⟨w2.heap.size, 8, none⟩ = some (.slice pc4 base.length qc4) := (N.cell 8).trans (by rw [HU2.out]; rfl)
          have n9 : w6.cell? ⟨w2.heap.size, 9, none⟩ = some (.slice pc5 sx.1.length qc5) := (N.cell 9).trans (by rw [HU2.out]; rfl)
          have n10 : w6.cell? ⟨w2.heap.size, 10, none⟩ = some (.slice pc6 sx.2.1.length qc6) := (N.cell 10).trans (by rw [HU2.out]; rfl)
          have n11 : w6.cell? ⟨w2.heap.size, 11, none⟩ = some (.slice pc7 sx.2.2.1.length qc7) := (N.cell 11).trans (by rw [HU2.out]; rfl)
          have n12 : w6.cell? ⟨w2.heap.size, 12, none⟩ = some (.slice pc8 sx.2.2.2.length qc8) := (N.cell 12).trans (by rw [HU2.out]; rfl)
          go_wp2_with fail
          refine KE1.mono ?_
          rintro e w7 ⟨rfl, hb7⟩
          replace N := N.stay hb7
          replace BW := Below.step BW hb7
          replace HBL : Hid (Below w4.heap.size w4 w7) := Below.step HBL.out hb7
          clear hb7 KE1 n1 n2 n3 n4 n5 n6 n7 n8 n9 n10 n11 n12
          have KE2 := implEf_k (doneE y 1 base l) _ w7 (endC.keep HR2.out HBL.out)
          rw [HE2.out] at KE2
          have n13 : w7.cell? ⟨w2.heap.size, 13, none⟩ = some (.int .i64 y.1) := (N.cell 13).trans (by rw [HU2.out]; rfl)
          have n14 : w7.cell? ⟨w2.heap.size, 14, none⟩ = some (.slice pd1 y.2.1.length qd1) := (N.cell 14).trans (by rw [HU2.out]; rfl)
          have n15 : w7.cell? ⟨w2.heap.size, 15, none⟩ = some (.int .i64 y.2.2.1) := (N.cell 15).trans (by rw [HU2.out]; rfl)
          have n16 : w7.cell? ⟨w2.heap.size, 16, none⟩ = some (.slice pd2 y.2.2.2.length qd2) := (N.cell 16).trans (by rw [HU2.out]; rfl)
          have n17 : w7.cell? ⟨w2.heap.size, 17, none⟩ = some (.int .i64 3) := (N.cell 17).trans (by rw [HU2.out]; rfl)
          have n18 : w7.cell? ⟨w2.heap.size, 18, none⟩ = some (.int .i64 1) := (N.cell 18).trans (by rw [HU2.out]; rfl)
          have n19 : w7.cell? ⟨w2.heap.size, 19, none⟩ = some (.slice pd3 l.length qd3) := (N.cell 19).trans (by rw [HU2.out]; rfl)
          have n20 : w7.cell? ⟨w2.heap.size, 20, none⟩ = some (.slice pd4 base.length qd4) := (N.cell 20).trans (by rw [HU2.out]; rfl)
          have n21 : w7.cell? ⟨w2.heap.size, 21, none⟩ = some (.slice pd5 sx.1.length qd5) := (N.cell 21).trans (by rw [HU2.out]; rfl)
          have n22 : w7.cell? ⟨w2.heap.size, 22, none⟩ = some (.slice pd6 sx.2.1.length qd6) := (N.cell 22).trans (by rw [HU2.out]; rfl)
          have n23 : w7.cell? ⟨w2.heap.size, 23, none⟩ = some (.slice pd7 sx.2.2.1.length qd7) := (N.cell 23).trans (by rw [HU2.out]; rfl)
          have n24 : w7.cell? ⟨w2.heap.size, 24, none⟩ = some (.slice pd8 sx.2.2.2.length qd8) := (N.cell 24).trans (by rw [HU2.out]; rfl)
          go_wp2_with fail
          refine KE2.mono ?_
          rintro e w8 ⟨rfl, hb8⟩
          go_wp2
          go_ret
          exact ⟨rfl, Below.step BW hb8⟩
    · have HSY : Hid (¬ sfC y = 0) := hsy
      have dy : (sfC y != 0) = true := by rw [bne_iff_ne]; exact hsy
      have HP0 : Hid (P.1 ≠ 0) := by show _ ≠ _; rw [HP.out, paD_bad2 HSX.out hsy]; exact hsy
      have dP : (P.1 != 0) = true := by rw [bne_iff_ne]; exact HP0.out
      clear hsy
      generalize sfC y = fy at *
      go_wp2_with fail
      obtain ⟨V3, e3⟩ : ∃ v, v = w3 := ⟨_, rfl⟩
      subst e3
      refine (KT.out _ HVW.out).mono ?_
      rintro e w4 ⟨rfl, hb4⟩
      replace X := X.stay hb4
      replace Y := Y.stay hb4
      replace N := N.stay hb4
      replace BW := Below.step BW hb4
      replace HVW : Hid (Below V.heap.size V w4) := Below.step HVW.out hb4
      clear hb4 KT y0 y1 y2 y3 Kp
      go_wp2_with fail
      have hne := HW.some w4
      have g0 := HW.at ((X.cell 0).trans (show _ = some _ from rfl))
      have g1 := HW.at ((X.cell 1).trans (show _ = some _ from rfl))
      have g2 := HW.at ((X.cell 2).trans (show _ = some _ from rfl))
      have g3 := HW.at ((X.cell 3).trans (show _ = some _ from rfl))
      have h0 := HW.at ((Y.cell 0).trans (show _ = some _ from rfl))
      have h1 := HW.at ((Y.cell 1).trans (show _ = some _ from rfl))
      have h2 := HW.at ((Y.cell 2).trans (show _ = some _ from rfl))
      have h3 := HW.at ((Y.cell 3).trans (show _ = some _ from rfl))
      have n0 := HW.at ((N.cell 0).trans (show _ = some (.int .i64 P.1) by rw [HU.out]; rfl))
      have BV := Below.refl w4.heap.size w4
      have dE : (P.1 == P.1) = true := by simp
      refine wp_region_pick [0, 1, 2, 3] 12 8 1 rfl rfl rfl (by kernel_rfl) (by kernel_rfl) (by kernel_rfl) (by kernel_rfl) ?_
      simp only [opsAt, List.getElem?_toArray, List.getElem?_cons_zero, List.getElem?_cons_succ]
      repeat (go_big_quiet_step (fail))
      refine wpQuiet_nil ?_
      clear g0 g1 g2 g3 h0 h1 h2 h3
      refine wpM_only (i := 4) (by kernel_rfl) ?_
      refine mOp_call rfl (by go_simp) 10 _ #[.agg #[.int .i64 x.1, .slice pu x.2.1.length qu, .int .i64 x.2.2.1, .slice pv x.2.2.2.length qv], .agg #[.int .i64 y.1, .slice ps y.2.1.length qs, .int .i64 y.2.2.1, .slice pt y.2.2.2.length qt]] (fun w => by go_simp) rfl ?_
      rintro _ ⟨sg, rfl⟩
      refine (KSP.out _ (Below.step HVW.out (Below.step BV sg.h))).mono ?_
      rintro e wg0 ⟨uss, fps, rfl, Ks, hbx⟩
      have hf : ∀ w, (Instr.field 34 (.agg uss.toArray) 0).run Tryz.prog w = .ok (.int .i64 P.1) w := by
        obtain ⟨ps1, qs1, ps2, qs2, ps3, qs3, ps4, qs4, ps5, qs5, ps6, qs6, ps7, qs7, ps8, qs8, pt1, qt1, pt2, qt2, pt3, qt3, pt4, qt4, pt5, qt5, pt6, qt6, pt7, qt7, pt8, qt8, eu, -, -, -, -, -, -, -, -, -, -, -, -, -, -, -, -⟩ := pairResult_rep (pairResultC.toRep Ks)
        subst eu
        exact fun w => pairR_f0 P.1 (.int .i64 P.2.1.1.1) (.slice ps1 P.2.1.1.2.1.length qs1) (.int .i64 P.2.1.1.2.2.1) (.slice ps2 P.2.1.1.2.2.2.length qs2) (.int .i64 P.2.1.2.1) (.int .i64 P.2.1.2.2.1) (.slice ps3 P.2.1.2.2.2.1.length qs3) (.slice ps4 P.2.1.2.2.2.2.1.length qs4) (.slice ps5 P.2.1.2.2.2.2.2.1.length qs5) (.slice ps6 P.2.1.2.2.2.2.2.2.1.length qs6) (.slice ps7 P.2.1.2.2.2.2.2.2.2.1.length qs7) (.slice ps8 P.2.1.2.2.2.2.2.2.2.2.length qs8) (.int .i64 P.2.2.1.1) (.slice pt1 P.2.2.1.2.1.length qt1) (.int .i64 P.2.2.1.2.2.1) (.slice pt2 P.2.2.1.2.2.2.length qt2) (.int .i64 P.2.2.2.1) (.int .i64 P.2.2.2.2.1) (.slice pt3 P.2.2.2.2.2.1.length qt3) (.slice pt4 P.2.2.2.2.2.2.1.length qt4) (.slice pt5 P.2.2.2.2.2.2.2.1.length qt5) (.slice pt6 P.2.2.2.2.2.2.2.2.1.length qt6) (.slice pt7 P.2.2.2.2.2.2.2.2.2.1.length qt7) (.slice pt8 P.2.2.2.2.2.2.2.2.2.2.length qt8) w
      have hbg := Below.step sg.h hbx
      refine ⟨_, rfl, ⟨⟨wg0, hbx⟩, rfl⟩, ?_⟩
      have I0 : Hid (∀ k, k ∈ fps → w4.heap.size ≤ k ∧ k < wg0.heap.size) := fun k hk => ⟨Nat.le_trans sg.h.size (pairResultC.ins Ks k hk).1, (pairResultC.ins Ks k hk).2⟩
      have T0 : Hid (w4.heap.size ≤ wg0.heap.size) := Nat.le_trans sg.h.size hbx.size
      replace Ks := pairResultC.low Ks (Below.step BV sg.h).size
      replace n0 := HW.down n0 hbg
      replace BV := Below.step BV hbg
      replace hne := HW.some wg0
      clear hbg hbx sg
      refine wpM_more [5, 6, 7, 8, 9, 10, 11] 7 0 rfl (by kernel_rfl) (by kernel_rfl) (by kernel_rfl) (by kernel_rfl) ?_
      simp only [opsAt, List.getElem?_toArray, List.getElem?_cons_zero, List.getElem?_cons_succ]
      go_simp
      repeat (go_big_quiet_step (fail))
      refine wpQuiet_nil ?_
      refine wpM_end (by kernel_rfl) rfl (by kernel_rfl) (by decide) ?_
      rintro _ ⟨sgz, rfl⟩
      simp only [List.drop_succ_cons, List.drop_zero]
      go_simp
      replace Ks := pairResultC.stay Ks sgz.h
      replace BV := Below.step BV sgz.h
      clear hne
      generalize sgz.w = W at *
      clear sgz
      go_wp2
      go_ret
      exact ⟨rfl, Below.step BW BV⟩
  · have dx : (sfC x != 0) = true := by rw [bne_iff_ne]; exact hsx
    have HP0 : Hid (P.1 ≠ 0) := by show _ ≠ _; rw [HP.out, paD_bad1 hsx]; exact hsx
    have dP : (P.1 != 0) = true := by rw [bne_iff_ne]; exact HP0.out
    clear hsx
    generalize sfC x = fx at *
    go_wp2_with (refine wpList_store_row rfl 34 _ _ rfl w2.heap.size usp.toArray rfl rfl 34 #[.int .i64 0, .int .i64 0, .slice none 0 0, .int .i64 0, .slice none 0 0, .int .i64 0, .int .i64 0, .slice none 0 0, .slice none 0 0, .slice none 0 0, .slice none 0 0, .slice none 0 0, .slice none 0 0, .int .i64 0, .slice none 0 0, .int .i64 0, .slice none 0 0, .int .i64 0, .int .i64 0, .slice none 0 0, .slice none 0 0, .slice none 0 0, .slice none 0 0, .slice none 0 0, .slice none 0 0] AZ hres.out (by have h := H25.out; simp [h]) (by simpa using hone) ?_)
    generalize (w2.alloc (.cells #[.int .i64 0, .int .i64 0, .slice none 0 0, .int .i64 0, .slice none 0 0, .int .i64 0, .int .i64 0, .slice none 0 0, .slice none 0 0, .slice none 0 0, .slice none 0 0, .slice none 0 0, .slice none 0 0, .int .i64 0, .slice none 0 0, .int .i64 0, .slice none 0 0, .int .i64 0, .int .i64 0, .slice none 0 0, .slice none 0 0, .slice none 0 0, .slice none 0 0, .slice none 0 0, .slice none 0 0] 34)).setRow w2.heap.size usp.toArray = V2 at *
    refine (KS.out _ HVW.out).mono ?_
    rintro e w3 ⟨rfl, hb3⟩
    replace X := X.stay hb3
    replace Y := Y.stay hb3
    replace N := N.stay hb3
    replace BW := Below.step BW hb3
    replace HVW : Hid (Below V.heap.size V w3) := Below.step HVW.out hb3
    clear hb3 KS x0 x1 x2 x3 y0 y1 y2 y3 Kp
    go_wp2_with fail
    have hne := HW.some w3
    have g0 := HW.at ((X.cell 0).trans (show _ = some _ from rfl))
    have g1 := HW.at ((X.cell 1).trans (show _ = some _ from rfl))
    have g2 := HW.at ((X.cell 2).trans (show _ = some _ from rfl))
    have g3 := HW.at ((X.cell 3).trans (show _ = some _ from rfl))
    have h0 := HW.at ((Y.cell 0).trans (show _ = some _ from rfl))
    have h1 := HW.at ((Y.cell 1).trans (show _ = some _ from rfl))
    have h2 := HW.at ((Y.cell 2).trans (show _ = some _ from rfl))
    have h3 := HW.at ((Y.cell 3).trans (show _ = some _ from rfl))
    have n0 := HW.at ((N.cell 0).trans (show _ = some (.int .i64 P.1) by rw [HU.out]; rfl))
    have BV := Below.refl w3.heap.size w3
    have dE : (P.1 == P.1) = true := by simp
    refine wp_region_pick [0, 1, 2, 3] 12 8 1 rfl rfl rfl (by kernel_rfl) (by kernel_rfl) (by kernel_rfl) (by kernel_rfl) ?_
    simp only [opsAt, List.getElem?_toArray, List.getElem?_cons_zero, List.getElem?_cons_succ]
    repeat (go_big_quiet_step (fail))
    refine wpQuiet_nil ?_
    clear g0 g1 g2 g3 h0 h1 h2 h3
    refine wpM_only (i := 4) (by kernel_rfl) ?_
    refine mOp_call rfl (by go_simp) 10 _ #[.agg #[.int .i64 x.1, .slice pu x.2.1.length qu, .int .i64 x.2.2.1, .slice pv x.2.2.2.length qv], .agg #[.int .i64 y.1, .slice ps y.2.1.length qs, .int .i64 y.2.2.1, .slice pt y.2.2.2.length qt]] (fun w => by go_simp) rfl ?_
    rintro _ ⟨sg, rfl⟩
    refine (KSP.out _ (Below.step HVW.out (Below.step BV sg.h))).mono ?_
    rintro e wg0 ⟨uss, fps, rfl, Ks, hbx⟩
    have hf : ∀ w, (Instr.field 34 (.agg uss.toArray) 0).run Tryz.prog w = .ok (.int .i64 P.1) w := by
      obtain ⟨ps1, qs1, ps2, qs2, ps3, qs3, ps4, qs4, ps5, qs5, ps6, qs6, ps7, qs7, ps8, qs8, pt1, qt1, pt2, qt2, pt3, qt3, pt4, qt4, pt5, qt5, pt6, qt6, pt7, qt7, pt8, qt8, eu, -, -, -, -, -, -, -, -, -, -, -, -, -, -, -, -⟩ := pairResult_rep (pairResultC.toRep Ks)
      subst eu
      exact fun w => pairR_f0 P.1 (.int .i64 P.2.1.1.1) (.slice ps1 P.2.1.1.2.1.length qs1) (.int .i64 P.2.1.1.2.2.1) (.slice ps2 P.2.1.1.2.2.2.length qs2) (.int .i64 P.2.1.2.1) (.int .i64 P.2.1.2.2.1) (.slice ps3 P.2.1.2.2.2.1.length qs3) (.slice ps4 P.2.1.2.2.2.2.1.length qs4) (.slice ps5 P.2.1.2.2.2.2.2.1.length qs5) (.slice ps6 P.2.1.2.2.2.2.2.2.1.length qs6) (.slice ps7 P.2.1.2.2.2.2.2.2.2.1.length qs7) (.slice ps8 P.2.1.2.2.2.2.2.2.2.2.length qs8) (.int .i64 P.2.2.1.1) (.slice pt1 P.2.2.1.2.1.length qt1) (.int .i64 P.2.2.1.2.2.1) (.slice pt2 P.2.2.1.2.2.2.length qt2) (.int .i64 P.2.2.2.1) (.int .i64 P.2.2.2.2.1) (.slice pt3 P.2.2.2.2.2.1.length qt3) (.slice pt4 P.2.2.2.2.2.2.1.length qt4) (.slice pt5 P.2.2.2.2.2.2.2.1.length qt5) (.slice pt6 P.2.2.2.2.2.2.2.2.1.length qt6) (.slice pt7 P.2.2.2.2.2.2.2.2.2.1.length qt7) (.slice pt8 P.2.2.2.2.2.2.2.2.2.2.length qt8) w
    have hbg := Below.step sg.h hbx
    refine ⟨_, rfl, ⟨⟨wg0, hbx⟩, rfl⟩, ?_⟩
    have I0 : Hid (∀ k, k ∈ fps → w3.heap.size ≤ k ∧ k < wg0.heap.size) := fun k hk => ⟨Nat.le_trans sg.h.size (pairResultC.ins Ks k hk).1, (pairResultC.ins Ks k hk).2⟩
    have T0 : Hid (w3.heap.size ≤ wg0.heap.size) := Nat.le_trans sg.h.size hbx.size
    replace Ks := pairResultC.low Ks (Below.step BV sg.h).size
    replace n0 := HW.down n0 hbg
    replace BV := Below.step BV hbg
    replace hne := HW.some wg0
    clear hbg hbx sg
    refine wpM_more [5, 6, 7, 8, 9, 10, 11] 7 0 rfl (by kernel_rfl) (by kernel_rfl) (by kernel_rfl) (by kernel_rfl) ?_
    simp only [opsAt, List.getElem?_toArray, List.getElem?_cons_zero, List.getElem?_cons_succ]
    go_simp
    repeat (go_big_quiet_step (fail))
    refine wpQuiet_nil ?_
    refine wpM_end (by kernel_rfl) rfl (by kernel_rfl) (by decide) ?_
    rintro _ ⟨sgz, rfl⟩
    simp only [List.drop_succ_cons, List.drop_zero]
    go_simp
    replace Ks := pairResultC.stay Ks sgz.h
    replace BV := Below.step BV sgz.h
    clear hne
    generalize sgz.w = W at *
    clear sgz
    go_wp2
    go_ret
    exact ⟨rfl, Below.step BW BV⟩
end Go.Proofs.YtiabacnmmojfjaaGreatDoor

