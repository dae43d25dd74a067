/- The walk of FnTokens, where the two tables are as the program's text lays them (written by tools/walk_tokens.py). -/
import Derived.Test.YtflhoefocjmihaaDoorDrawTk
import Derived.Test.YtflhoefocjmihaaDoorJoint18
import Derived.Test.YtflhoefocjmihaaDoorSesN
import Derived.Test.YtflhoefocjmihaaDoorJoint8
import Derived.Test.YtflhoefocjmihaaDoorJoint7
import Derived.Test.YtflhoefocjmihaaDoorJoint1
namespace Go.Proofs.YtflhoefocjmihaaDoor
open Go.ChangeShapes Go.WideShapes Go.ChangeAt Go.RowKit

set_option maxRecDepth 4000 in
set_option maxHeartbeats 8000000 in
theorem fnTokens_walk (a : Option Addr) (cap : Nat) (bs0 : List UInt8) (w : World) (r0 : Rd w a cap bs0) (hT : Tabs w) :
    Calls Tryd.prog 3 #[.slice a bs0.length cap] w fun e w' => e = .returned (.bool true) ∧ Below w.heap.size w w' := by
  by_cases hl0 : 1048576 < bs0.length
  · go_enter Tryd.func3, Tryd.ntmps3
    go_wp2_with fail
    refine (lwBig_yes _ _ _ _ hl0).mono ?_
    rintro e w1 ⟨rfl, rfl⟩
    go_wp2
    go_ret
    exact ⟨rfl, Below.refl _ _⟩
  replace hl0 : bs0.length ≤ 1048576 := by omega
  have HR0 : Hid (Rd w a cap bs0) := r0
  have HT : Hid (Tabs w) := hT
  clear r0 hT
  go_enter Tryd.func3, Tryd.ntmps3
  go_wp2_with fail
  refine (lwBig_no _ _ _ _ hl0).mono ?_
  rintro e w1 ⟨rfl, hw1⟩
  rw [hw1]
  clear hw1 w1
  go_wp2_with fail
  refine (drawTk_c _ _ bs0 _ HR0.out).mono ?_
  rintro e w1 ⟨x, vs, tk, pt, qt, rfl, rx, rt, hdd, BW⟩
  obtain ⟨p1, q1, p3, q3, p4, q4, p5, q5, rfl, -, -, -, -⟩ := session_rep rx
  have A := Arr.new w1 [.slice p1 x.1.length q1, .int .i64 x.2.1, .slice p3 x.2.2.1.length q3, .slice p4 x.2.2.2.1.length q4, .slice p5 x.2.2.2.2.length q5] 27
  have hb := alloc_below w1 (.cells #[.slice p1 x.1.length q1, .int .i64 x.2.1, .slice p3 x.2.2.1.length q3, .slice p4 x.2.2.2.1.length q4, .slice p5 x.2.2.2.2.length q5] 27)
  have RX := sessionC.keep rx hb
  have RT := rt.keep hb
  replace BW := Below.step BW hb
  have HDD : Hid (hdC x.2.2.2.2 = hdS x.2.2.2.2) := hdd
  clear rx rt hb hdd
  go_wp2_with fail
  generalize hV : w1.alloc (.cells #[.slice p1 x.1.length q1, .int .i64 x.2.1, .slice p3 x.2.2.1.length q3, .slice p4 x.2.2.2.1.length q4, .slice p5 x.2.2.2.2.length q5] 27) = V at *
  clear hV
  have a0 := (A.cell 0).trans (show _ = some _ from rfl)
  have a1 := (A.cell 1).trans (show _ = some _ from rfl)
  have a2 := (A.cell 2).trans (show _ = some _ from rfl)
  have a3 := (A.cell 3).trans (show _ = some _ from rfl)
  have a4 := (A.cell 4).trans (show _ = some _ from rfl)
  refine (implTk_k x _ tk pt qt V RX RT (HT.out.keep BW)).mono ?_
  rintro e w2 ⟨rfl, hb⟩
  replace RX := sessionC.keep RX hb
  replace RT := RT.keep hb
  replace A := A.stay hb
  replace BW := Below.step BW hb
  clear hb a0 a1 a2 a3 a4
  have a0 := (A.cell 0).trans (show _ = some _ from rfl)
  have a1 := (A.cell 1).trans (show _ = some _ from rfl)
  have a2 := (A.cell 2).trans (show _ = some _ from rfl)
  have a3 := (A.cell 3).trans (show _ = some _ from rfl)
  have a4 := (A.cell 4).trans (show _ = some _ from rfl)
  go_wp2_with fail
  refine (sessFault_k x _ w2 RX).mono ?_
  rintro e w3 ⟨rfl, hb⟩
  replace RX := sessionC.keep RX hb
  replace RT := RT.keep hb
  replace A := A.stay hb
  replace BW := Below.step BW hb
  clear hb a0 a1 a2 a3 a4
  by_cases h0 : seF hdC x = 0
  case neg =>
    have dk : (seF hdC x != 0) = true := by rw [bne_iff_ne]; exact h0
    have HC : Hid (tkC hdC x tk = seF hdC x) := by show _ = _; rw [tkC, if_neg h0]
    have HS : Hid (tkC hdS x tk = seF hdC x) := by show _ = _; rw [tkC, if_neg (fun k => h0 (se_same.2 k)), ← se_agree HDD.out]
    have KS := specTk_k x _ tk pt qt w3 RX RT
    rw [HS.out] at KS
    rw [HC.out]
    have a0 := (A.cell 0).trans (show _ = some _ from rfl)
    have a1 := (A.cell 1).trans (show _ = some _ from rfl)
    have a2 := (A.cell 2).trans (show _ = some _ from rfl)
    have a3 := (A.cell 3).trans (show _ = some _ from rfl)
    have a4 := (A.cell 4).trans (show _ = some _ from rfl)
    clear HC HS h0 RX RT A
    generalize seF hdC x = c at *
    go_wp2_with fail
    refine KS.mono ?_
    rintro e w4 ⟨rfl, hb⟩
    have dd : (c == c) = true := beq_self_eq_true c
    go_wp2_with fail
    go_ret
    exact ⟨rfl, Below.step BW hb⟩
  have hS := seC_iff.1 h0
  have HX : Hid (x.1.length = 32) := hS.len
  have HA : Hid (akC x.1 x.2.1 = 0) := hS.ak
  have HC : Hid (tkC hdC x tk = if sameB tk (biN x.1) then 0 else 7) := by show _ = _; rw [tkC, if_pos h0]
  have KB : Hid (∀ (W : World), Below w.heap.size w W → Rd W p1 q1 x.1 → Calls Tryd.prog 9 #[.slice p1 x.1.length q1] W fun e w' => ∃ u, e = .returned (.agg #[.int .i64 0, u]) ∧ Own w' W.heap.size u (biN x.1) ∧ Below W.heap.size W w') := fun W hb hr => by
    have h := implBi_c p1 q1 x.1 W hr (HT.out.keep hb)
    rw [show biD x.1 = (0, biN x.1) by rw [biD, show is32 x.1 = true by simp [is32, HX.out]]; rfl] at h
    exact h
  have KZ : Hid (∀ (W : World), Rd W p1 q1 x.1 → Calls Tryd.prog 12 #[.slice p1 x.1.length q1] W fun e w' => ∃ u, e = .returned (.agg #[.int .i64 0, u]) ∧ Own w' W.heap.size u (biN x.1) ∧ Below W.heap.size W w') := fun W hr => by
    have h := specBi_c p1 q1 x.1 W hr
    rw [show biD x.1 = (0, biN x.1) by rw [biD, show is32 x.1 = true by simp [is32, HX.out]]; rfl] at h
    exact h
  have KN : Hid (∀ (W : World), Rd W p1 q1 x.1 → Calls Tryd.prog 10 #[.slice p1 x.1.length q1, .int .i64 x.2.1] W fun e w' => ∃ us fp, e = .returned (.agg us.toArray) ∧ sessionResultC.own w' W.heap.size (0, 0, x.1, x.2.1, [], [], []) us fp ∧ Below W.heap.size W w') := fun W hr => by
    have h := implNs_k p1 q1 x.1 x.2.1 W hr
    rw [nsD, if_pos HA.out] at h
    exact h
  have KT : Hid (∀ (W : World) (vs : List Value) (y : SesD) (pu : Option Addr) (qu : Nat), Below w.heap.size w W → sessionC.rep W y vs → Rd W pu qu (biN x.1) → seF hdC y = 0 → y.1 = x.1 → Calls Tryd.prog 6 #[.agg vs.toArray, .slice pu (biN x.1).length qu] W fun e w' => e = .returned (.int .i64 0) ∧ Below W.heap.size W w') := fun W vs y pu qu hb hy hr h1 h2 => by
    have h := implTk_k y vs (biN x.1) pu qu W hy hr (HT.out.keep hb)
    rw [show tkC hdC y (biN x.1) = 0 by rw [tkC, if_pos h1, h2, if_pos (sameB_eq.2 rfl)]] at h
    exact h
  have HF : Hid (seF hdC x = 0) := h0
  have HN : Hid (seF hdC ((x.1, x.2.1, [], [], []) : SesD) = 0) := seC_iff.2 ⟨hS.ak, ⟨by simp, by simp, by simp⟩, by simp, by simp, by simp, List.Pairwise.nil⟩
  have HBL : Hid ((biN x.1).length = 32) := biN_len _
  obtain ⟨ct, HCT⟩ : ∃ ct, Hid (tkC hdC x tk = ct) := ⟨_, rfl⟩
  rw [HCT.out]
  have HCE : Hid (ct = if sameB tk (biN x.1) then 0 else 7) := by show _ = _; rw [← HCT.out, HC.out]
  rw [h0]
  obtain ⟨bi, HBI⟩ : ∃ bi, Hid (biN x.1 = bi) := ⟨_, rfl⟩
  rw [HBI.out] at KB KZ KT HBL HCE
  clear HC HCT HBI HA h0 hS
  obtain ⟨r1, r3, r4, r5⟩ : Rd w3 p1 q1 x.1 ∧ RdL bytC w3 p3 q3 x.2.2.1 ∧ RdL bytC w3 p4 q4 x.2.2.2.1 ∧ RdL holdC w3 p5 q5 x.2.2.2.2 := by
    obtain ⟨z1, y1, z3, y3, z4, y4, z5, y5, e9, r1, r3, r4, r5⟩ := session_rep RX
    simp only [List.cons.injEq, Value.slice.injEq, and_true, true_and] at e9
    obtain ⟨⟨rfl, rfl⟩, ⟨rfl, rfl⟩, ⟨rfl, rfl⟩, rfl, rfl⟩ := e9
    exact ⟨r1, r3, r4, r5⟩
  clear r3 r4 r5
  have a0 := (A.cell 0).trans (show _ = some _ from rfl)
  have a1 := (A.cell 1).trans (show _ = some _ from rfl)
  have a2 := (A.cell 2).trans (show _ = some _ from rfl)
  have a3 := (A.cell 3).trans (show _ = some _ from rfl)
  have a4 := (A.cell 4).trans (show _ = some _ from rfl)
  go_wp2_with fail
  refine (KB.out w3 BW r1).mono ?_
  rintro e w4 ⟨u, rfl, ku, hb⟩
  obtain ⟨pu, qu, rfl, ru⟩ := ku.rd
  have hl := alloc_below w4 (.cells #[.int .i64 0, .slice pu bi.length qu] 33)
  have B := Arr.new w4 [.int .i64 0, .slice pu bi.length qu] 33
  have hbx := Below.step hb hl
  replace RX := sessionC.keep RX hbx
  replace RT := RT.keep hbx
  replace A := A.stay hbx
  replace r1 := r1.keep hbx
  replace BW := Below.step BW hbx
  replace ru := ru.keep hl
  clear hb hl hbx ku KB a0 a1 a2 a3 a4
  have a0 := (A.cell 0).trans (show _ = some _ from rfl)
  have a1 := (A.cell 1).trans (show _ = some _ from rfl)
  have a2 := (A.cell 2).trans (show _ = some _ from rfl)
  have a3 := (A.cell 3).trans (show _ = some _ from rfl)
  have a4 := (A.cell 4).trans (show _ = some _ from rfl)
  go_wp2_with fail
  generalize hV : w4.alloc (.cells #[.int .i64 0, .slice pu bi.length qu] 33) = V5 at *
  clear hV
  refine (KN.out V5 r1).mono ?_
  rintro e w6 ⟨us, fp, rfl, ko, hb⟩
  have kr := sessionResultC.toRep ko
  obtain ⟨pn, qn, pn3, qn3, pn4, qn4, pn5, qn5, rfl, n1, n3, n4, n5⟩ := sessionResult_rep kr
  simp only [] at n1 n3 n4 n5
  have RN : sessionC.rep w6 ((x.1, x.2.1, [], [], []) : SesD) [.slice pn x.1.length qn, .int .i64 x.2.1, .slice pn3 0 qn3, .slice pn4 0 qn4, .slice pn5 0 qn5] := session_mk (a := ((x.1, x.2.1, [], [], []) : SesD)) n1 n3 n4 n5
  have hl := alloc_below w6 (.cells #[.int .i64 0, .int .i64 0, .slice pn x.1.length qn, .int .i64 x.2.1, .slice pn3 0 qn3, .slice pn4 0 qn4, .slice pn5 0 qn5] 36)
  have N := Arr.new w6 [.int .i64 0, .int .i64 0, .slice pn x.1.length qn, .int .i64 x.2.1, .slice pn3 0 qn3, .slice pn4 0 qn4, .slice pn5 0 qn5] 36
  have hbx := Below.step hb hl
  replace RX := sessionC.keep RX hbx
  replace RT := RT.keep hbx
  replace A := A.stay hbx
  replace B := B.stay hbx
  replace r1 := r1.keep hbx
  replace ru := ru.keep hbx
  replace BW := Below.step BW hbx
  replace RN := sessionC.keep RN hl
  clear hb hl hbx ko kr KN a0 a1 a2 a3 a4 n1 n3 n4 n5
  have a0 := (A.cell 0).trans (show _ = some _ from rfl)
  have a1 := (A.cell 1).trans (show _ = some _ from rfl)
  have a2 := (A.cell 2).trans (show _ = some _ from rfl)
  have a3 := (A.cell 3).trans (show _ = some _ from rfl)
  have a4 := (A.cell 4).trans (show _ = some _ from rfl)
  have b0 := (B.cell 0).trans (show _ = some _ from rfl)
  have b1 := (B.cell 1).trans (show _ = some _ from rfl)
  have n0 := (N.cell 0).trans (show _ = some _ from rfl)
  have n1 := (N.cell 1).trans (show _ = some _ from rfl)
  have n2 := (N.cell 2).trans (show _ = some _ from rfl)
  have n3 := (N.cell 3).trans (show _ = some _ from rfl)
  have n4 := (N.cell 4).trans (show _ = some _ from rfl)
  have n5 := (N.cell 5).trans (show _ = some _ from rfl)
  have n6 := (N.cell 6).trans (show _ = some _ from rfl)
  have F1 := bytes_f1
  have hqu1 := ru.1
  have hqu2 : qu ≤ 2 ^ 63 - 1 := ru.2.1
  rw [HBL.out] at hqu1
  have dd : ((ct == 0) == (tk == bi)) = true := by
    rw [HCE.out]
    cases h : sameB tk bi
    · have h2 : (tk == bi) = false := h
      rw [h2]; rfl
    · have h2 : (tk == bi) = true := h
      rw [h2]; rfl
  have hb32 : ((bi.length : Int) == 32) = true := by have := HBL.out; rw [beq_iff_eq]; omega
  clear HCE n1 A B N
  go_wp2_with fail
  generalize hV : w6.alloc (.cells #[.int .i64 0, .int .i64 0, .slice pn x.1.length qn, .int .i64 x.2.1, .slice pn3 0 qn3, .slice pn4 0 qn4, .slice pn5 0 qn5] 36) = VF at *
  clear hV
  have hne := HW.some VF
  have ga0 := HW.at a0
  have ga1 := HW.at a1
  have ga2 := HW.at a2
  have ga3 := HW.at a3
  have ga4 := HW.at a4
  have gb0 := HW.at b0
  have gb1 := HW.at b1
  have gn0 := HW.at n0
  have gn2 := HW.at n2
  have gn3 := HW.at n3
  have gn4 := HW.at n4
  have gn5 := HW.at n5
  have gn6 := HW.at n6
  clear a0 a1 a2 a3 a4 b0 b1 n0 n2 n3 n4 n5 n6
  refine wp_region_pick [0, 1, 2, 3, 4, 5, 6, 7, 8] 47 38 1 rfl rfl rfl (by kernel_rfl) (by kernel_rfl) (by kernel_rfl) (by kernel_rfl) ?_
  simp only [opsAt, List.getElem?_toArray, List.getElem?_cons_zero, List.getElem?_cons_succ]
  repeat (go_big_quiet_step (fail))
  refine wpQuiet_nil ?_
  refine wpM_only (i := 9) (by kernel_rfl) ?_
  refine mOp_call rfl (by go_simp) 11 _ #[.slice pt tk.length qt, .slice pu bi.length qu] (fun w => by go_simp) rfl ?_
  rintro _ ⟨sg0, rfl⟩
  refine (lwSame_c _ _ _ _ tk bi _ (RT.keep sg0.h) (ru.keep sg0.h)).mono ?_
  rintro e wg0 ⟨rfl, hwg⟩
  subst hwg
  refine ⟨_, rfl, ⟨⟨sg0.w, Below.refl _ _⟩, rfl⟩, ?_⟩
  have hbg : Below _ _ sg0.w := sg0.h
  replace ga0 := HW.down ga0 hbg
  replace ga1 := HW.down ga1 hbg
  replace ga2 := HW.down ga2 hbg
  replace ga3 := HW.down ga3 hbg
  replace ga4 := HW.down ga4 hbg
  replace gb0 := HW.down gb0 hbg
  replace gb1 := HW.down gb1 hbg
  replace gn0 := HW.down gn0 hbg
  replace gn2 := HW.down gn2 hbg
  replace gn3 := HW.down gn3 hbg
  replace gn4 := HW.down gn4 hbg
  replace gn5 := HW.down gn5 hbg
  replace gn6 := HW.down gn6 hbg
  replace RT := RT.keep hbg
  replace ru := ru.keep hbg
  replace r1 := r1.keep hbg
  replace RX := sessionC.keep RX hbg
  replace RN := sessionC.keep RN hbg
  replace BW := Below.step BW hbg
  replace hne := HW.some sg0.w
  clear hbg
  generalize sg0.w = wg0 at *
  clear sg0
  refine wpM_more [10, 11, 12, 13, 14, 15] 37 31 rfl (by kernel_rfl) (by kernel_rfl) (by kernel_rfl) (by kernel_rfl) ?_
  simp only [opsAt, List.getElem?_toArray, List.getElem?_cons_zero, List.getElem?_cons_succ]
  go_simp
  repeat (go_big_quiet_step (fail))
  refine wpQuiet_nil ?_
  refine wpM_only (i := 16) (by kernel_rfl) ?_
  refine mOp_call rfl (by go_simp) 6 _ #[.agg #[.slice p1 x.1.length q1, .int .i64 x.2.1, .slice p3 x.2.2.1.length q3, .slice p4 x.2.2.2.1.length q4, .slice p5 x.2.2.2.2.length q5], .slice pu bi.length qu] (fun w => by go_simp) rfl ?_
  rintro _ ⟨sg2, rfl⟩
  refine (KT.out _ [.slice p1 x.1.length q1, .int .i64 x.2.1, .slice p3 x.2.2.1.length q3, .slice p4 x.2.2.2.1.length q4, .slice p5 x.2.2.2.2.length q5] x _ _ (Below.step BW sg2.h) (sessionC.keep RX sg2.h) (ru.keep sg2.h) HF.out rfl).mono ?_
  rintro e wg2 ⟨rfl, hbx⟩
  have hbg := Below.step sg2.h hbx
  refine ⟨_, rfl, ⟨⟨wg2, hbx⟩, rfl⟩, ?_⟩
  replace ga0 := HW.down ga0 hbg
  replace ga1 := HW.down ga1 hbg
  replace ga2 := HW.down ga2 hbg
  replace ga3 := HW.down ga3 hbg
  replace ga4 := HW.down ga4 hbg
  replace gb0 := HW.down gb0 hbg
  replace gb1 := HW.down gb1 hbg
  replace gn0 := HW.down gn0 hbg
  replace gn2 := HW.down gn2 hbg
  replace gn3 := HW.down gn3 hbg
  replace gn4 := HW.down gn4 hbg
  replace gn5 := HW.down gn5 hbg
  replace gn6 := HW.down gn6 hbg
  replace RT := RT.keep hbg
  replace ru := ru.keep hbg
  replace r1 := r1.keep hbg
  replace RX := sessionC.keep RX hbg
  replace RN := sessionC.keep RN hbg
  replace BW := Below.step BW hbg
  replace hne := HW.some wg2
  clear hbg hbx
  refine wpM_more [17, 18, 19, 20, 21, 22, 23, 24, 25, 26, 27, 28] 30 18 rfl (by kernel_rfl) (by kernel_rfl) (by kernel_rfl) (by kernel_rfl) ?_
  simp only [opsAt, List.getElem?_toArray, List.getElem?_cons_zero, List.getElem?_cons_succ]
  go_simp
  repeat (go_big_quiet_step (fail))
  refine wpQuiet_nil ?_
  refine wpM_only (i := 29) (by kernel_rfl) ?_
  refine mOp_call rfl (by go_simp) 6 _ #[.agg #[.slice pn x.1.length qn, .int .i64 x.2.1, .slice pn3 0 qn3, .slice pn4 0 qn4, .slice pn5 0 qn5], .slice pu bi.length qu] (fun w => by go_simp) rfl ?_
  rintro _ ⟨sg4, rfl⟩
  refine (KT.out _ [.slice pn x.1.length qn, .int .i64 x.2.1, .slice pn3 0 qn3, .slice pn4 0 qn4, .slice pn5 0 qn5] (x.1, x.2.1, [], [], []) _ _ (Below.step BW sg4.h) (sessionC.keep RN sg4.h) (ru.keep sg4.h) HN.out rfl).mono ?_
  rintro e wg4 ⟨rfl, hbx⟩
  have hbg := Below.step sg4.h hbx
  refine ⟨_, rfl, ⟨⟨wg4, hbx⟩, rfl⟩, ?_⟩
  replace ga0 := HW.down ga0 hbg
  replace ga1 := HW.down ga1 hbg
  replace ga2 := HW.down ga2 hbg
  replace ga3 := HW.down ga3 hbg
  replace ga4 := HW.down ga4 hbg
  replace gb0 := HW.down gb0 hbg
  replace gb1 := HW.down gb1 hbg
  replace gn0 := HW.down gn0 hbg
  replace gn2 := HW.down gn2 hbg
  replace gn3 := HW.down gn3 hbg
  replace gn4 := HW.down gn4 hbg
  replace gn5 := HW.down gn5 hbg
  replace gn6 := HW.down gn6 hbg
  replace RT := RT.keep hbg
  replace ru := ru.keep hbg
  replace r1 := r1.keep hbg
  replace RX := sessionC.keep RX hbg
  replace RN := sessionC.keep RN hbg
  replace BW := Below.step BW hbg
  replace hne := HW.some wg4
  clear hbg hbx
  refine wpM_more [30, 31, 32, 33, 34, 35, 36, 37, 38, 39, 40, 41, 42] 17 4 rfl (by kernel_rfl) (by kernel_rfl) (by kernel_rfl) (by kernel_rfl) ?_
  simp only [opsAt, List.getElem?_toArray, List.getElem?_cons_zero, List.getElem?_cons_succ]
  go_simp
  repeat (go_big_quiet_step (fail))
  refine wpQuiet_nil ?_
  refine wpM_only (i := 43) (by kernel_rfl) ?_
  refine mOp_call rfl (by go_simp) 12 _ #[.slice p1 x.1.length q1] (fun w => by go_simp) rfl ?_
  rintro _ ⟨sg6, rfl⟩
  refine (KZ.out _ (r1.keep sg6.h)).mono ?_
  rintro e wg6 ⟨ug, rfl, kg, hbx⟩
  obtain ⟨pz, qz, rfl, rz⟩ := kg.rd
  have hbg := Below.step sg6.h hbx
  refine ⟨_, rfl, ⟨⟨wg6, hbx⟩, rfl⟩, ?_⟩
  replace ga0 := HW.down ga0 hbg
  replace ga1 := HW.down ga1 hbg
  replace ga2 := HW.down ga2 hbg
  replace ga3 := HW.down ga3 hbg
  replace ga4 := HW.down ga4 hbg
  replace gb0 := HW.down gb0 hbg
  replace gb1 := HW.down gb1 hbg
  replace gn0 := HW.down gn0 hbg
  replace gn2 := HW.down gn2 hbg
  replace gn3 := HW.down gn3 hbg
  replace gn4 := HW.down gn4 hbg
  replace gn5 := HW.down gn5 hbg
  replace gn6 := HW.down gn6 hbg
  replace RT := RT.keep hbg
  replace ru := ru.keep hbg
  replace r1 := r1.keep hbg
  replace RX := sessionC.keep RX hbg
  replace RN := sessionC.keep RN hbg
  replace BW := Below.step BW hbg
  replace hne := HW.some wg6
  clear hbg kg hbx
  refine wpM_more [44] 3 2 rfl (by kernel_rfl) (by kernel_rfl) (by kernel_rfl) (by kernel_rfl) ?_
  simp only [opsAt, List.getElem?_toArray, List.getElem?_cons_zero, List.getElem?_cons_succ]
  go_simp
  repeat (go_big_quiet_step (fail))
  refine wpQuiet_nil ?_
  refine wpM_only (i := 45) (by kernel_rfl) ?_
  refine mOp_call rfl (by go_simp) 11 _ #[.slice pu bi.length qu, .slice pz bi.length qz] (fun w => by go_simp) rfl ?_
  rintro _ ⟨sg8, rfl⟩
  refine (lwSame_yes _ _ _ _ _ _ bi _ rfl rfl (ru.keep sg8.h) (rz.keep sg8.h)).mono ?_
  rintro e wg8 ⟨rfl, hwg⟩
  subst hwg
  refine ⟨_, rfl, ⟨⟨sg8.w, Below.refl _ _⟩, rfl⟩, ?_⟩
  have hbg : Below _ _ sg8.w := sg8.h
  replace ga0 := HW.down ga0 hbg
  replace ga1 := HW.down ga1 hbg
  replace ga2 := HW.down ga2 hbg
  replace ga3 := HW.down ga3 hbg
  replace ga4 := HW.down ga4 hbg
  replace gb0 := HW.down gb0 hbg
  replace gb1 := HW.down gb1 hbg
  replace gn0 := HW.down gn0 hbg
  replace gn2 := HW.down gn2 hbg
  replace gn3 := HW.down gn3 hbg
  replace gn4 := HW.down gn4 hbg
  replace gn5 := HW.down gn5 hbg
  replace gn6 := HW.down gn6 hbg
  replace RT := RT.keep hbg
  replace ru := ru.keep hbg
  replace r1 := r1.keep hbg
  replace RX := sessionC.keep RX hbg
  replace RN := sessionC.keep RN hbg
  replace rz := rz.keep hbg
  replace BW := Below.step BW hbg
  replace hne := HW.some sg8.w
  clear hbg
  generalize sg8.w = wg8 at *
  clear sg8
  refine wpM_more [46] 1 0 rfl (by kernel_rfl) (by kernel_rfl) (by kernel_rfl) (by kernel_rfl) ?_
  simp only [opsAt, List.getElem?_toArray, List.getElem?_cons_zero, List.getElem?_cons_succ]
  go_simp
  repeat (go_big_quiet_step (fail))
  refine wpQuiet_nil ?_
  refine wpM_end (by kernel_rfl) rfl (by kernel_rfl) (by decide) ?_
  rintro _ ⟨sgz, rfl⟩
  simp only [List.drop_succ_cons, List.drop_zero]
  go_wp2
  go_ret
  exact ⟨rfl, Below.step BW sgz.h⟩
end Go.Proofs.YtflhoefocjmihaaDoor

