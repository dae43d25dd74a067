/- The walk of FnSteps, where the two tables hold what the program's text lays. -/
import Derived.Test.YtiabacnmmojfjaaGreatDoorDrawSx
import Derived.Test.YtiabacnmmojfjaaGreatDoorShkH
import Derived.Test.YtiabacnmmojfjaaGreatDoorJoint7
import Derived.Test.YtiabacnmmojfjaaGreatDoorJoint4
import Derived.Test.YtiabacnmmojfjaaGreatDoorJoint5
import Derived.Test.YtiabacnmmojfjaaGreatDoorJoint18
import Derived.Test.YtiabacnmmojfjaaGreatDoorJoint1
import Derived.Test.YtiabacnmmojfjaaGreatDoorJoint6
namespace Go.Proofs.YtiabacnmmojfjaaGreatDoor
open Go.ChangeShapes Go.WideShapes Go.ChangeAt Go.RowKit

theorem endR_f0 (c : Int) (v1 v2 v3 v4 v5 v6 v7 v8 v9 v10 v11 v12 v13 : Value) (w : World) : (Instr.field 43 (.agg #[.int .i64 c, v1, v2, v3, v4, v5, v6, v7, v8, v9, v10, v11, v12, v13]) 0).run Tryz.prog w = .ok (.int .i64 c) w := by kernel_rfl
set_option maxRecDepth 4000 in
set_option maxHeartbeats 8000000 in
theorem fnSteps_walk (a : Option Addr) (cap : Nat) (bs0 : List UInt8) (w : World) (r0 : Rd w a cap bs0) (hT : Tabs w) :
    Calls Tryz.prog 4 #[.slice a bs0.length cap] w fun e w' => e = .returned (.bool true) ∧ Below w.heap.size w w' := by
  by_cases hl0 : 1048576 < bs0.length
  · go_enter Tryz.func4, Tryz.ntmps4
    go_wp2_with fail
    refine (lwBig_yes _ _ _ _ hl0).mono ?_
    rintro e w1 ⟨rfl, rfl⟩
    go_wp2
    go_ret
    exact ⟨rfl, Below.refl _ _⟩
  replace hl0 : bs0.length ≤ 1048576 := by omega
  have HR0 : Hid (∀ W, Below w.heap.size w W → Rd W a cap bs0) := fun W hb => r0.keep hb
  have HT0 : Hid (∀ W, Below w.heap.size w W → Tabs W) := fun W hb => hT.keep hb
  go_enter Tryz.func4, Tryz.ntmps4
  go_wp2_with fail
  refine (lwBig_no _ _ _ _ hl0).mono ?_
  rintro e w1 ⟨rfl, hw1⟩
  rw [hw1]
  clear hw1 w1
  go_wp2_with fail
  refine (drawHV_c _ _ bs0 _ r0).mono ?_
  rintro e w1 ⟨en, l, us, v, rfl, re, ⟨p9, q9, e9, rl⟩, BW⟩
  cases e9
  clear r0 hT hl0
  obtain ⟨pn1, qn1, pn2, qn2, pn3, qn3, pn4, qn4, pn5, qn5, pn6, qn6, pn7, qn7, pn8, qn8, rfl, -, -, -, -, -, -, -, -⟩ := end_rep re
  have hl1 := alloc_below w1 (.cells #[.int .i64 en.1.1, .slice pn1 en.1.2.1.length qn1, .int .i64 en.1.2.2.1, .slice pn2 en.1.2.2.2.length qn2, .int .i64 en.2.1, .int .i64 en.2.2.1, .slice pn3 en.2.2.2.1.length qn3, .slice pn4 en.2.2.2.2.1.length qn4, .slice pn5 en.2.2.2.2.2.1.length qn5, .slice pn6 en.2.2.2.2.2.2.1.length qn6, .slice pn7 en.2.2.2.2.2.2.2.1.length qn7, .slice pn8 en.2.2.2.2.2.2.2.2.length qn8] 32)
  have X := Arr.new w1 [.int .i64 en.1.1, .slice pn1 en.1.2.1.length qn1, .int .i64 en.1.2.2.1, .slice pn2 en.1.2.2.2.length qn2, .int .i64 en.2.1, .int .i64 en.2.2.1, .slice pn3 en.2.2.2.1.length qn3, .slice pn4 en.2.2.2.2.1.length qn4, .slice pn5 en.2.2.2.2.2.1.length qn5, .slice pn6 en.2.2.2.2.2.2.1.length qn6, .slice pn7 en.2.2.2.2.2.2.2.1.length qn7, .slice pn8 en.2.2.2.2.2.2.2.2.length qn8] 32
  have HRE : Hid (endC.rep (w1.alloc (.cells #[.int .i64 en.1.1, .slice pn1 en.1.2.1.length qn1, .int .i64 en.1.2.2.1, .slice pn2 en.1.2.2.2.length qn2, .int .i64 en.2.1, .int .i64 en.2.2.1, .slice pn3 en.2.2.2.1.length qn3, .slice pn4 en.2.2.2.2.1.length qn4, .slice pn5 en.2.2.2.2.2.1.length qn5, .slice pn6 en.2.2.2.2.2.2.1.length qn6, .slice pn7 en.2.2.2.2.2.2.2.1.length qn7, .slice pn8 en.2.2.2.2.2.2.2.2.length qn8] 32)) en [.int .i64 en.1.1, .slice pn1 en.1.2.1.length qn1, .int .i64 en.1.2.2.1, .slice pn2 en.1.2.2.2.length qn2, .int .i64 en.2.1, .int .i64 en.2.2.1, .slice pn3 en.2.2.2.1.length qn3, .slice pn4 en.2.2.2.2.1.length qn4, .slice pn5 en.2.2.2.2.2.1.length qn5, .slice pn6 en.2.2.2.2.2.2.1.length qn6, .slice pn7 en.2.2.2.2.2.2.2.1.length qn7, .slice pn8 en.2.2.2.2.2.2.2.2.length qn8]) := endC.keep re hl1
  have HRL : Hid (RdL msgC (w1.alloc (.cells #[.int .i64 en.1.1, .slice pn1 en.1.2.1.length qn1, .int .i64 en.1.2.2.1, .slice pn2 en.1.2.2.2.length qn2, .int .i64 en.2.1, .int .i64 en.2.2.1, .slice pn3 en.2.2.2.1.length qn3, .slice pn4 en.2.2.2.2.1.length qn4, .slice pn5 en.2.2.2.2.2.1.length qn5, .slice pn6 en.2.2.2.2.2.2.1.length qn6, .slice pn7 en.2.2.2.2.2.2.2.1.length qn7, .slice pn8 en.2.2.2.2.2.2.2.2.length qn8] 32)) p9 q9 l) := rl.keep hl1
  replace BW := Below.step BW hl1
  clear hl1 re rl
  obtain ⟨D, HD⟩ : ∃ D, Hid (D = hvE en l) := ⟨_, rfl⟩
  have KV := implHv_k en l _ _ _ HRE.out ⟨_, _, rfl, HRL.out⟩ (HT0.out _ BW)
  rw [← HD.out] at KV
  have x0 := (X.cell 0).trans (show _ = some _ from rfl)
  have x1 := (X.cell 1).trans (show _ = some _ from rfl)
  have x2 := (X.cell 2).trans (show _ = some _ from rfl)
  have x3 := (X.cell 3).trans (show _ = some _ from rfl)
  have x4 := (X.cell 4).trans (show _ = some _ from rfl)
  have x5 := (X.cell 5).trans (show _ = some _ from rfl)
  have x6 := (X.cell 6).trans (show _ = some _ from rfl)
  have x7 := (X.cell 7).trans (show _ = some _ from rfl)
  have x8 := (X.cell 8).trans (show _ = some _ from rfl)
  have x9 := (X.cell 9).trans (show _ = some _ from rfl)
  have x10 := (X.cell 10).trans (show _ = some _ from rfl)
  have x11 := (X.cell 11).trans (show _ = some _ from rfl)
  go_wp2_with fail
  generalize w1.alloc (.cells #[.int .i64 en.1.1, .slice pn1 en.1.2.1.length qn1, .int .i64 en.1.2.2.1, .slice pn2 en.1.2.2.2.length qn2, .int .i64 en.2.1, .int .i64 en.2.2.1, .slice pn3 en.2.2.2.1.length qn3, .slice pn4 en.2.2.2.2.1.length qn4, .slice pn5 en.2.2.2.2.2.1.length qn5, .slice pn6 en.2.2.2.2.2.2.1.length qn6, .slice pn7 en.2.2.2.2.2.2.2.1.length qn7, .slice pn8 en.2.2.2.2.2.2.2.2.length qn8] 32) = V at *
  refine KV.mono ?_
  rintro e w2 ⟨usr, fr, rfl, Kr, hb2⟩
  clear KV x0 x1 x2 x3 x4 x5 x6 x7 x8 x9 x10 x11
  have hus : usr.length = 14 := endResultC.len (endResultC.toRep Kr)
  have hone := endResultC.one (endResultC.toRep Kr)
  obtain ⟨pr1, qr1, pr2, qr2, pr3, qr3, pr4, qr4, pr5, qr5, pr6, qr6, pr7, qr7, pr8, qr8, prs, qrs, eU, -, -, -, -, -, -, -, -, -⟩ := endResult_rep (endResultC.toRep Kr)
  have HUr : Hid (usr = [.int .i64 D.1, .int .i64 D.2.1.1.1, .slice pr1 D.2.1.1.2.1.length qr1, .int .i64 D.2.1.1.2.2.1, .slice pr2 D.2.1.1.2.2.2.length qr2, .int .i64 D.2.1.2.1, .int .i64 D.2.1.2.2.1, .slice pr3 D.2.1.2.2.2.1.length qr3, .slice pr4 D.2.1.2.2.2.2.1.length qr4, .slice pr5 D.2.1.2.2.2.2.2.1.length qr5, .slice pr6 D.2.1.2.2.2.2.2.2.1.length qr6, .slice pr7 D.2.1.2.2.2.2.2.2.2.1.length qr7, .slice pr8 D.2.1.2.2.2.2.2.2.2.2.length qr8, .slice prs D.2.2.length qrs]) := eU
  clear eU
  have AZ := Arr.new w2 [.int .i64 0, .int .i64 0, .slice none 0 0, .int .i64 0, .slice none 0 0, .int .i64 0, .int .i64 0, .slice none 0 0, .slice none 0 0, .slice none 0 0, .slice none 0 0, .slice none 0 0, .slice none 0 0, .slice none 0 0] 43
  have Nr := AZ.row usr
  have hbn : Below w2.heap.size w2 ((w2.alloc (.cells #[.int .i64 0, .int .i64 0, .slice none 0 0, .int .i64 0, .slice none 0 0, .int .i64 0, .int .i64 0, .slice none 0 0, .slice none 0 0, .slice none 0 0, .slice none 0 0, .slice none 0 0, .slice none 0 0, .slice none 0 0] 43)).setRow w2.heap.size usr.toArray) := Below.row (alloc_below _ _) (Nat.le_refl _) _
  have HGr : Hid (∀ k, k ∈ fr → k ≠ w2.heap.size) := fun k hk e => by have := (endResultC.ins Kr k hk).2; omega
  replace Kr := endResultC.row (endResultC.stay Kr (alloc_below w2 (.cells #[.int .i64 0, .int .i64 0, .slice none 0 0, .int .i64 0, .slice none 0 0, .int .i64 0, .int .i64 0, .slice none 0 0, .slice none 0 0, .slice none 0 0, .slice none 0 0, .slice none 0 0, .slice none 0 0, .slice none 0 0] 43))) HGr.out usr.toArray
  have hres : Hid ((Tryz.prog.info? 43).map (·.size) = some usr.toArray.size) := by show _ = _; rw [List.size_toArray, hus]; kernel_rfl
  have H14 : Hid (usr.length = 14) := hus
  clear hus
  have HB2 : Hid (Below V.heap.size V w2) := hb2
  replace BW := Below.step (Below.step BW hb2) hbn
  replace X := (X.stay hb2).stay hbn
  have HVW : Hid (Below V.heap.size V ((w2.alloc (.cells #[.int .i64 0, .int .i64 0, .slice none 0 0, .int .i64 0, .slice none 0 0, .int .i64 0, .int .i64 0, .slice none 0 0, .slice none 0 0, .slice none 0 0, .slice none 0 0, .slice none 0 0, .slice none 0 0, .slice none 0 0] 43)).setRow w2.heap.size usr.toArray)) := Below.step hb2 hbn
  clear hb2 hbn
  go_wp2_with (refine wpList_store_row rfl 43 _ _ rfl w2.heap.size usr.toArray rfl rfl 43 #[.int .i64 0, .int .i64 0, .slice none 0 0, .int .i64 0, .slice none 0 0, .int .i64 0, .int .i64 0, .slice none 0 0, .slice none 0 0, .slice none 0 0, .slice none 0 0, .slice none 0 0, .slice none 0 0, .slice none 0 0] AZ hres.out (by have h := H14.out; simp [h]) (by simpa using hone) ?_)
  generalize (w2.alloc (.cells #[.int .i64 0, .int .i64 0, .slice none 0 0, .int .i64 0, .slice none 0 0, .int .i64 0, .int .i64 0, .slice none 0 0, .slice none 0 0, .slice none 0 0, .slice none 0 0, .slice none 0 0, .slice none 0 0, .slice none 0 0] 43)).setRow w2.heap.size usr.toArray = V2 at *
  clear AZ hres H14 hone
  have KSP : Hid (∀ W, Below V.heap.size V W → Calls Tryz.prog 16 #[.agg #[.int .i64 en.1.1, .slice pn1 en.1.2.1.length qn1, .int .i64 en.1.2.2.1, .slice pn2 en.1.2.2.2.length qn2, .int .i64 en.2.1, .int .i64 en.2.2.1, .slice pn3 en.2.2.2.1.length qn3, .slice pn4 en.2.2.2.2.1.length qn4, .slice pn5 en.2.2.2.2.2.1.length qn5, .slice pn6 en.2.2.2.2.2.2.1.length qn6, .slice pn7 en.2.2.2.2.2.2.2.1.length qn7, .slice pn8 en.2.2.2.2.2.2.2.2.length qn8], .slice p9 l.length q9] W fun e w' => ∃ us fp, e = .returned (.agg us.toArray) ∧ endResultC.own w' W.heap.size D us fp ∧ Below W.heap.size W w') := fun W hb => by
    have h := specHv_k en l _ _ W (endC.keep HRE.out hb) ⟨_, _, rfl, HRL.out.keep hb⟩
    rw [← HD.out] at h
    exact h
  go_simp
  have hne := HW.some V2
  have g0 := HW.at ((X.cell 0).trans (show _ = some _ from rfl))
  have g1 := HW.at ((X.cell 1).trans (show _ = some _ from rfl))
  have g2 := HW.at ((X.cell 2).trans (show _ = some _ from rfl))
  have g3 := HW.at ((X.cell 3).trans (show _ = some _ from rfl))
  have g4 := HW.at ((X.cell 4).trans (show _ = some _ from rfl))
  have g5 := HW.at ((X.cell 5).trans (show _ = some _ from rfl))
  have g6 := HW.at ((X.cell 6).trans (show _ = some _ from rfl))
  have g7 := HW.at ((X.cell 7).trans (show _ = some _ from rfl))
  have g8 := HW.at ((X.cell 8).trans (show _ = some _ from rfl))
  have g9 := HW.at ((X.cell 9).trans (show _ = some _ from rfl))
  have g10 := HW.at ((X.cell 10).trans (show _ = some _ from rfl))
  have g11 := HW.at ((X.cell 11).trans (show _ = some _ from rfl))
  have n0 := HW.at ((Nr.cell 0).trans (show _ = some (.int .i64 D.1) by rw [HUr.out]; rfl))
  have BV := Below.refl V2.heap.size V2
  have dE : (D.1 != D.1) = false := by simp
  refine wp_region_pick [0, 1, 2, 3] 6 2 1 rfl rfl rfl (by as_aux_lemma => kernel_rfl) (by as_aux_lemma => kernel_rfl) (by as_aux_lemma => kernel_rfl) (by as_aux_lemma => kernel_rfl) ?_
  simp only [opsAt, List.getElem?_toArray, List.getElem?_cons_zero, List.getElem?_cons_succ]
  repeat (go_big_quiet_step (fail))
  refine wpQuiet_nil ?_
  clear g0 g1 g2 g3 g4 g5 g6 g7 g8 g9 g10 g11 n0
  refine wpM_only (i := 4) (by as_aux_lemma => kernel_rfl) ?_
  refine mOp_call rfl (by go_simp) 16 _ #[.agg #[.int .i64 en.1.1, .slice pn1 en.1.2.1.length qn1, .int .i64 en.1.2.2.1, .slice pn2 en.1.2.2.2.length qn2, .int .i64 en.2.1, .int .i64 en.2.2.1, .slice pn3 en.2.2.2.1.length qn3, .slice pn4 en.2.2.2.2.1.length qn4, .slice pn5 en.2.2.2.2.2.1.length qn5, .slice pn6 en.2.2.2.2.2.2.1.length qn6, .slice pn7 en.2.2.2.2.2.2.2.1.length qn7, .slice pn8 en.2.2.2.2.2.2.2.2.length qn8], .slice p9 l.length q9] (fun w => by go_simp) rfl ?_
  rintro _ ⟨sg, rfl⟩
  refine (KSP.out _ (Below.step HVW.out (Below.step BV sg.h))).mono ?_
  rintro e wg0 ⟨uss, fps, rfl, Ks, hbx⟩
  have hf : ∀ w, (Instr.field 43 (.agg uss.toArray) 0).run Tryz.prog w = .ok (.int .i64 D.1) w := by
    obtain ⟨pz1, qz1, pz2, qz2, pz3, qz3, pz4, qz4, pz5, qz5, pz6, qz6, pz7, qz7, pz8, qz8, pzs, qzs, eu, -, -, -, -, -, -, -, -, -⟩ := endResult_rep (endResultC.toRep Ks)
    subst eu
    exact fun w => endR_f0 D.1 (.int .i64 D.2.1.1.1) (.slice pz1 D.2.1.1.2.1.length qz1) (.int .i64 D.2.1.1.2.2.1) (.slice pz2 D.2.1.1.2.2.2.length qz2) (.int .i64 D.2.1.2.1) (.int .i64 D.2.1.2.2.1) (.slice pz3 D.2.1.2.2.2.1.length qz3) (.slice pz4 D.2.1.2.2.2.2.1.length qz4) (.slice pz5 D.2.1.2.2.2.2.2.1.length qz5) (.slice pz6 D.2.1.2.2.2.2.2.2.1.length qz6) (.slice pz7 D.2.1.2.2.2.2.2.2.2.1.length qz7) (.slice pz8 D.2.1.2.2.2.2.2.2.2.2.length qz8) (.slice pzs D.2.2.length qzs) w
  have hbg := Below.step sg.h hbx
  refine ⟨_, rfl, ⟨⟨wg0, hbx⟩, rfl⟩, ?_⟩
  have I0 : Hid (∀ k, k ∈ fps → V2.heap.size ≤ k ∧ k < wg0.heap.size) := fun k hk => ⟨Nat.le_trans sg.h.size (endResultC.ins Ks k hk).1, (endResultC.ins Ks k hk).2⟩
  have T0 : Hid (V2.heap.size ≤ wg0.heap.size) := Nat.le_trans sg.h.size hbx.size
  replace Ks := endResultC.low Ks (Below.step BV sg.h).size
  replace BV := Below.step BV hbg
  replace hne := HW.some wg0
  clear hbg hbx sg
  refine wpM_more [5] 1 0 rfl (by as_aux_lemma => kernel_rfl) (by as_aux_lemma => kernel_rfl) (by as_aux_lemma => kernel_rfl) (by as_aux_lemma => kernel_rfl) ?_
  simp only [opsAt, List.getElem?_toArray, List.getElem?_cons_zero, List.getElem?_cons_succ]
  go_simp
  repeat (go_big_quiet_step (fail))
  refine wpQuiet_nil ?_
  refine wpM_end (by as_aux_lemma => kernel_rfl) rfl (by as_aux_lemma => kernel_rfl) (by decide) ?_
  rintro _ ⟨sgz, rfl⟩
  simp only [List.drop_succ_cons, List.drop_zero]
  go_simp
  replace Ks := endResultC.stay Ks sgz.h
  replace BV := Below.step BV sgz.h
  clear hne
  generalize sgz.w = V2x at *
  clear sgz
  replace X := X.stay BV
  replace Nr := Nr.stay BV
  replace Kr := endResultC.stay Kr BV
  replace BW := Below.step BW BV
  replace HVW : Hid (Below V.heap.size V V2x) := Below.step HVW.out BV
  clear BV Ks I0 T0 hf KSP HB2 HGr
  go_wp2_with fail
  rename_i K1 h1 K2 h2
  have JN : Hid (∀ (f : Act) (W : World), (∃ y3 y4 y5 y12 y13 y14 y15 y16 y17 y18 y19 y20 y21 y22 y23 y24 y25 y26 y27 y28 y29 y30 y31 y32 y33 y34 y35 y36 y37 y38 y39 y40 y41 y42 y43 y44 y45 y46 y47 y48 y49 y50 y51 y52 y53 y54 y55 y56 y57 y58 y59 y60 y61 y62 y63 y64 y65 y66 y67 y68 y69 y70 y71 y72 y73 y74 y75 : Value, f = { tmps := #[.slice a bs0.length cap, undef, .bool false, y3, y4, y5, undef, undef, undef, undef, undef, undef, y12, y13, y14, y15, y16, y17, y18, y19, y20, y21, y22, y23, y24, y25, y26, y27, y28, y29, y30, y31, y32, y33, y34, y35, y36, y37, y38, y39, y40, y41, y42, y43, y44, y45, y46, y47, y48, y49, y50, y51, y52, y53, y54, y55, y56, y57, y58, y59, y60, y61, y62, y63, y64, y65, y66, y67, y68, y69, y70, y71, y72, y73, y74, y75, undef, undef, undef, undef, undef, undef, undef, undef, undef, undef, undef, undef, undef, undef, undef, undef, undef, undef, undef, undef, undef, undef, undef, undef, undef, undef, undef, undef, undef, undef, undef, undef, undef, undef, undef, undef, undef, undef, undef, undef, undef, undef, undef, undef, undef, undef, undef, undef, undef, undef, undef, undef, undef, undef, undef, undef, undef, undef, undef, undef, undef, undef, undef, undef, undef, undef, undef, undef, undef, undef, undef, undef, undef, undef, undef, undef, undef, undef, undef, undef, undef, undef, undef, undef, undef, undef, undef, undef, undef, undef, undef], defers := [] } ∧ Below w.heap.size w W) → K1 f W) := by
    rintro f W ⟨y3, y4, y5, y12, y13, y14, y15, y16, y17, y18, y19, y20, y21, y22, y23, y24, y25, y26, y27, y28, y29, y30, y31, y32, y33, y34, y35, y36, y37, y38, y39, y40, y41, y42, y43, y44, y45, y46, y47, y48, y49, y50, y51, y52, y53, y54, y55, y56, y57, y58, y59, y60, y61, y62, y63, y64, y65, y66, y67, y68, y69, y70, y71, y72, y73, y74, y75, rfl, BW⟩
    refine h1 _ _ ?_
    clear h1 h2 K1 K2 X Nr Kr HRE HRL HD HUr HVW
    go_wp2_with fail
    refine (drawHF_c _ _ bs0 W (HR0.out W BW)).mono ?_
    rintro e u1 ⟨eg, mg, usg, vsg, rfl, rg, rm, hb1⟩
    replace BW := Below.step BW hb1
    clear hb1
    obtain ⟨pg1, qg1, pg2, qg2, pg3, qg3, pg4, qg4, pg5, qg5, pg6, qg6, pg7, qg7, pg8, qg8, rfl, -, -, -, -, -, -, -, -⟩ := end_rep rg
    obtain ⟨pmg, qmg, rfl, -⟩ := msg_rep rm
    have Z6 := (Arr.new u1 [.int .i64 0, .slice none 0 0, .int .i64 0, .slice none 0 0, .int .i64 0, .int .i64 0, .slice none 0 0, .slice none 0 0, .slice none 0 0, .slice none 0 0, .slice none 0 0, .slice none 0 0] 32).old _ (.cells #[.int .i64 0, .slice none 0 0] 46)
    have Z7 := Arr.new (u1.alloc (.cells #[.int .i64 0, .slice none 0 0, .int .i64 0, .slice none 0 0, .int .i64 0, .int .i64 0, .slice none 0 0, .slice none 0 0, .slice none 0 0, .slice none 0 0, .slice none 0 0, .slice none 0 0] 32)) [.int .i64 0, .slice none 0 0] 46
    rw [size_alloc] at Z7
    have Z7' := Z7.rowOther (k := u1.heap.size) (by omega) #[.int .i64 eg.1.1, .slice pg1 eg.1.2.1.length qg1, .int .i64 eg.1.2.2.1, .slice pg2 eg.1.2.2.2.length qg2, .int .i64 eg.2.1, .int .i64 eg.2.2.1, .slice pg3 eg.2.2.2.1.length qg3, .slice pg4 eg.2.2.2.2.1.length qg4, .slice pg5 eg.2.2.2.2.2.1.length qg5, .slice pg6 eg.2.2.2.2.2.2.1.length qg6, .slice pg7 eg.2.2.2.2.2.2.2.1.length qg7, .slice pg8 eg.2.2.2.2.2.2.2.2.length qg8]
    have Xga := (Z6.row [.int .i64 eg.1.1, .slice pg1 eg.1.2.1.length qg1, .int .i64 eg.1.2.2.1, .slice pg2 eg.1.2.2.2.length qg2, .int .i64 eg.2.1, .int .i64 eg.2.2.1, .slice pg3 eg.2.2.2.1.length qg3, .slice pg4 eg.2.2.2.2.1.length qg4, .slice pg5 eg.2.2.2.2.2.1.length qg5, .slice pg6 eg.2.2.2.2.2.2.1.length qg6, .slice pg7 eg.2.2.2.2.2.2.2.1.length qg7, .slice pg8 eg.2.2.2.2.2.2.2.2.length qg8]).rowOther (k := u1.heap.size + 1) (by omega) #[.int .i64 mg.1, .slice pmg mg.2.length qmg]
    have Xgb := Z7'.row [.int .i64 mg.1, .slice pmg mg.2.length qmg]
    have hb2 : Below u1.heap.size u1 ((((u1.alloc (.cells #[.int .i64 0, .slice none 0 0, .int .i64 0, .slice none 0 0, .int .i64 0, .int .i64 0, .slice none 0 0, .slice none 0 0, .slice none 0 0, .slice none 0 0, .slice none 0 0, .slice none 0 0] 32)).alloc (.cells #[.int .i64 0, .slice none 0 0] 46)).setRow u1.heap.size #[.int .i64 eg.1.1, .slice pg1 eg.1.2.1.length qg1, .int .i64 eg.1.2.2.1, .slice pg2 eg.1.2.2.2.length qg2, .int .i64 eg.2.1, .int .i64 eg.2.2.1, .slice pg3 eg.2.2.2.1.length qg3, .slice pg4 eg.2.2.2.2.1.length qg4, .slice pg5 eg.2.2.2.2.2.1.length qg5, .slice pg6 eg.2.2.2.2.2.2.1.length qg6, .slice pg7 eg.2.2.2.2.2.2.2.1.length qg7, .slice pg8 eg.2.2.2.2.2.2.2.2.length qg8]).setRow (u1.heap.size + 1) #[.int .i64 mg.1, .slice pmg mg.2.length qmg]) := Below.row (Below.row (Below.mk (alloc_below u1 _) _) (Nat.le_refl _) _) (by omega) _
    have hra : Hid ((Tryz.prog.info? 32).map (·.size) = some 12) := by show _ = _; kernel_rfl
    have hrb : Hid ((Tryz.prog.info? 46).map (·.size) = some 2) := by show _ = _; kernel_rfl
    clear Z7
    generalize e6 : ((((u1.alloc (.cells #[.int .i64 0, .slice none 0 0, .int .i64 0, .slice none 0 0, .int .i64 0, .int .i64 0, .slice none 0 0, .slice none 0 0, .slice none 0 0, .slice none 0 0, .slice none 0 0, .slice none 0 0] 32)).alloc (.cells #[.int .i64 0, .slice none 0 0] 46)).setRow u1.heap.size #[.int .i64 eg.1.1, .slice pg1 eg.1.2.1.length qg1, .int .i64 eg.1.2.2.1, .slice pg2 eg.1.2.2.2.length qg2, .int .i64 eg.2.1, .int .i64 eg.2.2.1, .slice pg3 eg.2.2.2.1.length qg3, .slice pg4 eg.2.2.2.2.1.length qg4, .slice pg5 eg.2.2.2.2.2.1.length qg5, .slice pg6 eg.2.2.2.2.2.2.1.length qg6, .slice pg7 eg.2.2.2.2.2.2.2.1.length qg7, .slice pg8 eg.2.2.2.2.2.2.2.2.length qg8]).setRow (u1.heap.size + 1) #[.int .i64 mg.1, .slice pmg mg.2.length qmg]) = U2 at *
    replace rg := endC.keep rg hb2
    replace rm := msgC.keep rm hb2
    replace BW := Below.step BW hb2
    clear hb2
    have x0 := (Xga.cell 0).trans (show _ = some _ from rfl)
    have x1 := (Xga.cell 1).trans (show _ = some _ from rfl)
    have x2 := (Xga.cell 2).trans (show _ = some _ from rfl)
    have x3 := (Xga.cell 3).trans (show _ = some _ from rfl)
    have x4 := (Xga.cell 4).trans (show _ = some _ from rfl)
    have x5 := (Xga.cell 5).trans (show _ = some _ from rfl)
    have x6 := (Xga.cell 6).trans (show _ = some _ from rfl)
    have x7 := (Xga.cell 7).trans (show _ = some _ from rfl)
    have x8 := (Xga.cell 8).trans (show _ = some _ from rfl)
    have x9 := (Xga.cell 9).trans (show _ = some _ from rfl)
    have x10 := (Xga.cell 10).trans (show _ = some _ from rfl)
    have x11 := (Xga.cell 11).trans (show _ = some _ from rfl)
    have m0 := (Xgb.cell 0).trans (show _ = some _ from rfl)
    have m1 := (Xgb.cell 1).trans (show _ = some _ from rfl)
    obtain ⟨Q, HQ⟩ : ∃ Q, Hid (Q = hnE eg mg) := ⟨_, rfl⟩
    have KQ := implHn_k eg mg _ _ U2 rg rm (HT0.out _ BW)
    rw [← HQ.out] at KQ
    go_wp2_with (first | refine wpList_store_row rfl 32 _ _ rfl u1.heap.size #[.int .i64 eg.1.1, .slice pg1 eg.1.2.1.length qg1, .int .i64 eg.1.2.2.1, .slice pg2 eg.1.2.2.2.length qg2, .int .i64 eg.2.1, .int .i64 eg.2.2.1, .slice pg3 eg.2.2.2.1.length qg3, .slice pg4 eg.2.2.2.2.1.length qg4, .slice pg5 eg.2.2.2.2.2.1.length qg5, .slice pg6 eg.2.2.2.2.2.2.1.length qg6, .slice pg7 eg.2.2.2.2.2.2.2.1.length qg7, .slice pg8 eg.2.2.2.2.2.2.2.2.length qg8] rfl rfl 32 #[.int .i64 0, .slice none 0 0, .int .i64 0, .slice none 0 0, .int .i64 0, .int .i64 0, .slice none 0 0, .slice none 0 0, .slice none 0 0, .slice none 0 0, .slice none 0 0, .slice none 0 0] Z6 hra.out rfl (by simp [Value.oneCell']) ?_ | (refine wpList_store_row rfl 46 _ _ rfl (u1.heap.size + 1) #[.int .i64 mg.1, .slice pmg mg.2.length qmg] rfl rfl 46 #[.int .i64 0, .slice none 0 0] Z7' hrb.out rfl (by simp [Value.oneCell']) ?_; rw [e6]))
    clear Z6 Z7' e6 hra hrb x0 x1 x2 x3 x4 x5 x6 x7 x8 x9 x10 x11 m0 m1
    refine KQ.mono ?_
    rintro e u3 ⟨usq, fq, rfl, Kq, hb3⟩
    have hus : usq.length = 14 := endResultC.len (endResultC.toRep Kq)
    have hone := endResultC.one (endResultC.toRep Kq)
    obtain ⟨pq1, qq1, pq2, qq2, pq3, qq3, pq4, qq4, pq5, qq5, pq6, qq6, pq7, qq7, pq8, qq8, pqs, qqs, eU, -, -, -, -, -, -, -, -, -⟩ := endResult_rep (endResultC.toRep Kq)
    have HUq : Hid (usq = [.int .i64 Q.1, .int .i64 Q.2.1.1.1, .slice pq1 Q.2.1.1.2.1.length qq1, .int .i64 Q.2.1.1.2.2.1, .slice pq2 Q.2.1.1.2.2.2.length qq2, .int .i64 Q.2.1.2.1, .int .i64 Q.2.1.2.2.1, .slice pq3 Q.2.1.2.2.2.1.length qq3, .slice pq4 Q.2.1.2.2.2.2.1.length qq4, .slice pq5 Q.2.1.2.2.2.2.2.1.length qq5, .slice pq6 Q.2.1.2.2.2.2.2.2.1.length qq6, .slice pq7 Q.2.1.2.2.2.2.2.2.2.1.length qq7, .slice pq8 Q.2.1.2.2.2.2.2.2.2.2.length qq8, .slice pqs Q.2.2.length qqs]) := eU
    clear eU
    have AZ := Arr.new u3 [.int .i64 0, .int .i64 0, .slice none 0 0, .int .i64 0, .slice none 0 0, .int .i64 0, .int .i64 0, .slice none 0 0, .slice none 0 0, .slice none 0 0, .slice none 0 0, .slice none 0 0, .slice none 0 0, .slice none 0 0] 43
    have Nq := AZ.row usq
    have hbn : Below u3.heap.size u3 ((u3.alloc (.cells #[.int .i64 0, .int .i64 0, .slice none 0 0, .int .i64 0, .slice none 0 0, .int .i64 0, .int .i64 0, .slice none 0 0, .slice none 0 0, .slice none 0 0, .slice none 0 0, .slice none 0 0, .slice none 0 0, .slice none 0 0] 43)).setRow u3.heap.size usq.toArray) := Below.row (alloc_below _ _) (Nat.le_refl _) _
    have HGq : Hid (∀ k, k ∈ fq → k ≠ u3.heap.size) := fun k hk e => by have := (endResultC.ins Kq k hk).2; omega
    replace Kq := endResultC.row (endResultC.stay Kq (alloc_below u3 (.cells #[.int .i64 0, .int .i64 0, .slice none 0 0, .int .i64 0, .slice none 0 0, .int .i64 0, .int .i64 0, .slice none 0 0, .slice none 0 0, .slice none 0 0, .slice none 0 0, .slice none 0 0, .slice none 0 0, .slice none 0 0] 43))) HGq.out usq.toArray
    have hres : Hid ((Tryz.prog.info? 43).map (·.size) = some usq.toArray.size) := by show _ = _; rw [List.size_toArray, hus]; kernel_rfl
    have H14 : Hid (usq.length = 14) := hus
    clear hus
    replace BW := Below.step (Below.step BW hb3) hbn
    replace Xga := (Xga.stay hb3).stay hbn
    replace Xgb := (Xgb.stay hb3).stay hbn
    replace rg := endC.keep rg (Below.step hb3 hbn)
    replace rm := msgC.keep rm (Below.step hb3 hbn)
    clear hb3 hbn
    go_wp2_with (refine wpList_store_row rfl 43 _ _ rfl u3.heap.size usq.toArray rfl rfl 43 #[.int .i64 0, .int .i64 0, .slice none 0 0, .int .i64 0, .slice none 0 0, .int .i64 0, .int .i64 0, .slice none 0 0, .slice none 0 0, .slice none 0 0, .slice none 0 0, .slice none 0 0, .slice none 0 0, .slice none 0 0] AZ hres.out (by have h := H14.out; simp [h]) (by simpa using hone) ?_)
    generalize (u3.alloc (.cells #[.int .i64 0, .int .i64 0, .slice none 0 0, .int .i64 0, .slice none 0 0, .int .i64 0, .int .i64 0, .slice none 0 0, .slice none 0 0, .slice none 0 0, .slice none 0 0, .slice none 0 0, .slice none 0 0, .slice none 0 0] 43)).setRow u3.heap.size usq.toArray = U4 at *
    clear AZ hres H14 hone
    clear KQ
    have HRG : Hid (endC.rep U4 eg _) := rg
    have KSQ : Hid (∀ W, Below U4.heap.size U4 W → Calls Tryz.prog 19 #[.agg #[.int .i64 eg.1.1, .slice pg1 eg.1.2.1.length qg1, .int .i64 eg.1.2.2.1, .slice pg2 eg.1.2.2.2.length qg2, .int .i64 eg.2.1, .int .i64 eg.2.2.1, .slice pg3 eg.2.2.2.1.length qg3, .slice pg4 eg.2.2.2.2.1.length qg4, .slice pg5 eg.2.2.2.2.2.1.length qg5, .slice pg6 eg.2.2.2.2.2.2.1.length qg6, .slice pg7 eg.2.2.2.2.2.2.2.1.length qg7, .slice pg8 eg.2.2.2.2.2.2.2.2.length qg8], .agg #[.int .i64 mg.1, .slice pmg mg.2.length qmg]] W fun e w' => ∃ us fp, e = .returned (.agg us.toArray) ∧ endResultC.own w' W.heap.size Q us fp ∧ Below W.heap.size W w') := fun W hb => by
      have h := specHn_k eg mg _ _ W (endC.keep rg hb) (msgC.keep rm hb)
      rw [← HQ.out] at h
      exact h
    clear rg rm
    go_simp
    have hne := HW.some U4
    have g0 := HW.at ((Xga.cell 0).trans (show _ = some _ from rfl))
    have g1 := HW.at ((Xga.cell 1).trans (show _ = some _ from rfl))
    have g2 := HW.at ((Xga.cell 2).trans (show _ = some _ from rfl))
    have g3 := HW.at ((Xga.cell 3).trans (show _ = some _ from rfl))
    have g4 := HW.at ((Xga.cell 4).trans (show _ = some _ from rfl))
    have g5 := HW.at ((Xga.cell 5).trans (show _ = some _ from rfl))
    have g6 := HW.at ((Xga.cell 6).trans (show _ = some _ from rfl))
    have g7 := HW.at ((Xga.cell 7).trans (show _ = some _ from rfl))
    have g8 := HW.at ((Xga.cell 8).trans (show _ = some _ from rfl))
    have g9 := HW.at ((Xga.cell 9).trans (show _ = some _ from rfl))
    have g10 := HW.at ((Xga.cell 10).trans (show _ = some _ from rfl))
    have g11 := HW.at ((Xga.cell 11).trans (show _ = some _ from rfl))
    have h0 := HW.at ((Xgb.cell 0).trans (show _ = some _ from rfl))
    have h1 := HW.at ((Xgb.cell 1).trans (show _ = some _ from rfl))
    have n0 := HW.at ((Nq.cell 0).trans (show _ = some (.int .i64 Q.1) by rw [HUq.out]; rfl))
    have BV := Below.refl U4.heap.size U4
    have dE : (Q.1 != Q.1) = false := by simp
    refine wp_region_pick [0, 1, 2, 3] 6 2 1 rfl rfl rfl (by as_aux_lemma => kernel_rfl) (by as_aux_lemma => kernel_rfl) (by as_aux_lemma => kernel_rfl) (by as_aux_lemma => kernel_rfl) ?_
    simp only [opsAt, List.getElem?_toArray, List.getElem?_cons_zero, List.getElem?_cons_succ]
    repeat (go_big_quiet_step (fail))
    refine wpQuiet_nil ?_
    clear g0 g1 g2 g3 g4 g5 g6 g7 g8 g9 g10 g11 h0 h1 n0
    refine wpM_only (i := 4) (by as_aux_lemma => kernel_rfl) ?_
    refine mOp_call rfl (by go_simp) 19 _ #[.agg #[.int .i64 eg.1.1, .slice pg1 eg.1.2.1.length qg1, .int .i64 eg.1.2.2.1, .slice pg2 eg.1.2.2.2.length qg2, .int .i64 eg.2.1, .int .i64 eg.2.2.1, .slice pg3 eg.2.2.2.1.length qg3, .slice pg4 eg.2.2.2.2.1.length qg4, .slice pg5 eg.2.2.2.2.2.1.length qg5, .slice pg6 eg.2.2.2.2.2.2.1.length qg6, .slice pg7 eg.2.2.2.2.2.2.2.1.length qg7, .slice pg8 eg.2.2.2.2.2.2.2.2.length qg8], .agg #[.int .i64 mg.1, .slice pmg mg.2.length qmg]] (fun w => by go_simp) rfl ?_
    rintro _ ⟨sg, rfl⟩
    refine (KSQ.out _ (Below.step BV sg.h)).mono ?_
    rintro e wg0 ⟨uss, fps, rfl, Ks, hbx⟩
    have hf : ∀ w, (Instr.field 43 (.agg uss.toArray) 0).run Tryz.prog w = .ok (.int .i64 Q.1) w := by
      obtain ⟨pz1, qz1, pz2, qz2, pz3, qz3, pz4, qz4, pz5, qz5, pz6, qz6, pz7, qz7, pz8, qz8, pzs, qzs, eu, -, -, -, -, -, -, -, -, -⟩ := endResult_rep (endResultC.toRep Ks)
      subst eu
      exact fun w => endR_f0 Q.1 (.int .i64 Q.2.1.1.1) (.slice pz1 Q.2.1.1.2.1.length qz1) (.int .i64 Q.2.1.1.2.2.1) (.slice pz2 Q.2.1.1.2.2.2.length qz2) (.int .i64 Q.2.1.2.1) (.int .i64 Q.2.1.2.2.1) (.slice pz3 Q.2.1.2.2.2.1.length qz3) (.slice pz4 Q.2.1.2.2.2.2.1.length qz4) (.slice pz5 Q.2.1.2.2.2.2.2.1.length qz5) (.slice pz6 Q.2.1.2.2.2.2.2.2.1.length qz6) (.slice pz7 Q.2.1.2.2.2.2.2.2.2.1.length qz7) (.slice pz8 Q.2.1.2.2.2.2.2.2.2.2.length qz8) (.slice pzs Q.2.2.length qzs) w
    have hbg := Below.step sg.h hbx
    refine ⟨_, rfl, ⟨⟨wg0, hbx⟩, rfl⟩, ?_⟩
    have I0 : Hid (∀ k, k ∈ fps → U4.heap.size ≤ k ∧ k < wg0.heap.size) := fun k hk => ⟨Nat.le_trans sg.h.size (endResultC.ins Ks k hk).1, (endResultC.ins Ks k hk).2⟩
    have T0 : Hid (U4.heap.size ≤ wg0.heap.size) := Nat.le_trans sg.h.size hbx.size
    replace Ks := endResultC.low Ks (Below.step BV sg.h).size
    replace BV := Below.step BV hbg
    replace hne := HW.some wg0
    clear hbg hbx sg
    refine wpM_more [5] 1 0 rfl (by as_aux_lemma => kernel_rfl) (by as_aux_lemma => kernel_rfl) (by as_aux_lemma => kernel_rfl) (by as_aux_lemma => kernel_rfl) ?_
    simp only [opsAt, List.getElem?_toArray, List.getElem?_cons_zero, List.getElem?_cons_succ]
    go_simp
    repeat (go_big_quiet_step (fail))
    refine wpQuiet_nil ?_
    refine wpM_end (by as_aux_lemma => kernel_rfl) rfl (by as_aux_lemma => kernel_rfl) (by decide) ?_
    rintro _ ⟨sgz, rfl⟩
    simp only [List.drop_succ_cons, List.drop_zero]
    go_simp
    replace Ks := endResultC.stay Ks sgz.h
    replace BV := Below.step BV sgz.h
    clear hne
    generalize sgz.w = U4x at *
    clear sgz
    replace Xga := Xga.stay BV
    replace Nq := Nq.stay BV
    replace Kq := endResultC.stay Kq BV
    replace BW := Below.step BW BV
    replace HRG : Hid (endC.rep U4x eg _) := endC.keep HRG.out BV
    clear BV Ks I0 T0 hf KSQ HGq Xgb
    go_wp2_with fail
    refine (drawHC_c _ _ bs0 _ (HR0.out _ BW)).mono ?_
    rintro e t1 ⟨sh, mh, uth, vth, rfl, rs, rm, hb1⟩
    replace BW := Below.step BW hb1
    replace Xga := Xga.stay hb1
    replace Nq := Nq.stay hb1
    replace Kq := endResultC.stay Kq hb1
    replace HRG : Hid (endC.rep t1 eg _) := endC.keep HRG.out hb1
    clear hb1
    obtain ⟨pt1, qt1, pt2, qt2, rfl, -, -⟩ := side_rep rs
    obtain ⟨pmh, qmh, rfl, -⟩ := msg_rep rm
    have Z6 := (Arr.new t1 [.int .i64 0, .slice none 0 0, .int .i64 0, .slice none 0 0] 25).old _ (.cells #[.int .i64 0, .slice none 0 0] 46)
    have Z7 := Arr.new (t1.alloc (.cells #[.int .i64 0, .slice none 0 0, .int .i64 0, .slice none 0 0] 25)) [.int .i64 0, .slice none 0 0] 46
    rw [size_alloc] at Z7
    have Z7' := Z7.rowOther (k := t1.heap.size) (by omega) #[.int .i64 sh.1, .slice pt1 sh.2.1.length qt1, .int .i64 sh.2.2.1, .slice pt2 sh.2.2.2.length qt2]
    have Xta := (Z6.row [.int .i64 sh.1, .slice pt1 sh.2.1.length qt1, .int .i64 sh.2.2.1, .slice pt2 sh.2.2.2.length qt2]).rowOther (k := t1.heap.size + 1) (by omega) #[.int .i64 mh.1, .slice pmh mh.2.length qmh]
    have Xtb := Z7'.row [.int .i64 mh.1, .slice pmh mh.2.length qmh]
    have hb2 : Below t1.heap.size t1 ((((t1.alloc (.cells #[.int .i64 0, .slice none 0 0, .int .i64 0, .slice none 0 0] 25)).alloc (.cells #[.int .i64 0, .slice none 0 0] 46)).setRow t1.heap.size #[.int .i64 sh.1, .slice pt1 sh.2.1.length qt1, .int .i64 sh.2.2.1, .slice pt2 sh.2.2.2.length qt2]).setRow (t1.heap.size + 1) #[.int .i64 mh.1, .slice pmh mh.2.length qmh]) := Below.row (Below.row (Below.mk (alloc_below t1 _) _) (Nat.le_refl _) _) (by omega) _
    have hra : Hid ((Tryz.prog.info? 25).map (·.size) = some 4) := by show _ = _; kernel_rfl
    have hrb : Hid ((Tryz.prog.info? 46).map (·.size) = some 2) := by show _ = _; kernel_rfl
    clear Z7
    generalize e6 : ((((t1.alloc (.cells #[.int .i64 0, .slice none 0 0, .int .i64 0, .slice none 0 0] 25)).alloc (.cells #[.int .i64 0, .slice none 0 0] 46)).setRow t1.heap.size #[.int .i64 sh.1, .slice pt1 sh.2.1.length qt1, .int .i64 sh.2.2.1, .slice pt2 sh.2.2.2.length qt2]).setRow (t1.heap.size + 1) #[.int .i64 mh.1, .slice pmh mh.2.length qmh]) = T2 at *
    replace rs := sideC.keep rs hb2
    replace rm := msgC.keep rm hb2
    replace BW := Below.step BW hb2
    replace Xga := Xga.stay hb2
    replace Nq := Nq.stay hb2
    replace Kq := endResultC.stay Kq hb2
    replace HRG : Hid (endC.rep T2 eg _) := endC.keep HRG.out hb2
    clear hb2
    have x0 := (Xta.cell 0).trans (show _ = some _ from rfl)
    have x1 := (Xta.cell 1).trans (show _ = some _ from rfl)
    have x2 := (Xta.cell 2).trans (show _ = some _ from rfl)
    have x3 := (Xta.cell 3).trans (show _ = some _ from rfl)
    have m0 := (Xtb.cell 0).trans (show _ = some _ from rfl)
    have m1 := (Xtb.cell 1).trans (show _ = some _ from rfl)
    obtain ⟨H, HH⟩ : ∃ H, Hid (H = hcE sh mh) := ⟨_, rfl⟩
    have KH := implHc_k sh mh _ _ T2 rs rm (HT0.out _ BW)
    rw [← HH.out] at KH
    go_wp2_with (first | refine wpList_store_row rfl 25 _ _ rfl t1.heap.size #[.int .i64 sh.1, .slice pt1 sh.2.1.length qt1, .int .i64 sh.2.2.1, .slice pt2 sh.2.2.2.length qt2] rfl rfl 25 #[.int .i64 0, .slice none 0 0, .int .i64 0, .slice none 0 0] Z6 hra.out rfl (by simp [Value.oneCell']) ?_ | (refine wpList_store_row rfl 46 _ _ rfl (t1.heap.size + 1) #[.int .i64 mh.1, .slice pmh mh.2.length qmh] rfl rfl 46 #[.int .i64 0, .slice none 0 0] Z7' hrb.out rfl (by simp [Value.oneCell']) ?_; rw [e6]))
    clear Z6 Z7' e6 hra hrb x0 x1 x2 x3 m0 m1
    refine KH.mono ?_
    rintro e t3 ⟨ush, fh, rfl, Kh, hb3⟩
    have hus : ush.length = 14 := endResultC.len (endResultC.toRep Kh)
    have hone := endResultC.one (endResultC.toRep Kh)
    obtain ⟨ph1, qh1, ph2, qh2, ph3, qh3, ph4, qh4, ph5, qh5, ph6, qh6, ph7, qh7, ph8, qh8, phs, qhs, eU, -, -, -, -, -, -, -, -, -⟩ := endResult_rep (endResultC.toRep Kh)
    have HUh : Hid (ush = [.int .i64 H.1, .int .i64 H.2.1.1.1, .slice ph1 H.2.1.1.2.1.length qh1, .int .i64 H.2.1.1.2.2.1, .slice ph2 H.2.1.1.2.2.2.length qh2, .int .i64 H.2.1.2.1, .int .i64 H.2.1.2.2.1, .slice ph3 H.2.1.2.2.2.1.length qh3, .slice ph4 H.2.1.2.2.2.2.1.length qh4, .slice ph5 H.2.1.2.2.2.2.2.1.length qh5, .slice ph6 H.2.1.2.2.2.2.2.2.1.length qh6, .slice ph7 H.2.1.2.2.2.2.2.2.2.1.length qh7, .slice ph8 H.2.1.2.2.2.2.2.2.2.2.length qh8, .slice phs H.2.2.length qhs]) := eU
    clear eU
    have AZ := Arr.new t3 [.int .i64 0, .int .i64 0, .slice none 0 0, .int .i64 0, .slice none 0 0, .int .i64 0, .int .i64 0, .slice none 0 0, .slice none 0 0, .slice none 0 0, .slice none 0 0, .slice none 0 0, .slice none 0 0, .slice none 0 0] 43
    have Nh := AZ.row ush
    have hbn : Below t3.heap.size t3 ((t3.alloc (.cells #[.int .i64 0, .int .i64 0, .slice none 0 0, .int .i64 0, .slice none 0 0, .int .i64 0, .int .i64 0, .slice none 0 0, .slice none 0 0, .slice none 0 0, .slice none 0 0, .slice none 0 0, .slice none 0 0, .slice none 0 0] 43)).setRow t3.heap.size ush.toArray) := Below.row (alloc_below _ _) (Nat.le_refl _) _
    have HGh : Hid (∀ k, k ∈ fh → k ≠ t3.heap.size) := fun k hk e => by have := (endResultC.ins Kh k hk).2; omega
    replace Kh := endResultC.row (endResultC.stay Kh (alloc_below t3 (.cells #[.int .i64 0, .int .i64 0, .slice none 0 0, .int .i64 0, .slice none 0 0, .int .i64 0, .int .i64 0, .slice none 0 0, .slice none 0 0, .slice none 0 0, .slice none 0 0, .slice none 0 0, .slice none 0 0, .slice none 0 0] 43))) HGh.out ush.toArray
    have hres : Hid ((Tryz.prog.info? 43).map (·.size) = some ush.toArray.size) := by show _ = _; rw [List.size_toArray, hus]; kernel_rfl
    have H14 : Hid (ush.length = 14) := hus
    clear hus
    replace BW := Below.step (Below.step BW hb3) hbn
    replace Xta := (Xta.stay hb3).stay hbn
    replace Xtb := (Xtb.stay hb3).stay hbn
    replace Xga := (Xga.stay hb3).stay hbn
    replace Nq := (Nq.stay hb3).stay hbn
    replace rs := sideC.keep rs (Below.step hb3 hbn)
    replace rm := msgC.keep rm (Below.step hb3 hbn)
    replace Kq := endResultC.stay (endResultC.stay Kq hb3) hbn
    have HRG4 := endC.keep HRG.out (Below.step hb3 hbn)
    clear hb3 hbn
    go_wp2_with (refine wpList_store_row rfl 43 _ _ rfl t3.heap.size ush.toArray rfl rfl 43 #[.int .i64 0, .int .i64 0, .slice none 0 0, .int .i64 0, .slice none 0 0, .int .i64 0, .int .i64 0, .slice none 0 0, .slice none 0 0, .slice none 0 0, .slice none 0 0, .slice none 0 0, .slice none 0 0, .slice none 0 0] AZ hres.out (by have h := H14.out; simp [h]) (by simpa using hone) ?_)
    generalize (t3.alloc (.cells #[.int .i64 0, .int .i64 0, .slice none 0 0, .int .i64 0, .slice none 0 0, .int .i64 0, .int .i64 0, .slice none 0 0, .slice none 0 0, .slice none 0 0, .slice none 0 0, .slice none 0 0, .slice none 0 0, .slice none 0 0] 43)).setRow t3.heap.size ush.toArray = T4 at *
    clear AZ hres H14 hone
    have HRG : Hid (endC.rep T4 eg _) := HRG4
    clear HRG4 KH
    have KSH : Hid (∀ W, Below T4.heap.size T4 W → Calls Tryz.prog 22 #[.agg #[.int .i64 sh.1, .slice pt1 sh.2.1.length qt1, .int .i64 sh.2.2.1, .slice pt2 sh.2.2.2.length qt2], .agg #[.int .i64 mh.1, .slice pmh mh.2.length qmh]] W fun e w' => ∃ us fp, e = .returned (.agg us.toArray) ∧ endResultC.own w' W.heap.size H us fp ∧ Below W.heap.size W w') := fun W hb => by
      have h := specHc_k sh mh _ _ W (sideC.keep rs hb) (msgC.keep rm hb)
      rw [← HH.out] at h
      exact h
    clear rs rm HR0 HT0
    go_simp
    try simp only [List.append_eq, List.cons_append, List.nil_append]
    by_cases hQ0 : Q.1 = 0
    · by_cases hH0 : H.1 = 0
      · as_aux_lemma =>
          obtain ⟨ga, gb, gc, -, -, -, -, -, hq6⟩ := hnE_zero (e := eg) (m := mg) (by rw [← HQ.out]; exact hQ0)
          have hq7 := hnE_end (e := eg) (m := mg) (by rw [← HQ.out]; exact hQ0)
          rw [← HQ.out] at hq6 hq7
          rw [hq6] at hq7
          have HEQ : Hid (efC (doneE eg.1 eg.2.2.1 eg.2.2.2.2.1 [ga, gb, gc, mg]) = 0) := hq7
          clear hq7 hQ0
          obtain ⟨sq, HSQ⟩ : ∃ sq, Hid (sq = secsN eg.2.2.2.2.1 (digM ([ga, gb, gc, mg].take 3))) := ⟨_, rfl⟩
          have HUq2 : Hid (usq = [.int .i64 0, .int .i64 eg.1.1, .slice pq1 eg.1.2.1.length qq1, .int .i64 eg.1.2.2.1, .slice pq2 eg.1.2.2.2.length qq2, .int .i64 3, .int .i64 eg.2.2.1, .slice pq3 4 qq3, .slice pq4 eg.2.2.2.2.1.length qq4, .slice pq5 sq.1.length qq5, .slice pq6 sq.2.1.length qq6, .slice pq7 sq.2.2.1.length qq7, .slice pq8 sq.2.2.2.length qq8, .slice pqs 0 qqs]) := by show _ = _; rw [HUq.out, hq6, HSQ.out]; rfl
          have kq := Kq
          rw [HUq2.out, hq6] at kq
          obtain ⟨fe, fd, ke, -, -, -⟩ := endR_parts2 (r := (0, (doneE eg.1 eg.2.2.1 eg.2.2.2.2.1 [ga, gb, gc, mg]), [])) (us := [.int .i64 eg.1.1, .slice pq1 eg.1.2.1.length qq1, .int .i64 eg.1.2.2.1, .slice pq2 eg.1.2.2.2.length qq2, .int .i64 3, .int .i64 eg.2.2.1, .slice pq3 4 qq3, .slice pq4 eg.2.2.2.2.1.length qq4, .slice pq5 sq.1.length qq5, .slice pq6 sq.2.1.length qq6, .slice pq7 sq.2.2.1.length qq7, .slice pq8 sq.2.2.2.length qq8]) kq rfl
          have HRQ : Hid (endC.rep T4 (doneE eg.1 eg.2.2.1 eg.2.2.2.2.1 [ga, gb, gc, mg]) [.int .i64 eg.1.1, .slice pq1 eg.1.2.1.length qq1, .int .i64 eg.1.2.2.1, .slice pq2 eg.1.2.2.2.length qq2, .int .i64 3, .int .i64 eg.2.2.1, .slice pq3 4 qq3, .slice pq4 eg.2.2.2.2.1.length qq4, .slice pq5 sq.1.length qq5, .slice pq6 sq.2.1.length qq6, .slice pq7 sq.2.2.1.length qq7, .slice pq8 sq.2.2.2.length qq8]) := endC.toRep ke
          obtain ⟨-, -, -, rb4, -, -, -, -⟩ := end_unmk (e := (eg.1, 3, eg.2.2.1, [ga, gb, gc, mg], eg.2.2.2.2.1, sq)) (by have h := HRQ.out; rw [HSQ.out]; rw [HSQ.out] at h; exact h)
          obtain ⟨-, -, -, rg4, -, -, -, -⟩ := end_unmk HRG.out
          have KE2 : Hid (∀ W, Below T4.heap.size T4 W → Calls Tryz.prog 13 #[.agg #[.int .i64 eg.1.1, .slice pq1 eg.1.2.1.length qq1, .int .i64 eg.1.2.2.1, .slice pq2 eg.1.2.2.2.length qq2, .int .i64 3, .int .i64 eg.2.2.1, .slice pq3 4 qq3, .slice pq4 eg.2.2.2.2.1.length qq4, .slice pq5 sq.1.length qq5, .slice pq6 sq.2.1.length qq6, .slice pq7 sq.2.2.1.length qq7, .slice pq8 sq.2.2.2.length qq8]] W fun e w' => e = .returned (.int .i64 0) ∧ Below W.heap.size W w') := fun W hb => by have h := implEf_k (doneE eg.1 eg.2.2.1 eg.2.2.2.2.1 [ga, gb, gc, mg]) _ W (endC.keep HRQ.out hb); rw [HEQ.out] at h; exact h
          have KL : Hid (∀ W, Below T4.heap.size T4 W → Calls Tryz.prog 11 #[.slice pq4 eg.2.2.2.2.1.length qq4, .slice pg4 eg.2.2.2.2.1.length qg4] W fun e w' => e = .returned (.bool true) ∧ Below W.heap.size W w') := fun W hb => (lwSame_c _ _ _ _ eg.2.2.2.2.1 eg.2.2.2.2.1 W (rb4.keep hb) (rg4.keep hb)).mono fun _ _ ⟨h1, h2⟩ => ⟨by rw [h1]; simp, by rw [h2]; exact Below.refl _ _⟩
          have n0 := HW.at ((Nq.cell 0).trans (show _ = some (.int .i64 0) by rw [HUq2.out]; rfl))
          have n1 := HW.at ((Nq.cell 1).trans (show _ = some (.int .i64 eg.1.1) by rw [HUq2.out]; rfl))
          have n2 := HW.at ((Nq.cell 2).trans (show _ = some (.slice pq1 eg.1.2.1.length qq1) by rw [HUq2.out]; rfl))
          have n3 := HW.at ((Nq.cell 3).trans (show _ = some (.int .i64 eg.1.2.2.1) by rw [HUq2.out]; rfl))
          have n4 := HW.at ((Nq.cell 4).trans (show _ = some (.slice pq2 eg.1.2.2.2.length qq2) by rw [HUq2.out]; rfl))
          have n5 := HW.at ((Nq.cell 5).trans (show _ = some (.int .i64 3) by rw [HUq2.out]; rfl))
          have n6 := HW.at ((Nq.cell 6).trans (show _ = some (.int .i64 eg.2.2.1) by rw [HUq2.out]; rfl))
          have n7 := HW.at ((Nq.cell 7).trans (show _ = some (.slice pq3 4 qq3) by rw [HUq2.out]; rfl))
          have n8 := HW.at ((Nq.cell 8).trans (show _ = some (.slice pq4 eg.2.2.2.2.1.length qq4) by rw [HUq2.out]; rfl))
          have n9 := HW.at ((Nq.cell 9).trans (show _ = some (.slice pq5 sq.1.length qq5) by rw [HUq2.out]; rfl))
          have n10 := HW.at ((Nq.cell 10).trans (show _ = some (.slice pq6 sq.2.1.length qq6) by rw [HUq2.out]; rfl))
          have n11 := HW.at ((Nq.cell 11).trans (show _ = some (.slice pq7 sq.2.2.1.length qq7) by rw [HUq2.out]; rfl))
          have n12 := HW.at ((Nq.cell 12).trans (show _ = some (.slice pq8 sq.2.2.2.length qq8) by rw [HUq2.out]; rfl))
          have n13 := HW.at ((Nq.cell 13).trans (show _ = some (.slice pqs 0 qqs) by rw [HUq2.out]; rfl))
          have g7 := HW.at ((Xga.cell 7).trans (show _ = some _ from rfl))
          clear kq ke rb4 rg4 hq6
          have hc0 : hcC sh mh = 0 := by rw [← hcE_code, ← HH.out]; exact hH0
          have hh7 := hcE_end hc0
          have hh6 := hcE_ok hc0
          rw [← HH.out] at hh6 hh7
          obtain ⟨mo, hel, fin, bas, hP⟩ : ∃ mo hel fin bas, H = (0, (sh, 2, mo, [mh, hel, fin], bas, zeroX), [hel, fin]) := ⟨_, _, _, _, hh6⟩
          rw [hP] at hh7
          have HEH : Hid (efC (sh, 2, mo, [mh, hel, fin], bas, zeroX) = 0) := hh7
          have HH1 : Hid (H.1 = 0) := hH0
          clear hh6 hh7 hc0 hH0
          have HUh2 : Hid (ush = [.int .i64 0, .int .i64 sh.1, .slice ph1 sh.2.1.length qh1, .int .i64 sh.2.2.1, .slice ph2 sh.2.2.2.length qh2, .int .i64 2, .int .i64 mo, .slice ph3 3 qh3, .slice ph4 bas.length qh4, .slice ph5 0 qh5, .slice ph6 0 qh6, .slice ph7 0 qh7, .slice ph8 0 qh8, .slice phs 2 qhs]) := by show _ = _; rw [HUh.out, hP]; rfl
          have kh := Kh
          rw [HUh2.out, hP] at kh
          obtain ⟨fe2, fd2, ke2, -, -, -⟩ := endR_parts2 (r := (0, (sh, 2, mo, [mh, hel, fin], bas, zeroX), [hel, fin])) (us := [.int .i64 sh.1, .slice ph1 sh.2.1.length qh1, .int .i64 sh.2.2.1, .slice ph2 sh.2.2.2.length qh2, .int .i64 2, .int .i64 mo, .slice ph3 3 qh3, .slice ph4 bas.length qh4, .slice ph5 0 qh5, .slice ph6 0 qh6, .slice ph7 0 qh7, .slice ph8 0 qh8]) kh rfl
          have HRH : Hid (endC.rep T4 (sh, 2, mo, [mh, hel, fin], bas, zeroX) [.int .i64 sh.1, .slice ph1 sh.2.1.length qh1, .int .i64 sh.2.2.1, .slice ph2 sh.2.2.2.length qh2, .int .i64 2, .int .i64 mo, .slice ph3 3 qh3, .slice ph4 bas.length qh4, .slice ph5 0 qh5, .slice ph6 0 qh6, .slice ph7 0 qh7, .slice ph8 0 qh8]) := endC.toRep ke2
          have KE3 : Hid (∀ W, Below T4.heap.size T4 W → Calls Tryz.prog 13 #[.agg #[.int .i64 sh.1, .slice ph1 sh.2.1.length qh1, .int .i64 sh.2.2.1, .slice ph2 sh.2.2.2.length qh2, .int .i64 2, .int .i64 mo, .slice ph3 3 qh3, .slice ph4 bas.length qh4, .slice ph5 0 qh5, .slice ph6 0 qh6, .slice ph7 0 qh7, .slice ph8 0 qh8]] W fun e w' => e = .returned (.int .i64 0) ∧ Below W.heap.size W w') := fun W hb => by have h := implEf_k (sh, 2, mo, [mh, hel, fin], bas, zeroX) _ W (endC.keep HRH.out hb); rw [HEH.out] at h; exact h
          have k0 := HW.at ((Nh.cell 0).trans (show _ = some (.int .i64 0) by rw [HUh2.out]; rfl))
          have k1 := HW.at ((Nh.cell 1).trans (show _ = some (.int .i64 sh.1) by rw [HUh2.out]; rfl))
          have k2 := HW.at ((Nh.cell 2).trans (show _ = some (.slice ph1 sh.2.1.length qh1) by rw [HUh2.out]; rfl))
          have k3 := HW.at ((Nh.cell 3).trans (show _ = some (.int .i64 sh.2.2.1) by rw [HUh2.out]; rfl))
          have k4 := HW.at ((Nh.cell 4).trans (show _ = some (.slice ph2 sh.2.2.2.length qh2) by rw [HUh2.out]; rfl))
          have k5 := HW.at ((Nh.cell 5).trans (show _ = some (.int .i64 2) by rw [HUh2.out]; rfl))
          have k6 := HW.at ((Nh.cell 6).trans (show _ = some (.int .i64 mo) by rw [HUh2.out]; rfl))
          have k7 := HW.at ((Nh.cell 7).trans (show _ = some (.slice ph3 3 qh3) by rw [HUh2.out]; rfl))
          have k8 := HW.at ((Nh.cell 8).trans (show _ = some (.slice ph4 bas.length qh4) by rw [HUh2.out]; rfl))
          have k9 := HW.at ((Nh.cell 9).trans (show _ = some (.slice ph5 0 qh5) by rw [HUh2.out]; rfl))
          have k10 := HW.at ((Nh.cell 10).trans (show _ = some (.slice ph6 0 qh6) by rw [HUh2.out]; rfl))
          have k11 := HW.at ((Nh.cell 11).trans (show _ = some (.slice ph7 0 qh7) by rw [HUh2.out]; rfl))
          have k12 := HW.at ((Nh.cell 12).trans (show _ = some (.slice ph8 0 qh8) by rw [HUh2.out]; rfl))
          have k13 := HW.at ((Nh.cell 13).trans (show _ = some (.slice phs 2 qhs) by rw [HUh2.out]; rfl))
          clear kh ke2 hP
          have t0 := HW.at ((Xta.cell 0).trans (show _ = some _ from rfl))
          have t1 := HW.at ((Xta.cell 1).trans (show _ = some _ from rfl))
          have t2 := HW.at ((Xta.cell 2).trans (show _ = some _ from rfl))
          have t3 := HW.at ((Xta.cell 3).trans (show _ = some _ from rfl))
          have u0 := HW.at ((Xtb.cell 0).trans (show _ = some _ from rfl))
          have u1 := HW.at ((Xtb.cell 1).trans (show _ = some _ from rfl))
          have hne := HW.some T4
          have BV := Below.refl T4.heap.size T4
          clear Xta Xtb Xga Nq Nh Kq Kh HRG
          refine wp_region_pick [0, 1, 2, 3] 68 64 1 rfl rfl rfl (by as_aux_lemma => kernel_rfl) (by as_aux_lemma => kernel_rfl) (by as_aux_lemma => kernel_rfl) (by as_aux_lemma => kernel_rfl) ?_
          simp only [opsAt, List.getElem?_toArray, List.getElem?_cons_zero, List.getElem?_cons_succ]
          repeat (go_big_quiet_step (fail))
          refine wpQuiet_nil ?_
          clear t0 t1 t2 t3 u0 u1
          refine wpM_only (i := 4) (by as_aux_lemma => kernel_rfl) ?_
          refine mOp_call rfl (by go_simp) 22 _ #[.agg #[.int .i64 sh.1, .slice pt1 sh.2.1.length qt1, .int .i64 sh.2.2.1, .slice pt2 sh.2.2.2.length qt2], .agg #[.int .i64 mh.1, .slice pmh mh.2.length qmh]] (fun w => by go_simp) rfl ?_
          rintro _ ⟨sg, rfl⟩
          refine (KSH.out _ (Below.step BV sg.h)).mono ?_
          rintro e wg ⟨uss, fps, rfl, Ks, hbx⟩
          have hf : ∀ w, (Instr.field 43 (.agg uss.toArray) 0).run Tryz.prog w = .ok (.int .i64 0) w := by
            obtain ⟨pz1, qz1, pz2, qz2, pz3, qz3, pz4, qz4, pz5, qz5, pz6, qz6, pz7, qz7, pz8, qz8, pzs, qzs, eu, -, -, -, -, -, -, -, -, -⟩ := endResult_rep (endResultC.toRep Ks)
            subst eu
            exact fun w => (endR_f0 H.1 (.int .i64 H.2.1.1.1) (.slice pz1 H.2.1.1.2.1.length qz1) (.int .i64 H.2.1.1.2.2.1) (.slice pz2 H.2.1.1.2.2.2.length qz2) (.int .i64 H.2.1.2.1) (.int .i64 H.2.1.2.2.1) (.slice pz3 H.2.1.2.2.2.1.length qz3) (.slice pz4 H.2.1.2.2.2.2.1.length qz4) (.slice pz5 H.2.1.2.2.2.2.2.1.length qz5) (.slice pz6 H.2.1.2.2.2.2.2.2.1.length qz6) (.slice pz7 H.2.1.2.2.2.2.2.2.2.1.length qz7) (.slice pz8 H.2.1.2.2.2.2.2.2.2.2.length qz8) (.slice pzs H.2.2.length qzs) w).trans (by rw [HH1.out])
          have hbg := Below.step sg.h hbx
          refine ⟨_, rfl, ⟨⟨wg, hbx⟩, rfl⟩, ?_⟩
          replace n0 := HW.down n0 hbg
          replace n1 := HW.down n1 hbg
          replace n2 := HW.down n2 hbg
          replace n3 := HW.down n3 hbg
          replace n4 := HW.down n4 hbg
          replace n5 := HW.down n5 hbg
          replace n6 := HW.down n6 hbg
          replace n7 := HW.down n7 hbg
          replace n8 := HW.down n8 hbg
          replace n9 := HW.down n9 hbg
          replace n10 := HW.down n10 hbg
          replace n11 := HW.down n11 hbg
          replace n12 := HW.down n12 hbg
          replace n13 := HW.down n13 hbg
          replace g7 := HW.down g7 hbg
          replace k0 := HW.down k0 hbg
          replace k1 := HW.down k1 hbg
          replace k2 := HW.down k2 hbg
          replace k3 := HW.down k3 hbg
          replace k4 := HW.down k4 hbg
          replace k5 := HW.down k5 hbg
          replace k6 := HW.down k6 hbg
          replace k7 := HW.down k7 hbg
          replace k8 := HW.down k8 hbg
          replace k9 := HW.down k9 hbg
          replace k10 := HW.down k10 hbg
          replace k11 := HW.down k11 hbg
          replace k12 := HW.down k12 hbg
          replace k13 := HW.down k13 hbg
          replace BV := Below.step BV hbg
          replace hne := HW.some wg
          clear hbg hbx sg Ks
          refine wpM_more [5, 6, 7, 8, 9, 10, 11, 12, 13] 63 54 rfl (by as_aux_lemma => kernel_rfl) (by as_aux_lemma => kernel_rfl) (by as_aux_lemma => kernel_rfl) (by as_aux_lemma => kernel_rfl) ?_
          simp only [opsAt, List.getElem?_toArray, List.getElem?_cons_zero, List.getElem?_cons_succ]
          go_simp
          repeat (go_big_quiet_step (fail))
          refine wpQuiet_nil ?_
          refine wpM_only (i := 14) (by as_aux_lemma => kernel_rfl) ?_
          refine mOp_call rfl (by go_simp) 13 _ #[.agg #[.int .i64 eg.1.1, .slice pq1 eg.1.2.1.length qq1, .int .i64 eg.1.2.2.1, .slice pq2 eg.1.2.2.2.length qq2, .int .i64 3, .int .i64 eg.2.2.1, .slice pq3 4 qq3, .slice pq4 eg.2.2.2.2.1.length qq4, .slice pq5 sq.1.length qq5, .slice pq6 sq.2.1.length qq6, .slice pq7 sq.2.2.1.length qq7, .slice pq8 sq.2.2.2.length qq8]] (fun w => by go_simp) rfl ?_
          rintro _ ⟨sg, rfl⟩
          refine (KE2.out _ (Below.step BV sg.h)).mono ?_
          rintro e wh0 ⟨rfl, hbx⟩
          have hbg := Below.step sg.h hbx
          refine ⟨_, rfl, ⟨⟨wh0, hbx⟩, rfl⟩, ?_⟩
          replace n0 := HW.down n0 hbg
          replace n1 := HW.down n1 hbg
          replace n2 := HW.down n2 hbg
          replace n3 := HW.down n3 hbg
          replace n4 := HW.down n4 hbg
          replace n5 := HW.down n5 hbg
          replace n6 := HW.down n6 hbg
          replace n7 := HW.down n7 hbg
          replace n8 := HW.down n8 hbg
          replace n9 := HW.down n9 hbg
          replace n10 := HW.down n10 hbg
          replace n11 := HW.down n11 hbg
          replace n12 := HW.down n12 hbg
          replace n13 := HW.down n13 hbg
          replace g7 := HW.down g7 hbg
          replace k0 := HW.down k0 hbg
          replace k1 := HW.down k1 hbg
          replace k2 := HW.down k2 hbg
          replace k3 := HW.down k3 hbg
          replace k4 := HW.down k4 hbg
          replace k5 := HW.down k5 hbg
          replace k6 := HW.down k6 hbg
          replace k7 := HW.down k7 hbg
          replace k8 := HW.down k8 hbg
          replace k9 := HW.down k9 hbg
          replace k10 := HW.down k10 hbg
          replace k11 := HW.down k11 hbg
          replace k12 := HW.down k12 hbg
          replace k13 := HW.down k13 hbg
          replace BV := Below.step BV hbg
          replace hne := HW.some wh0
          clear hbg hbx sg
          refine wpM_more [15, 16, 17, 18, 19, 20, 21, 22, 23, 24, 25, 26, 27, 28, 29, 30, 31, 32, 33] 53 34 rfl (by as_aux_lemma => kernel_rfl) (by as_aux_lemma => kernel_rfl) (by as_aux_lemma => kernel_rfl) (by as_aux_lemma => kernel_rfl) ?_
          simp only [opsAt, List.getElem?_toArray, List.getElem?_cons_zero, List.getElem?_cons_succ]
          go_simp
          repeat (go_big_quiet_step (fail))
          refine wpQuiet_nil ?_
          refine wpM_only (i := 34) (by as_aux_lemma => kernel_rfl) ?_
          refine mOp_call rfl (by go_simp) 11 _ #[.slice pq4 eg.2.2.2.2.1.length qq4, .slice pg4 eg.2.2.2.2.1.length qg4] (fun w => by go_simp) rfl ?_
          rintro _ ⟨sg, rfl⟩
          refine (KL.out _ (Below.step BV sg.h)).mono ?_
          rintro e wh1 ⟨rfl, hbx⟩
          have hbg := Below.step sg.h hbx
          refine ⟨_, rfl, ⟨⟨wh1, hbx⟩, rfl⟩, ?_⟩
          replace n0 := HW.down n0 hbg
          replace n1 := HW.down n1 hbg
          replace n2 := HW.down n2 hbg
          replace n3 := HW.down n3 hbg
          replace n4 := HW.down n4 hbg
          replace n5 := HW.down n5 hbg
          replace n6 := HW.down n6 hbg
          replace n7 := HW.down n7 hbg
          replace n8 := HW.down n8 hbg
          replace n9 := HW.down n9 hbg
          replace n10 := HW.down n10 hbg
          replace n11 := HW.down n11 hbg
          replace n12 := HW.down n12 hbg
          replace n13 := HW.down n13 hbg
          replace g7 := HW.down g7 hbg
          replace k0 := HW.down k0 hbg
          replace k1 := HW.down k1 hbg
          replace k2 := HW.down k2 hbg
          replace k3 := HW.down k3 hbg
          replace k4 := HW.down k4 hbg
          replace k5 := HW.down k5 hbg
          replace k6 := HW.down k6 hbg
          replace k7 := HW.down k7 hbg
          replace k8 := HW.down k8 hbg
          replace k9 := HW.down k9 hbg
          replace k10 := HW.down k10 hbg
          replace k11 := HW.down k11 hbg
          replace k12 := HW.down k12 hbg
          replace k13 := HW.down k13 hbg
          replace BV := Below.step BV hbg
          replace hne := HW.some wh1
          clear hbg hbx sg
          refine wpM_more [35, 36, 37, 38, 39, 40, 41, 42, 43, 44, 45, 46, 47, 48, 49, 50, 51, 52, 53, 54, 55] 33 12 rfl (by as_aux_lemma => kernel_rfl) (by as_aux_lemma => kernel_rfl) (by as_aux_lemma => kernel_rfl) (by as_aux_lemma => kernel_rfl) ?_
          simp only [opsAt, List.getElem?_toArray, List.getElem?_cons_zero, List.getElem?_cons_succ]
          go_simp
          repeat (go_big_quiet_step (fail))
          refine wpQuiet_nil ?_
          refine wpM_only (i := 56) (by as_aux_lemma => kernel_rfl) ?_
          refine mOp_call rfl (by go_simp) 13 _ #[.agg #[.int .i64 sh.1, .slice ph1 sh.2.1.length qh1, .int .i64 sh.2.2.1, .slice ph2 sh.2.2.2.length qh2, .int .i64 2, .int .i64 mo, .slice ph3 3 qh3, .slice ph4 bas.length qh4, .slice ph5 0 qh5, .slice ph6 0 qh6, .slice ph7 0 qh7, .slice ph8 0 qh8]] (fun w => by go_simp) rfl ?_
          rintro _ ⟨sg, rfl⟩
          refine (KE3.out _ (Below.step BV sg.h)).mono ?_
          rintro e wh2 ⟨rfl, hbx⟩
          have hbg := Below.step sg.h hbx
          refine ⟨_, rfl, ⟨⟨wh2, hbx⟩, rfl⟩, ?_⟩
          replace n0 := HW.down n0 hbg
          replace n1 := HW.down n1 hbg
          replace n2 := HW.down n2 hbg
          replace n3 := HW.down n3 hbg
          replace n4 := HW.down n4 hbg
          replace n5 := HW.down n5 hbg
          replace n6 := HW.down n6 hbg
          replace n7 := HW.down n7 hbg
          replace n8 := HW.down n8 hbg
          replace n9 := HW.down n9 hbg
          replace n10 := HW.down n10 hbg
          replace n11 := HW.down n11 hbg
          replace n12 := HW.down n12 hbg
          replace n13 := HW.down n13 hbg
          replace g7 := HW.down g7 hbg
          replace k0 := HW.down k0 hbg
          replace k1 := HW.down k1 hbg
          replace k2 := HW.down k2 hbg
          replace k3 := HW.down k3 hbg
          replace k4 := HW.down k4 hbg
          replace k5 := HW.down k5 hbg
          replace k6 := HW.down k6 hbg
          replace k7 := HW.down k7 hbg
          replace k8 := HW.down k8 hbg
          replace k9 := HW.down k9 hbg
          replace k10 := HW.down k10 hbg
          replace k11 := HW.down k11 hbg
          replace k12 := HW.down k12 hbg
          replace k13 := HW.down k13 hbg
          replace BV := Below.step BV hbg
          replace hne := HW.some wh2
          clear hbg hbx sg
          refine wpM_more [57, 58, 59, 60, 61, 62, 63, 64, 65, 66, 67] 11 0 rfl (by as_aux_lemma => kernel_rfl) (by as_aux_lemma => kernel_rfl) (by as_aux_lemma => kernel_rfl) (by as_aux_lemma => kernel_rfl) ?_
          simp only [opsAt, List.getElem?_toArray, List.getElem?_cons_zero, List.getElem?_cons_succ]
          go_simp
          repeat (go_big_quiet_step (fail))
          refine wpQuiet_nil ?_
          refine wpM_end (by as_aux_lemma => kernel_rfl) rfl (by as_aux_lemma => kernel_rfl) (by decide) ?_
          rintro _ ⟨sgz, rfl⟩
          simp only [List.drop_succ_cons, List.drop_zero]
          go_simp
          replace BV := Below.step BV sgz.h
          clear hne n0 n1 n2 n3 n4 n5 n6 n7 n8 n9 n10 n11 n12 n13 g7 k0 k1 k2 k3 k4 k5 k6 k7 k8 k9 k10 k11 k12 k13
          generalize sgz.w = Wz at *
          clear sgz
          go_wp2
          go_ret
          exact ⟨rfl, Below.step BW BV⟩
      · as_aux_lemma =>
          obtain ⟨ga, gb, gc, -, -, -, -, -, hq6⟩ := hnE_zero (e := eg) (m := mg) (by rw [← HQ.out]; exact hQ0)
          have hq7 := hnE_end (e := eg) (m := mg) (by rw [← HQ.out]; exact hQ0)
          rw [← HQ.out] at hq6 hq7
          rw [hq6] at hq7
          have HEQ : Hid (efC (doneE eg.1 eg.2.2.1 eg.2.2.2.2.1 [ga, gb, gc, mg]) = 0) := hq7
          clear hq7 hQ0
          obtain ⟨sq, HSQ⟩ : ∃ sq, Hid (sq = secsN eg.2.2.2.2.1 (digM ([ga, gb, gc, mg].take 3))) := ⟨_, rfl⟩
          have HUq2 : Hid (usq = [.int .i64 0, .int .i64 eg.1.1, .slice pq1 eg.1.2.1.length qq1, .int .i64 eg.1.2.2.1, .slice pq2 eg.1.2.2.2.length qq2, .int .i64 3, .int .i64 eg.2.2.1, .slice pq3 4 qq3, .slice pq4 eg.2.2.2.2.1.length qq4, .slice pq5 sq.1.length qq5, .slice pq6 sq.2.1.length qq6, .slice pq7 sq.2.2.1.length qq7, .slice pq8 sq.2.2.2.length qq8, .slice pqs 0 qqs]) := by show _ = _; rw [HUq.out, hq6, HSQ.out]; rfl
          have kq := Kq
          rw [HUq2.out, hq6] at kq
          obtain ⟨fe, fd, ke, -, -, -⟩ := endR_parts2 (r := (0, (doneE eg.1 eg.2.2.1 eg.2.2.2.2.1 [ga, gb, gc, mg]), [])) (us := [.int .i64 eg.1.1, .slice pq1 eg.1.2.1.length qq1, .int .i64 eg.1.2.2.1, .slice pq2 eg.1.2.2.2.length qq2, .int .i64 3, .int .i64 eg.2.2.1, .slice pq3 4 qq3, .slice pq4 eg.2.2.2.2.1.length qq4, .slice pq5 sq.1.length qq5, .slice pq6 sq.2.1.length qq6, .slice pq7 sq.2.2.1.length qq7, .slice pq8 sq.2.2.2.length qq8]) kq rfl
          have HRQ : Hid (endC.rep T4 (doneE eg.1 eg.2.2.1 eg.2.2.2.2.1 [ga, gb, gc, mg]) [.int .i64 eg.1.1, .slice pq1 eg.1.2.1.length qq1, .int .i64 eg.1.2.2.1, .slice pq2 eg.1.2.2.2.length qq2, .int .i64 3, .int .i64 eg.2.2.1, .slice pq3 4 qq3, .slice pq4 eg.2.2.2.2.1.length qq4, .slice pq5 sq.1.length qq5, .slice pq6 sq.2.1.length qq6, .slice pq7 sq.2.2.1.length qq7, .slice pq8 sq.2.2.2.length qq8]) := endC.toRep ke
          obtain ⟨-, -, -, rb4, -, -, -, -⟩ := end_unmk (e := (eg.1, 3, eg.2.2.1, [ga, gb, gc, mg], eg.2.2.2.2.1, sq)) (by have h := HRQ.out; rw [HSQ.out]; rw [HSQ.out] at h; exact h)
          obtain ⟨-, -, -, rg4, -, -, -, -⟩ := end_unmk HRG.out
          have KE2 : Hid (∀ W, Below T4.heap.size T4 W → Calls Tryz.prog 13 #[.agg #[.int .i64 eg.1.1, .slice pq1 eg.1.2.1.length qq1, .int .i64 eg.1.2.2.1, .slice pq2 eg.1.2.2.2.length qq2, .int .i64 3, .int .i64 eg.2.2.1, .slice pq3 4 qq3, .slice pq4 eg.2.2.2.2.1.length qq4, .slice pq5 sq.1.length qq5, .slice pq6 sq.2.1.length qq6, .slice pq7 sq.2.2.1.length qq7, .slice pq8 sq.2.2.2.length qq8]] W fun e w' => e = .returned (.int .i64 0) ∧ Below W.heap.size W w') := fun W hb => by have h := implEf_k (doneE eg.1 eg.2.2.1 eg.2.2.2.2.1 [ga, gb, gc, mg]) _ W (endC.keep HRQ.out hb); rw [HEQ.out] at h; exact h
          have KL : Hid (∀ W, Below T4.heap.size T4 W → Calls Tryz.prog 11 #[.slice pq4 eg.2.2.2.2.1.length qq4, .slice pg4 eg.2.2.2.2.1.length qg4] W fun e w' => e = .returned (.bool true) ∧ Below W.heap.size W w') := fun W hb => (lwSame_c _ _ _ _ eg.2.2.2.2.1 eg.2.2.2.2.1 W (rb4.keep hb) (rg4.keep hb)).mono fun _ _ ⟨h1, h2⟩ => ⟨by rw [h1]; simp, by rw [h2]; exact Below.refl _ _⟩
          have n0 := HW.at ((Nq.cell 0).trans (show _ = some (.int .i64 0) by rw [HUq2.out]; rfl))
          have n1 := HW.at ((Nq.cell 1).trans (show _ = some (.int .i64 eg.1.1) by rw [HUq2.out]; rfl))
          have n2 := HW.at ((Nq.cell 2).trans (show _ = some (.slice pq1 eg.1.2.1.length qq1) by rw [HUq2.out]; rfl))
          have n3 := HW.at ((Nq.cell 3).trans (show _ = some (.int .i64 eg.1.2.2.1) by rw [HUq2.out]; rfl))
          have n4 := HW.at ((Nq.cell 4).trans (show _ = some (.slice pq2 eg.1.2.2.2.length qq2) by rw [HUq2.out]; rfl))
          have n5 := HW.at ((Nq.cell 5).trans (show _ = some (.int .i64 3) by rw [HUq2.out]; rfl))
          have n6 := HW.at ((Nq.cell 6).trans (show _ = some (.int .i64 eg.2.2.1) by rw [HUq2.out]; rfl))
          have n7 := HW.at ((Nq.cell 7).trans (show _ = some (.slice pq3 4 qq3) by rw [HUq2.out]; rfl))
          have n8 := HW.at ((Nq.cell 8).trans (show _ = some (.slice pq4 eg.2.2.2.2.1.length qq4) by rw [HUq2.out]; rfl))
          have n9 := HW.at ((Nq.cell 9).trans (show _ = some (.slice pq5 sq.1.length qq5) by rw [HUq2.out]; rfl))
          have n10 := HW.at ((Nq.cell 10).trans (show _ = some (.slice pq6 sq.2.1.length qq6) by rw [HUq2.out]; rfl))
          have n11 := HW.at ((Nq.cell 11).trans (show _ = some (.slice pq7 sq.2.2.1.length qq7) by rw [HUq2.out]; rfl))
          have n12 := HW.at ((Nq.cell 12).trans (show _ = some (.slice pq8 sq.2.2.2.length qq8) by rw [HUq2.out]; rfl))
          have n13 := HW.at ((Nq.cell 13).trans (show _ = some (.slice pqs 0 qqs) by rw [HUq2.out]; rfl))
          have g7 := HW.at ((Xga.cell 7).trans (show _ = some _ from rfl))
          clear kq ke rb4 rg4 hq6
          have dH : (H.1 != 0) = true := by rw [bne_iff_ne]; exact hH0
          have dE2 : (H.1 == H.1) = true := by simp
          clear hH0
          have k0 := HW.at ((Nh.cell 0).trans (show _ = some (.int .i64 H.1) by rw [HUh.out]; rfl))
          have t0 := HW.at ((Xta.cell 0).trans (show _ = some _ from rfl))
          have t1 := HW.at ((Xta.cell 1).trans (show _ = some _ from rfl))
          have t2 := HW.at ((Xta.cell 2).trans (show _ = some _ from rfl))
          have t3 := HW.at ((Xta.cell 3).trans (show _ = some _ from rfl))
          have u0 := HW.at ((Xtb.cell 0).trans (show _ = some _ from rfl))
          have u1 := HW.at ((Xtb.cell 1).trans (show _ = some _ from rfl))
          have hne := HW.some T4
          have BV := Below.refl T4.heap.size T4
          clear Xta Xtb Xga Nq Nh Kq Kh HRG
          refine wp_region_pick [0, 1, 2, 3] 68 64 1 rfl rfl rfl (by as_aux_lemma => kernel_rfl) (by as_aux_lemma => kernel_rfl) (by as_aux_lemma => kernel_rfl) (by as_aux_lemma => kernel_rfl) ?_
          simp only [opsAt, List.getElem?_toArray, List.getElem?_cons_zero, List.getElem?_cons_succ]
          repeat (go_big_quiet_step (fail))
          refine wpQuiet_nil ?_
          clear t0 t1 t2 t3 u0 u1
          refine wpM_only (i := 4) (by as_aux_lemma => kernel_rfl) ?_
          refine mOp_call rfl (by go_simp) 22 _ #[.agg #[.int .i64 sh.1, .slice pt1 sh.2.1.length qt1, .int .i64 sh.2.2.1, .slice pt2 sh.2.2.2.length qt2], .agg #[.int .i64 mh.1, .slice pmh mh.2.length qmh]] (fun w => by go_simp) rfl ?_
          rintro _ ⟨sg, rfl⟩
          refine (KSH.out _ (Below.step BV sg.h)).mono ?_
          rintro e wg ⟨uss, fps, rfl, Ks, hbx⟩
          have hf : ∀ w, (Instr.field 43 (.agg uss.toArray) 0).run Tryz.prog w = .ok (.int .i64 H.1) w := by
            obtain ⟨pz1, qz1, pz2, qz2, pz3, qz3, pz4, qz4, pz5, qz5, pz6, qz6, pz7, qz7, pz8, qz8, pzs, qzs, eu, -, -, -, -, -, -, -, -, -⟩ := endResult_rep (endResultC.toRep Ks)
            subst eu
            exact fun w => (endR_f0 H.1 (.int .i64 H.2.1.1.1) (.slice pz1 H.2.1.1.2.1.length qz1) (.int .i64 H.2.1.1.2.2.1) (.slice pz2 H.2.1.1.2.2.2.length qz2) (.int .i64 H.2.1.2.1) (.int .i64 H.2.1.2.2.1) (.slice pz3 H.2.1.2.2.2.1.length qz3) (.slice pz4 H.2.1.2.2.2.2.1.length qz4) (.slice pz5 H.2.1.2.2.2.2.2.1.length qz5) (.slice pz6 H.2.1.2.2.2.2.2.2.1.length qz6) (.slice pz7 H.2.1.2.2.2.2.2.2.2.1.length qz7) (.slice pz8 H.2.1.2.2.2.2.2.2.2.2.length qz8) (.slice pzs H.2.2.length qzs) w)
          have hbg := Below.step sg.h hbx
          refine ⟨_, rfl, ⟨⟨wg, hbx⟩, rfl⟩, ?_⟩
          replace n0 := HW.down n0 hbg
          replace n1 := HW.down n1 hbg
          replace n2 := HW.down n2 hbg
          replace n3 := HW.down n3 hbg
          replace n4 := HW.down n4 hbg
          replace n5 := HW.down n5 hbg
          replace n6 := HW.down n6 hbg
          replace n7 := HW.down n7 hbg
          replace n8 := HW.down n8 hbg
          replace n9 := HW.down n9 hbg
          replace n10 := HW.down n10 hbg
          replace n11 := HW.down n11 hbg
          replace n12 := HW.down n12 hbg
          replace n13 := HW.down n13 hbg
          replace g7 := HW.down g7 hbg
          replace k0 := HW.down k0 hbg
          replace BV := Below.step BV hbg
          replace hne := HW.some wg
          clear hbg hbx sg Ks
          refine wpM_more [5, 6, 7, 8, 9, 10, 11, 12, 13] 63 54 rfl (by as_aux_lemma => kernel_rfl) (by as_aux_lemma => kernel_rfl) (by as_aux_lemma => kernel_rfl) (by as_aux_lemma => kernel_rfl) ?_
          simp only [opsAt, List.getElem?_toArray, List.getElem?_cons_zero, List.getElem?_cons_succ]
          go_simp
          repeat (go_big_quiet_step (fail))
          refine wpQuiet_nil ?_
          refine wpM_only (i := 14) (by as_aux_lemma => kernel_rfl) ?_
          refine mOp_call rfl (by go_simp) 13 _ #[.agg #[.int .i64 eg.1.1, .slice pq1 eg.1.2.1.length qq1, .int .i64 eg.1.2.2.1, .slice pq2 eg.1.2.2.2.length qq2, .int .i64 3, .int .i64 eg.2.2.1, .slice pq3 4 qq3, .slice pq4 eg.2.2.2.2.1.length qq4, .slice pq5 sq.1.length qq5, .slice pq6 sq.2.1.length qq6, .slice pq7 sq.2.2.1.length qq7, .slice pq8 sq.2.2.2.length qq8]] (fun w => by go_simp) rfl ?_
          rintro _ ⟨sg, rfl⟩
          refine (KE2.out _ (Below.step BV sg.h)).mono ?_
          rintro e wh0 ⟨rfl, hbx⟩
          have hbg := Below.step sg.h hbx
          refine ⟨_, rfl, ⟨⟨wh0, hbx⟩, rfl⟩, ?_⟩
          replace n0 := HW.down n0 hbg
          replace n1 := HW.down n1 hbg
          replace n2 := HW.down n2 hbg
          replace n3 := HW.down n3 hbg
          replace n4 := HW.down n4 hbg
          replace n5 := HW.down n5 hbg
          replace n6 := HW.down n6 hbg
          replace n7 := HW.down n7 hbg
          replace n8 := HW.down n8 hbg
          replace n9 := HW.down n9 hbg
          replace n10 := HW.down n10 hbg
          replace n11 := HW.down n11 hbg
          replace n12 := HW.down n12 hbg
          replace n13 := HW.down n13 hbg
          replace g7 := HW.down g7 hbg
          replace k0 := HW.down k0 hbg
          replace BV := Below.step BV hbg
          replace hne := HW.some wh0
          clear hbg hbx sg
          refine wpM_more [15, 16, 17, 18, 19, 20, 21, 22, 23, 24, 25, 26, 27, 28, 29, 30, 31, 32, 33] 53 34 rfl (by as_aux_lemma => kernel_rfl) (by as_aux_lemma => kernel_rfl) (by as_aux_lemma => kernel_rfl) (by as_aux_lemma => kernel_rfl) ?_
          simp only [opsAt, List.getElem?_toArray, List.getElem?_cons_zero, List.getElem?_cons_succ]
          go_simp
          repeat (go_big_quiet_step (fail))
          refine wpQuiet_nil ?_
          refine wpM_only (i := 34) (by as_aux_lemma => kernel_rfl) ?_
          refine mOp_call rfl (by go_simp) 11 _ #[.slice pq4 eg.2.2.2.2.1.length qq4, .slice pg4 eg.2.2.2.2.1.length qg4] (fun w => by go_simp) rfl ?_
          rintro _ ⟨sg, rfl⟩
          refine (KL.out _ (Below.step BV sg.h)).mono ?_
          rintro e wh1 ⟨rfl, hbx⟩
          have hbg := Below.step sg.h hbx
          refine ⟨_, rfl, ⟨⟨wh1, hbx⟩, rfl⟩, ?_⟩
          replace n0 := HW.down n0 hbg
          replace n1 := HW.down n1 hbg
          replace n2 := HW.down n2 hbg
          replace n3 := HW.down n3 hbg
          replace n4 := HW.down n4 hbg
          replace n5 := HW.down n5 hbg
          replace n6 := HW.down n6 hbg
          replace n7 := HW.down n7 hbg
          replace n8 := HW.down n8 hbg
          replace n9 := HW.down n9 hbg
          replace n10 := HW.down n10 hbg
          replace n11 := HW.down n11 hbg
          replace n12 := HW.down n12 hbg
          replace n13 := HW.down n13 hbg
          replace g7 := HW.down g7 hbg
          replace k0 := HW.down k0 hbg
          replace BV := Below.step BV hbg
          replace hne := HW.some wh1
          clear hbg hbx sg
          refine wpM_more [35, 36, 37, 38, 39, 40, 41, 42, 43, 44, 45, 46, 47, 48, 49, 50, 51, 52, 53, 54, 55] 33 12 rfl (by as_aux_lemma => kernel_rfl) (by as_aux_lemma => kernel_rfl) (by as_aux_lemma => kernel_rfl) (by as_aux_lemma => kernel_rfl) ?_
          simp only [opsAt, List.getElem?_toArray, List.getElem?_cons_zero, List.getElem?_cons_succ]
          go_simp
          repeat (go_big_quiet_step (fail))
          refine wpQuiet_nil ?_
          refine wpM_only (i := 56) (by as_aux_lemma => kernel_rfl) ?_
          refine mOp_skip rfl (by as_aux_lemma => kernel_rfl) ?_
          refine wpM_more [57, 58, 59, 60, 61, 62, 63, 64, 65, 66, 67] 11 0 rfl (by as_aux_lemma => kernel_rfl) (by as_aux_lemma => kernel_rfl) (by as_aux_lemma => kernel_rfl) (by as_aux_lemma => kernel_rfl) ?_
          simp only [opsAt, List.getElem?_toArray, List.getElem?_cons_zero, List.getElem?_cons_succ]
          go_simp
          repeat (go_big_quiet_step (fail))
          refine wpQuiet_nil ?_
          refine wpM_end (by as_aux_lemma => kernel_rfl) rfl (by as_aux_lemma => kernel_rfl) (by decide) ?_
          rintro _ ⟨sgz, rfl⟩
          simp only [List.drop_succ_cons, List.drop_zero]
          go_simp
          replace BV := Below.step BV sgz.h
          clear hne n0 n1 n2 n3 n4 n5 n6 n7 n8 n9 n10 n11 n12 n13 g7 k0
          generalize sgz.w = Wz at *
          clear sgz
          go_wp2
          go_ret
          exact ⟨rfl, Below.step BW BV⟩
    · by_cases hH0 : H.1 = 0
      · as_aux_lemma =>
          have dQ : (Q.1 != 0) = true := by rw [bne_iff_ne]; exact hQ0
          clear hQ0
          have n0 := HW.at ((Nq.cell 0).trans (show _ = some (.int .i64 Q.1) by rw [HUq.out]; rfl))
          have hc0 : hcC sh mh = 0 := by rw [← hcE_code, ← HH.out]; exact hH0
          have hh7 := hcE_end hc0
          have hh6 := hcE_ok hc0
          rw [← HH.out] at hh6 hh7
          obtain ⟨mo, hel, fin, bas, hP⟩ : ∃ mo hel fin bas, H = (0, (sh, 2, mo, [mh, hel, fin], bas, zeroX), [hel, fin]) := ⟨_, _, _, _, hh6⟩
          rw [hP] at hh7
          have HEH : Hid (efC (sh, 2, mo, [mh, hel, fin], bas, zeroX) = 0) := hh7
          have HH1 : Hid (H.1 = 0) := hH0
          clear hh6 hh7 hc0 hH0
          have HUh2 : Hid (ush = [.int .i64 0, .int .i64 sh.1, .slice ph1 sh.2.1.length qh1, .int .i64 sh.2.2.1, .slice ph2 sh.2.2.2.length qh2, .int .i64 2, .int .i64 mo, .slice ph3 3 qh3, .slice ph4 bas.length qh4, .slice ph5 0 qh5, .slice ph6 0 qh6, .slice ph7 0 qh7, .slice ph8 0 qh8, .slice phs 2 qhs]) := by show _ = _; rw [HUh.out, hP]; rfl
          have kh := Kh
          rw [HUh2.out, hP] at kh
          obtain ⟨fe2, fd2, ke2, -, -, -⟩ := endR_parts2 (r := (0, (sh, 2, mo, [mh, hel, fin], bas, zeroX), [hel, fin])) (us := [.int .i64 sh.1, .slice ph1 sh.2.1.length qh1, .int .i64 sh.2.2.1, .slice ph2 sh.2.2.2.length qh2, .int .i64 2, .int .i64 mo, .slice ph3 3 qh3, .slice ph4 bas.length qh4, .slice ph5 0 qh5, .slice ph6 0 qh6, .slice ph7 0 qh7, .slice ph8 0 qh8]) kh rfl
          have HRH : Hid (endC.rep T4 (sh, 2, mo, [mh, hel, fin], bas, zeroX) [.int .i64 sh.1, .slice ph1 sh.2.1.length qh1, .int .i64 sh.2.2.1, .slice ph2 sh.2.2.2.length qh2, .int .i64 2, .int .i64 mo, .slice ph3 3 qh3, .slice ph4 bas.length qh4, .slice ph5 0 qh5, .slice ph6 0 qh6, .slice ph7 0 qh7, .slice ph8 0 qh8]) := endC.toRep ke2
          have KE3 : Hid (∀ W, Below T4.heap.size T4 W → Calls Tryz.prog 13 #[.agg #[.int .i64 sh.1, .slice ph1 sh.2.1.length qh1, .int .i64 sh.2.2.1, .slice ph2 sh.2.2.2.length qh2, .int .i64 2, .int .i64 mo, .slice ph3 3 qh3, .slice ph4 bas.length qh4, .slice ph5 0 qh5, .slice ph6 0 qh6, .slice ph7 0 qh7, .slice ph8 0 qh8]] W fun e w' => e = .returned (.int .i64 0) ∧ Below W.heap.size W w') := fun W hb => by have h := implEf_k (sh, 2, mo, [mh, hel, fin], bas, zeroX) _ W (endC.keep HRH.out hb); rw [HEH.out] at h; exact h
          have k0 := HW.at ((Nh.cell 0).trans (show _ = some (.int .i64 0) by rw [HUh2.out]; rfl))
          have k1 := HW.at ((Nh.cell 1).trans (show _ = some (.int .i64 sh.1) by rw [HUh2.out]; rfl))
          have k2 := HW.at ((Nh.cell 2).trans (show _ = some (.slice ph1 sh.2.1.length qh1) by rw [HUh2.out]; rfl))
          have k3 := HW.at ((Nh.cell 3).trans (show _ = some (.int .i64 sh.2.2.1) by rw [HUh2.out]; rfl))
          have k4 := HW.at ((Nh.cell 4).trans (show _ = some (.slice ph2 sh.2.2.2.length qh2) by rw [HUh2.out]; rfl))
          have k5 := HW.at ((Nh.cell 5).trans (show _ = some (.int .i64 2) by rw [HUh2.out]; rfl))
          have k6 := HW.at ((Nh.cell 6).trans (show _ = some (.int .i64 mo) by rw [HUh2.out]; rfl))
          have k7 := HW.at ((Nh.cell 7).trans (show _ = some (.slice ph3 3 qh3) by rw [HUh2.out]; rfl))
          have k8 := HW.at ((Nh.cell 8).trans (show _ = some (.slice ph4 bas.length qh4) by rw [HUh2.out]; rfl))
          have k9 := HW.at ((Nh.cell 9).trans (show _ = some (.slice ph5 0 qh5) by rw [HUh2.out]; rfl))
          have k10 := HW.at ((Nh.cell 10).trans (show _ = some (.slice ph6 0 qh6) by rw [HUh2.out]; rfl))
          have k11 := HW.at ((Nh.cell 11).trans (show _ = some (.slice ph7 0 qh7) by rw [HUh2.out]; rfl))
          have k12 := HW.at ((Nh.cell 12).trans (show _ = some (.slice ph8 0 qh8) by rw [HUh2.out]; rfl))
          have k13 := HW.at ((Nh.cell 13).trans (show _ = some (.slice phs 2 qhs) by rw [HUh2.out]; rfl))
          clear kh ke2 hP
          have t0 := HW.at ((Xta.cell 0).trans (show _ = some _ from rfl))
          have t1 := HW.at ((Xta.cell 1).trans (show _ = some _ from rfl))
          have t2 := HW.at ((Xta.cell 2).trans (show _ = some _ from rfl))
          have t3 := HW.at ((Xta.cell 3).trans (show _ = some _ from rfl))
          have u0 := HW.at ((Xtb.cell 0).trans (show _ = some _ from rfl))
          have u1 := HW.at ((Xtb.cell 1).trans (show _ = some _ from rfl))
          have hne := HW.some T4
          have BV := Below.refl T4.heap.size T4
          clear Xta Xtb Xga Nq Nh Kq Kh HRG
          refine wp_region_pick [0, 1, 2, 3] 68 64 1 rfl rfl rfl (by as_aux_lemma => kernel_rfl) (by as_aux_lemma => kernel_rfl) (by as_aux_lemma => kernel_rfl) (by as_aux_lemma => kernel_rfl) ?_
          simp only [opsAt, List.getElem?_toArray, List.getElem?_cons_zero, List.getElem?_cons_succ]
          repeat (go_big_quiet_step (fail))
          refine wpQuiet_nil ?_
          clear t0 t1 t2 t3 u0 u1
          refine wpM_only (i := 4) (by as_aux_lemma => kernel_rfl) ?_
          refine mOp_call rfl (by go_simp) 22 _ #[.agg #[.int .i64 sh.1, .slice pt1 sh.2.1.length qt1, .int .i64 sh.2.2.1, .slice pt2 sh.2.2.2.length qt2], .agg #[.int .i64 mh.1, .slice pmh mh.2.length qmh]] (fun w => by go_simp) rfl ?_
          rintro _ ⟨sg, rfl⟩
          refine (KSH.out _ (Below.step BV sg.h)).mono ?_
          rintro e wg ⟨uss, fps, rfl, Ks, hbx⟩
          have hf : ∀ w, (Instr.field 43 (.agg uss.toArray) 0).run Tryz.prog w = .ok (.int .i64 0) w := by
            obtain ⟨pz1, qz1, pz2, qz2, pz3, qz3, pz4, qz4, pz5, qz5, pz6, qz6, pz7, qz7, pz8, qz8, pzs, qzs, eu, -, -, -, -, -, -, -, -, -⟩ := endResult_rep (endResultC.toRep Ks)
            subst eu
            exact fun w => (endR_f0 H.1 (.int .i64 H.2.1.1.1) (.slice pz1 H.2.1.1.2.1.length qz1) (.int .i64 H.2.1.1.2.2.1) (.slice pz2 H.2.1.1.2.2.2.length qz2) (.int .i64 H.2.1.2.1) (.int .i64 H.2.1.2.2.1) (.slice pz3 H.2.1.2.2.2.1.length qz3) (.slice pz4 H.2.1.2.2.2.2.1.length qz4) (.slice pz5 H.2.1.2.2.2.2.2.1.length qz5) (.slice pz6 H.2.1.2.2.2.2.2.2.1.length qz6) (.slice pz7 H.2.1.2.2.2.2.2.2.2.1.length qz7) (.slice pz8 H.2.1.2.2.2.2.2.2.2.2.length qz8) (.slice pzs H.2.2.length qzs) w).trans (by rw [HH1.out])
          have hbg := Below.step sg.h hbx
          refine ⟨_, rfl, ⟨⟨wg, hbx⟩, rfl⟩, ?_⟩
          replace n0 := HW.down n0 hbg
          replace k0 := HW.down k0 hbg
          replace k1 := HW.down k1 hbg
          replace k2 := HW.down k2 hbg
          replace k3 := HW.down k3 hbg
          replace k4 := HW.down k4 hbg
          replace k5 := HW.down k5 hbg
          replace k6 := HW.down k6 hbg
          replace k7 := HW.down k7 hbg
          replace k8 := HW.down k8 hbg
          replace k9 := HW.down k9 hbg
          replace k10 := HW.down k10 hbg
          replace k11 := HW.down k11 hbg
          replace k12 := HW.down k12 hbg
          replace k13 := HW.down k13 hbg
          replace BV := Below.step BV hbg
          replace hne := HW.some wg
          clear hbg hbx sg Ks
          refine wpM_more [5, 6, 7, 8, 9, 10, 11, 12, 13] 63 54 rfl (by as_aux_lemma => kernel_rfl) (by as_aux_lemma => kernel_rfl) (by as_aux_lemma => kernel_rfl) (by as_aux_lemma => kernel_rfl) ?_
          simp only [opsAt, List.getElem?_toArray, List.getElem?_cons_zero, List.getElem?_cons_succ]
          go_simp
          repeat (go_big_quiet_step (fail))
          refine wpQuiet_nil ?_
          refine wpM_only (i := 14) (by as_aux_lemma => kernel_rfl) ?_
          refine mOp_skip rfl (by as_aux_lemma => kernel_rfl) ?_
          refine wpM_more [15, 16, 17, 18, 19, 20, 21, 22, 23, 24, 25, 26, 27, 28, 29, 30, 31, 32, 33] 53 34 rfl (by as_aux_lemma => kernel_rfl) (by as_aux_lemma => kernel_rfl) (by as_aux_lemma => kernel_rfl) (by as_aux_lemma => kernel_rfl) ?_
          simp only [opsAt, List.getElem?_toArray, List.getElem?_cons_zero, List.getElem?_cons_succ]
          go_simp
          repeat (go_big_quiet_step (fail))
          refine wpQuiet_nil ?_
          refine wpM_only (i := 34) (by as_aux_lemma => kernel_rfl) ?_
          refine mOp_skip rfl (by as_aux_lemma => kernel_rfl) ?_
          refine wpM_more [35, 36, 37, 38, 39, 40, 41, 42, 43, 44, 45, 46, 47, 48, 49, 50, 51, 52, 53, 54, 55] 33 12 rfl (by as_aux_lemma => kernel_rfl) (by as_aux_lemma => kernel_rfl) (by as_aux_lemma => kernel_rfl) (by as_aux_lemma => kernel_rfl) ?_
          simp only [opsAt, List.getElem?_toArray, List.getElem?_cons_zero, List.getElem?_cons_succ]
          go_simp
          repeat (go_big_quiet_step (fail))
          refine wpQuiet_nil ?_
          refine wpM_only (i := 56) (by as_aux_lemma => kernel_rfl) ?_
          refine mOp_call rfl (by go_simp) 13 _ #[.agg #[.int .i64 sh.1, .slice ph1 sh.2.1.length qh1, .int .i64 sh.2.2.1, .slice ph2 sh.2.2.2.length qh2, .int .i64 2, .int .i64 mo, .slice ph3 3 qh3, .slice ph4 bas.length qh4, .slice ph5 0 qh5, .slice ph6 0 qh6, .slice ph7 0 qh7, .slice ph8 0 qh8]] (fun w => by go_simp) rfl ?_
          rintro _ ⟨sg, rfl⟩
          refine (KE3.out _ (Below.step BV sg.h)).mono ?_
          rintro e wh2 ⟨rfl, hbx⟩
          have hbg := Below.step sg.h hbx
          refine ⟨_, rfl, ⟨⟨wh2, hbx⟩, rfl⟩, ?_⟩
          replace n0 := HW.down n0 hbg
          replace k0 := HW.down k0 hbg
          replace k1 := HW.down k1 hbg
          replace k2 := HW.down k2 hbg
          replace k3 := HW.down k3 hbg
          replace k4 := HW.down k4 hbg
          replace k5 := HW.down k5 hbg
          replace k6 := HW.down k6 hbg
          replace k7 := HW.down k7 hbg
          replace k8 := HW.down k8 hbg
          replace k9 := HW.down k9 hbg
          replace k10 := HW.down k10 hbg
          replace k11 := HW.down k11 hbg
          replace k12 := HW.down k12 hbg
          replace k13 := HW.down k13 hbg
          replace BV := Below.step BV hbg
          replace hne := HW.some wh2
          clear hbg hbx sg
          refine wpM_more [57, 58, 59, 60, 61, 62, 63, 64, 65, 66, 67] 11 0 rfl (by as_aux_lemma => kernel_rfl) (by as_aux_lemma => kernel_rfl) (by as_aux_lemma => kernel_rfl) (by as_aux_lemma => kernel_rfl) ?_
          simp only [opsAt, List.getElem?_toArray, List.getElem?_cons_zero, List.getElem?_cons_succ]
          go_simp
          repeat (go_big_quiet_step (fail))
          refine wpQuiet_nil ?_
          refine wpM_end (by as_aux_lemma => kernel_rfl) rfl (by as_aux_lemma => kernel_rfl) (by decide) ?_
          rintro _ ⟨sgz, rfl⟩
          simp only [List.drop_succ_cons, List.drop_zero]
          go_simp
          replace BV := Below.step BV sgz.h
          clear hne n0 k0 k1 k2 k3 k4 k5 k6 k7 k8 k9 k10 k11 k12 k13
          generalize sgz.w = Wz at *
          clear sgz
          go_wp2
          go_ret
          exact ⟨rfl, Below.step BW BV⟩
      · as_aux_lemma =>
          have dQ : (Q.1 != 0) = true := by rw [bne_iff_ne]; exact hQ0
          clear hQ0
          have n0 := HW.at ((Nq.cell 0).trans (show _ = some (.int .i64 Q.1) by rw [HUq.out]; rfl))
          have dH : (H.1 != 0) = true := by rw [bne_iff_ne]; exact hH0
          have dE2 : (H.1 == H.1) = true := by simp
          clear hH0
          have k0 := HW.at ((Nh.cell 0).trans (show _ = some (.int .i64 H.1) by rw [HUh.out]; rfl))
          have t0 := HW.at ((Xta.cell 0).trans (show _ = some _ from rfl))
          have t1 := HW.at ((Xta.cell 1).trans (show _ = some _ from rfl))
          have t2 := HW.at ((Xta.cell 2).trans (show _ = some _ from rfl))
          have t3 := HW.at ((Xta.cell 3).trans (show _ = some _ from rfl))
          have u0 := HW.at ((Xtb.cell 0).trans (show _ = some _ from rfl))
          have u1 := HW.at ((Xtb.cell 1).trans (show _ = some _ from rfl))
          have hne := HW.some T4
          have BV := Below.refl T4.heap.size T4
          clear Xta Xtb Xga Nq Nh Kq Kh HRG
          refine wp_region_pick [0, 1, 2, 3] 68 64 1 rfl rfl rfl (by as_aux_lemma => kernel_rfl) (by as_aux_lemma => kernel_rfl) (by as_aux_lemma => kernel_rfl) (by as_aux_lemma => kernel_rfl) ?_
          simp only [opsAt, List.getElem?_toArray, List.getElem?_cons_zero, List.getElem?_cons_succ]
          repeat (go_big_quiet_step (fail))
          refine wpQuiet_nil ?_
          clear t0 t1 t2 t3 u0 u1
          refine wpM_only (i := 4) (by as_aux_lemma => kernel_rfl) ?_
          refine mOp_call rfl (by go_simp) 22 _ #[.agg #[.int .i64 sh.1, .slice pt1 sh.2.1.length qt1, .int .i64 sh.2.2.1, .slice pt2 sh.2.2.2.length qt2], .agg #[.int .i64 mh.1, .slice pmh mh.2.length qmh]] (fun w => by go_simp) rfl ?_
          rintro _ ⟨sg, rfl⟩
          refine (KSH.out _ (Below.step BV sg.h)).mono ?_
          rintro e wg ⟨uss, fps, rfl, Ks, hbx⟩
          have hf : ∀ w, (Instr.field 43 (.agg uss.toArray) 0).run Tryz.prog w = .ok (.int .i64 H.1) w := by
            obtain ⟨pz1, qz1, pz2, qz2, pz3, qz3, pz4, qz4, pz5, qz5, pz6, qz6, pz7, qz7, pz8, qz8, pzs, qzs, eu, -, -, -, -, -, -, -, -, -⟩ := endResult_rep (endResultC.toRep Ks)
            subst eu
            exact fun w => (endR_f0 H.1 (.int .i64 H.2.1.1.1) (.slice pz1 H.2.1.1.2.1.length qz1) (.int .i64 H.2.1.1.2.2.1) (.slice pz2 H.2.1.1.2.2.2.length qz2) (.int .i64 H.2.1.2.1) (.int .i64 H.2.1.2.2.1) (.slice pz3 H.2.1.2.2.2.1.length qz3) (.slice pz4 H.2.1.2.2.2.2.1.length qz4) (.slice pz5 H.2.1.2.2.2.2.2.1.length qz5) (.slice pz6 H.2.1.2.2.2.2.2.2.1.length qz6) (.slice pz7 H.2.1.2.2.2.2.2.2.2.1.length qz7) (.slice pz8 H.2.1.2.2.2.2.2.2.2.2.length qz8) (.slice pzs H.2.2.length qzs) w)
          have hbg := Below.step sg.h hbx
          refine ⟨_, rfl, ⟨⟨wg, hbx⟩, rfl⟩, ?_⟩
          replace n0 := HW.down n0 hbg
          replace k0 := HW.down k0 hbg
          replace BV := Below.step BV hbg
          replace hne := HW.some wg
          clear hbg hbx sg Ks
          refine wpM_more [5, 6, 7, 8, 9, 10, 11, 12, 13] 63 54 rfl (by as_aux_lemma => kernel_rfl) (by as_aux_lemma => kernel_rfl) (by as_aux_lemma => kernel_rfl) (by as_aux_lemma => kernel_rfl) ?_
          simp only [opsAt, List.getElem?_toArray, List.getElem?_cons_zero, List.getElem?_cons_succ]
          go_simp
          repeat (go_big_quiet_step (fail))
          refine wpQuiet_nil ?_
          refine wpM_only (i := 14) (by as_aux_lemma => kernel_rfl) ?_
          refine mOp_skip rfl (by as_aux_lemma => kernel_rfl) ?_
          refine wpM_more [15, 16, 17, 18, 19, 20, 21, 22, 23, 24, 25, 26, 27, 28, 29, 30, 31, 32, 33] 53 34 rfl (by as_aux_lemma => kernel_rfl) (by as_aux_lemma => kernel_rfl) (by as_aux_lemma => kernel_rfl) (by as_aux_lemma => kernel_rfl) ?_
          simp only [opsAt, List.getElem?_toArray, List.getElem?_cons_zero, List.getElem?_cons_succ]
          go_simp
          repeat (go_big_quiet_step (fail))
          refine wpQuiet_nil ?_
          refine wpM_only (i := 34) (by as_aux_lemma => kernel_rfl) ?_
          refine mOp_skip rfl (by as_aux_lemma => kernel_rfl) ?_
          refine wpM_more [35, 36, 37, 38, 39, 40, 41, 42, 43, 44, 45, 46, 47, 48, 49, 50, 51, 52, 53, 54, 55] 33 12 rfl (by as_aux_lemma => kernel_rfl) (by as_aux_lemma => kernel_rfl) (by as_aux_lemma => kernel_rfl) (by as_aux_lemma => kernel_rfl) ?_
          simp only [opsAt, List.getElem?_toArray, List.getElem?_cons_zero, List.getElem?_cons_succ]
          go_simp
          repeat (go_big_quiet_step (fail))
          refine wpQuiet_nil ?_
          refine wpM_only (i := 56) (by as_aux_lemma => kernel_rfl) ?_
          refine mOp_skip rfl (by as_aux_lemma => kernel_rfl) ?_
          refine wpM_more [57, 58, 59, 60, 61, 62, 63, 64, 65, 66, 67] 11 0 rfl (by as_aux_lemma => kernel_rfl) (by as_aux_lemma => kernel_rfl) (by as_aux_lemma => kernel_rfl) (by as_aux_lemma => kernel_rfl) ?_
          simp only [opsAt, List.getElem?_toArray, List.getElem?_cons_zero, List.getElem?_cons_succ]
          go_simp
          repeat (go_big_quiet_step (fail))
          refine wpQuiet_nil ?_
          refine wpM_end (by as_aux_lemma => kernel_rfl) rfl (by as_aux_lemma => kernel_rfl) (by decide) ?_
          rintro _ ⟨sgz, rfl⟩
          simp only [List.drop_succ_cons, List.drop_zero]
          go_simp
          replace BV := Below.step BV sgz.h
          clear hne n0 k0
          generalize sgz.w = Wz at *
          clear sgz
          go_wp2
          go_ret
          exact ⟨rfl, Below.step BW BV⟩
  by_cases hD0 : D.1 = 0
  · obtain ⟨ma, mb, mc, -, -, hz3, hz4, -, hz6⟩ := hvE_zero (by rw [← HD.out]; exact hD0)
    have hz7 := hvE_end (e := en) (l := l) (by rw [← HD.out]; exact hD0)
    rw [← HD.out] at hz6 hz7
    obtain ⟨mo, base, fm, hP⟩ : ∃ mo base fm, D = (0, doneE en.1 mo base [ma, mb, mc, fm], [fm]) := ⟨_, _, _, hz6⟩
    clear hz6 hD0
    rw [hP] at hz7
    have HEF : Hid (efC (doneE en.1 mo base [ma, mb, mc, fm]) = 0) := hz7
    clear hz7
    obtain ⟨sx, HSX⟩ : ∃ sx, Hid (sx = secsN base (digM ([ma, mb, mc, fm].take 3))) := ⟨_, rfl⟩
    have HU2 : Hid (usr = [.int .i64 0, .int .i64 en.1.1, .slice pr1 en.1.2.1.length qr1, .int .i64 en.1.2.2.1, .slice pr2 en.1.2.2.2.length qr2, .int .i64 3, .int .i64 mo, .slice pr3 4 qr3, .slice pr4 base.length qr4, .slice pr5 sx.1.length qr5, .slice pr6 sx.2.1.length qr6, .slice pr7 sx.2.2.1.length qr7, .slice pr8 sx.2.2.2.length qr8, .slice prs 1 qrs]) := by show _ = _; rw [HUr.out, hP, HSX.out]; rfl
    have kr := Kr
    rw [HU2.out, hP] at kr
    obtain ⟨fe, fd, ke, -, -, -⟩ := endR_parts2 (r := (0, (doneE en.1 mo base [ma, mb, mc, fm]), [fm])) (us := [.int .i64 en.1.1, .slice pr1 en.1.2.1.length qr1, .int .i64 en.1.2.2.1, .slice pr2 en.1.2.2.2.length qr2, .int .i64 3, .int .i64 mo, .slice pr3 4 qr3, .slice pr4 base.length qr4, .slice pr5 sx.1.length qr5, .slice pr6 sx.2.1.length qr6, .slice pr7 sx.2.2.1.length qr7, .slice pr8 sx.2.2.2.length qr8]) kr rfl
    have HRR : Hid (endC.rep V2x (doneE en.1 mo base [ma, mb, mc, fm]) [.int .i64 en.1.1, .slice pr1 en.1.2.1.length qr1, .int .i64 en.1.2.2.1, .slice pr2 en.1.2.2.2.length qr2, .int .i64 3, .int .i64 mo, .slice pr3 4 qr3, .slice pr4 base.length qr4, .slice pr5 sx.1.length qr5, .slice pr6 sx.2.1.length qr6, .slice pr7 sx.2.2.1.length qr7, .slice pr8 sx.2.2.2.length qr8]) := endC.toRep ke
    obtain ⟨-, -, rm4, -, -, -, -, -⟩ := end_unmk (e := (en.1, 3, mo, [ma, mb, mc, fm], base, sx)) (p3 := pr3) (q3 := qr3) (by have h := HRR.out; rw [HSX.out]; rw [HSX.out] at h; exact h)
    have HEN := endC.keep HRE.out HVW.out
    obtain ⟨-, -, rm1, -, -, -, -, -⟩ := end_unmk HEN
    rw [hz3] at rm1
    have rl2 := HRL.out.keep HVW.out
    obtain ⟨g4, o4, eg4, -⟩ := rm4.2.2.2 (by simp)
    subst eg4
    have hq4 : 4 ≤ qr3 := rm4.1
    have hq5 : qr3 ≤ 2 ^ 63 - 1 := rm4.2.1
    subst hz4
    have KE : Hid (∀ W, Below V2x.heap.size V2x W → Calls Tryz.prog 13 #[.agg #[.int .i64 en.1.1, .slice pr1 en.1.2.1.length qr1, .int .i64 en.1.2.2.1, .slice pr2 en.1.2.2.2.length qr2, .int .i64 3, .int .i64 mo, .slice (some ⟨g4, o4, none⟩) 4 qr3, .slice pr4 base.length qr4, .slice pr5 sx.1.length qr5, .slice pr6 sx.2.1.length qr6, .slice pr7 sx.2.2.1.length qr7, .slice pr8 sx.2.2.2.length qr8]] W fun e w' => e = .returned (.int .i64 0) ∧ Below W.heap.size W w') := fun W hb => by have h := implEf_k (doneE en.1 mo base [ma, mb, mc, fm]) _ W (endC.keep HRR.out hb); rw [HEF.out] at h; exact h
    have KS1 : Hid (∀ W, Below V2x.heap.size V2x W → Calls Tryz.prog 12 #[.slice (some ⟨g4, o4, none⟩) 1 qr3, .slice pn3 1 qn3] W fun e w' => e = .returned (.bool true) ∧ Below W.heap.size W w') := fun W hb => by have h := implSM_c [ma] [ma] _ _ _ _ W ((rm4.take 1).keep hb) (rm1.keep hb); rw [show sameM [ma] [ma] = true by simp [sameM]] at h; exact h
    have KS2 : Hid (∀ W, Below V2x.heap.size V2x W → Calls Tryz.prog 12 #[.slice (some ⟨g4, o4 + 2, none⟩) 2 (qr3 - 1), .slice p9 2 q9] W fun e w' => e = .returned (.bool true) ∧ Below W.heap.size W w') := fun W hb => by have h := implSM_c [mb, mc] [mb, mc] _ _ _ _ W (((rm4.drop 1 (by simp)).take 2).keep hb) (rl2.keep hb); rw [show sameM [mb, mc] [mb, mc] = true by simp [sameM]] at h; exact h
    have n0 := HW.at ((Nr.cell 0).trans (show _ = some (.int .i64 0) by rw [HU2.out]; rfl))
    have n1 := HW.at ((Nr.cell 1).trans (show _ = some (.int .i64 en.1.1) by rw [HU2.out]; rfl))
    have n2 := HW.at ((Nr.cell 2).trans (show _ = some (.slice pr1 en.1.2.1.length qr1) by rw [HU2.out]; rfl))
    have n3 := HW.at ((Nr.cell 3).trans (show _ = some (.int .i64 en.1.2.2.1) by rw [HU2.out]; rfl))
    have n4 := HW.at ((Nr.cell 4).trans (show _ = some (.slice pr2 en.1.2.2.2.length qr2) by rw [HU2.out]; rfl))
    have n5 := HW.at ((Nr.cell 5).trans (show _ = some (.int .i64 3) by rw [HU2.out]; rfl))
    have n6 := HW.at ((Nr.cell 6).trans (show _ = some (.int .i64 mo) by rw [HU2.out]; rfl))
    have n7 := HW.at ((Nr.cell 7).trans (show _ = some (.slice (some ⟨g4, o4, none⟩) 4 qr3) by rw [HU2.out]; rfl))
    have n8 := HW.at ((Nr.cell 8).trans (show _ = some (.slice pr4 base.length qr4) by rw [HU2.out]; rfl))
    have n9 := HW.at ((Nr.cell 9).trans (show _ = some (.slice pr5 sx.1.length qr5) by rw [HU2.out]; rfl))
    have n10 := HW.at ((Nr.cell 10).trans (show _ = some (.slice pr6 sx.2.1.length qr6) by rw [HU2.out]; rfl))
    have n11 := HW.at ((Nr.cell 11).trans (show _ = some (.slice pr7 sx.2.2.1.length qr7) by rw [HU2.out]; rfl))
    have n12 := HW.at ((Nr.cell 12).trans (show _ = some (.slice pr8 sx.2.2.2.length qr8) by rw [HU2.out]; rfl))
    have n13 := HW.at ((Nr.cell 13).trans (show _ = some (.slice prs 1 qrs) by rw [HU2.out]; rfl))
    have x6 := HW.at ((X.cell 6).trans (show _ = some (.slice pn3 1 qn3) by rw [show en.2.2.2.1.length = 1 by rw [hz3]; rfl]; rfl))
    have hne := HW.some V2x
    have BV := Below.refl V2x.heap.size V2x
    clear kr ke rm4 rm1 rl2 HEN Kr hz3 hP X Nr
    as_aux_lemma =>
      refine wp_region_pick [0, 1, 2, 3, 4, 5] 46 40 1 rfl rfl rfl (by as_aux_lemma => kernel_rfl) (by as_aux_lemma => kernel_rfl) (by as_aux_lemma => kernel_rfl) (by as_aux_lemma => kernel_rfl) ?_
      simp only [opsAt, List.getElem?_toArray, List.getElem?_cons_zero, List.getElem?_cons_succ]
      repeat (go_big_quiet_step (fail))
      refine wpQuiet_nil ?_
      refine wpM_only (i := 6) (by as_aux_lemma => kernel_rfl) ?_
      refine mOp_call rfl (by go_simp) 13 _ #[.agg #[.int .i64 en.1.1, .slice pr1 en.1.2.1.length qr1, .int .i64 en.1.2.2.1, .slice pr2 en.1.2.2.2.length qr2, .int .i64 3, .int .i64 mo, .slice (some ⟨g4, o4, none⟩) 4 qr3, .slice pr4 base.length qr4, .slice pr5 sx.1.length qr5, .slice pr6 sx.2.1.length qr6, .slice pr7 sx.2.2.1.length qr7, .slice pr8 sx.2.2.2.length qr8]] (fun w => by go_simp) rfl ?_
      rintro _ ⟨sg, rfl⟩
      refine (KE.out _ (Below.step BV sg.h)).mono ?_
      rintro e wg0 ⟨rfl, hbx⟩
      have hbg := Below.step sg.h hbx
      refine ⟨_, rfl, ⟨⟨wg0, hbx⟩, rfl⟩, ?_⟩
      replace n0 := HW.down n0 hbg
      replace n1 := HW.down n1 hbg
      replace n2 := HW.down n2 hbg
      replace n3 := HW.down n3 hbg
      replace n4 := HW.down n4 hbg
      replace n5 := HW.down n5 hbg
      replace n6 := HW.down n6 hbg
      replace n7 := HW.down n7 hbg
      replace n8 := HW.down n8 hbg
      replace n9 := HW.down n9 hbg
      replace n10 := HW.down n10 hbg
      replace n11 := HW.down n11 hbg
      replace n12 := HW.down n12 hbg
      replace n13 := HW.down n13 hbg
      replace x6 := HW.down x6 hbg
      replace BV := Below.step BV hbg
      replace hne := HW.some wg0
      clear hbg hbx sg
      refine wpM_more [7, 8, 9, 10, 11, 12, 13, 14, 15, 16, 17, 18, 19, 20, 21, 22, 23, 24, 25, 26, 27, 28, 29, 30, 31, 32, 33] 39 12 rfl (by as_aux_lemma => kernel_rfl) (by as_aux_lemma => kernel_rfl) (by as_aux_lemma => kernel_rfl) (by as_aux_lemma => kernel_rfl) ?_
      simp only [opsAt, List.getElem?_toArray, List.getElem?_cons_zero, List.getElem?_cons_succ]
      go_simp
      repeat (go_big_quiet_step (fail))
      refine wpQuiet_nil ?_
      refine wpM_only (i := 34) (by as_aux_lemma => kernel_rfl) ?_
      refine mOp_call rfl (by go_simp) 12 _ #[.slice (some ⟨g4, o4, none⟩) 1 qr3, .slice pn3 1 qn3] (fun w => by go_simp) rfl ?_
      rintro _ ⟨sg, rfl⟩
      refine (KS1.out _ (Below.step BV sg.h)).mono ?_
      rintro e wg1 ⟨rfl, hbx⟩
      have hbg := Below.step sg.h hbx
      refine ⟨_, rfl, ⟨⟨wg1, hbx⟩, rfl⟩, ?_⟩
      replace n0 := HW.down n0 hbg
      replace n1 := HW.down n1 hbg
      replace n2 := HW.down n2 hbg
      replace n3 := HW.down n3 hbg
      replace n4 := HW.down n4 hbg
      replace n5 := HW.down n5 hbg
      replace n6 := HW.down n6 hbg
      replace n7 := HW.down n7 hbg
      replace n8 := HW.down n8 hbg
      replace n9 := HW.down n9 hbg
      replace n10 := HW.down n10 hbg
      replace n11 := HW.down n11 hbg
      replace n12 := HW.down n12 hbg
      replace n13 := HW.down n13 hbg
      replace x6 := HW.down x6 hbg
      replace BV := Below.step BV hbg
      replace hne := HW.some wg1
      clear hbg hbx sg
      refine wpM_more [35, 36, 37, 38, 39, 40, 41, 42] 11 3 rfl (by as_aux_lemma => kernel_rfl) (by as_aux_lemma => kernel_rfl) (by as_aux_lemma => kernel_rfl) (by as_aux_lemma => kernel_rfl) ?_
      simp only [opsAt, List.getElem?_toArray, List.getElem?_cons_zero, List.getElem?_cons_succ]
      go_simp
      repeat (go_big_quiet_step (fail))
      refine wpQuiet_nil ?_
      refine wpM_only (i := 43) (by as_aux_lemma => kernel_rfl) ?_
      refine mOp_call rfl (by go_simp) 12 _ #[.slice (some ⟨g4, o4 + 2, none⟩) 2 (qr3 - 1), .slice p9 2 q9] (fun w => by go_simp) rfl ?_
      rintro _ ⟨sg, rfl⟩
      refine (KS2.out _ (Below.step BV sg.h)).mono ?_
      rintro e wg2 ⟨rfl, hbx⟩
      have hbg := Below.step sg.h hbx
      refine ⟨_, rfl, ⟨⟨wg2, hbx⟩, rfl⟩, ?_⟩
      replace n0 := HW.down n0 hbg
      replace n1 := HW.down n1 hbg
      replace n2 := HW.down n2 hbg
      replace n3 := HW.down n3 hbg
      replace n4 := HW.down n4 hbg
      replace n5 := HW.down n5 hbg
      replace n6 := HW.down n6 hbg
      replace n7 := HW.down n7 hbg
      replace n8 := HW.down n8 hbg
      replace n9 := HW.down n9 hbg
      replace n10 := HW.down n10 hbg
      replace n11 := HW.down n11 hbg
      replace n12 := HW.down n12 hbg
      replace n13 := HW.down n13 hbg
      replace x6 := HW.down x6 hbg
      replace BV := Below.step BV hbg
      replace hne := HW.some wg2
      clear hbg hbx sg
      refine wpM_more [44, 45] 2 0 rfl (by as_aux_lemma => kernel_rfl) (by as_aux_lemma => kernel_rfl) (by as_aux_lemma => kernel_rfl) (by as_aux_lemma => kernel_rfl) ?_
      simp only [opsAt, List.getElem?_toArray, List.getElem?_cons_zero, List.getElem?_cons_succ]
      go_simp
      repeat (go_big_quiet_step (fail))
      refine wpQuiet_nil ?_
      refine wpM_end (by as_aux_lemma => kernel_rfl) rfl (by as_aux_lemma => kernel_rfl) (by decide) ?_
      rintro _ ⟨sgz, rfl⟩
      simp only [List.drop_succ_cons, List.drop_zero]
      go_simp
      replace BV := Below.step BV sgz.h
      clear hne n0 n1 n2 n3 n4 n5 n6 n7 n8 n9 n10 n11 n12 n13 x6
      generalize sgz.w = V3 at *
      clear sgz
      replace BW := Below.step BW BV
      clear h1
      go_wp2_with fail
      exact JN.out _ _ ⟨_, _, _, _, _, _, _, _, _, _, _, _, _, _, _, _, _, _, _, _, _, _, _, _, _, _, _, _, _, _, _, _, _, _, _, _, _, _, _, _, _, _, _, _, _, _, _, _, _, _, _, _, _, _, _, _, _, _, _, _, _, _, _, _, _, _, _, rfl, BW⟩
  · have dD : (D.1 == 0) = false := by rw [beq_eq_false_iff_ne]; exact hD0
    clear hD0
    have n0 := HW.at ((Nr.cell 0).trans (show _ = some (.int .i64 D.1) by rw [HUr.out]; rfl))
    have hne := HW.some V2x
    have BV := Below.refl V2x.heap.size V2x
    clear Kr X Nr
    as_aux_lemma =>
      refine wp_region_pick [0, 1, 2, 3, 4, 5] 46 40 1 rfl rfl rfl (by as_aux_lemma => kernel_rfl) (by as_aux_lemma => kernel_rfl) (by as_aux_lemma => kernel_rfl) (by as_aux_lemma => kernel_rfl) ?_
      simp only [opsAt, List.getElem?_toArray, List.getElem?_cons_zero, List.getElem?_cons_succ]
      repeat (go_big_quiet_step (fail))
      refine wpQuiet_nil ?_
      refine wpM_only (i := 6) (by as_aux_lemma => kernel_rfl) ?_
      refine mOp_skip rfl (by as_aux_lemma => kernel_rfl) ?_
      refine wpM_more [7, 8, 9, 10, 11, 12, 13, 14, 15, 16, 17, 18, 19, 20, 21, 22, 23, 24, 25, 26, 27, 28, 29, 30, 31, 32, 33] 39 12 rfl (by as_aux_lemma => kernel_rfl) (by as_aux_lemma => kernel_rfl) (by as_aux_lemma => kernel_rfl) (by as_aux_lemma => kernel_rfl) ?_
      simp only [opsAt, List.getElem?_toArray, List.getElem?_cons_zero, List.getElem?_cons_succ]
      go_simp
      repeat (go_big_quiet_step (fail))
      refine wpQuiet_nil ?_
      refine wpM_only (i := 34) (by as_aux_lemma => kernel_rfl) ?_
      refine mOp_skip rfl (by as_aux_lemma => kernel_rfl) ?_
      refine wpM_more [35, 36, 37, 38, 39, 40, 41, 42] 11 3 rfl (by as_aux_lemma => kernel_rfl) (by as_aux_lemma => kernel_rfl) (by as_aux_lemma => kernel_rfl) (by as_aux_lemma => kernel_rfl) ?_
      simp only [opsAt, List.getElem?_toArray, List.getElem?_cons_zero, List.getElem?_cons_succ]
      go_simp
      repeat (go_big_quiet_step (fail))
      refine wpQuiet_nil ?_
      refine wpM_only (i := 43) (by as_aux_lemma => kernel_rfl) ?_
      refine mOp_skip rfl (by as_aux_lemma => kernel_rfl) ?_
      refine wpM_more [44, 45] 2 0 rfl (by as_aux_lemma => kernel_rfl) (by as_aux_lemma => kernel_rfl) (by as_aux_lemma => kernel_rfl) (by as_aux_lemma => kernel_rfl) ?_
      simp only [opsAt, List.getElem?_toArray, List.getElem?_cons_zero, List.getElem?_cons_succ]
      go_simp
      repeat (go_big_quiet_step (fail))
      refine wpQuiet_nil ?_
      refine wpM_end (by as_aux_lemma => kernel_rfl) rfl (by as_aux_lemma => kernel_rfl) (by decide) ?_
      rintro _ ⟨sgz, rfl⟩
      simp only [List.drop_succ_cons, List.drop_zero]
      go_simp
      replace BV := Below.step BV sgz.h
      clear hne n0
      generalize sgz.w = V3 at *
      clear sgz
      replace BW := Below.step BW BV
      clear h1
      go_wp2_with fail
      exact JN.out _ _ ⟨_, _, _, _, _, _, _, _, _, _, _, _, _, _, _, _, _, _, _, _, _, _, _, _, _, _, _, _, _, _, _, _, _, _, _, _, _, _, _, _, _, _, _, _, _, _, _, _, _, _, _, _, _, _, _, _, _, _, _, _, _, _, _, _, _, _, _, rfl, BW⟩
end Go.Proofs.YtiabacnmmojfjaaGreatDoor

