/- The walk of FnFinished, where the two tables hold what the program's text lays. -/
import Derived.Test.YtpbkncliepkhaaaDoorDrawHf
import Derived.Test.YtpbkncliepkhaaaDoorJoint16
import Derived.Test.YtpbkncliepkhaaaDoorJoint18
import Derived.Test.YtpbkncliepkhaaaDoorJoint15
import Derived.Test.YtpbkncliepkhaaaDoorJoint13
import Derived.Test.YtpbkncliepkhaaaDoorOdd
import Derived.Test.YtpbkncliepkhaaaDoorPick
import Derived.Test.YtpbkncliepkhaaaDoorJoint14
namespace Go.Proofs.YtpbkncliepkhaaaDoor
open Go.ChangeShapes Go.WideShapes Go.ChangeAt Go.RowKit

theorem fm_parts {s : List UInt8} {l : List MsgD} (h : fmC s l = 0) : s.length = 32 ∧ psC l = 0 := by
  unfold fmC at h
  by_cases h1 : is32 s = true
  · rw [if_pos h1] at h
    exact ⟨by simpa [is32] using h1, h⟩
  · rw [if_neg h1] at h; cases h
theorem cf_yes {s : List UInt8} {l : List MsgD} (h : fmC s l = 0) : cfC s l (20, fmL s l) = 0 := by
  unfold cfC
  rw [if_pos h, show (fmL s l).length = 32 from finN_len _ _]
  simp only [show faultW 20 32 = 0 from rfl, if_true]
theorem cf_no {s : List UInt8} {l : List MsgD} {km : Int} {mb : List UInt8} (h : fmC s l = 0) (hne : ¬ (20, fmL s l) = (km, mb)) : ¬ cfC s l (km, mb) = 0 := by
  intro h0
  unfold cfC at h0
  rw [if_pos h] at h0
  by_cases h1 : faultW km mb.length = 0
  · simp only [if_pos h1] at h0
    by_cases h2 : km = 20
    · rw [if_pos h2] at h0
      by_cases h3 : mb = fmL s l
      · exact hne (by rw [h2, h3])
      · rw [if_neg h3] at h0; cases h0
    · rw [if_neg h2] at h0; cases h0
  · simp only [if_neg h1] at h0
    exact h1 h0

set_option maxRecDepth 4000 in
set_option maxHeartbeats 8000000 in
theorem fnFinished_walk (a : Option Addr) (cap : Nat) (bs0 : List UInt8) (w : World) (r0 : Rd w a cap bs0) (hT : Tabs w) :
    Calls Tryd.prog 3 #[.slice a bs0.length cap] w fun e w' => e = .returned (.bool true) ∧ Below w.heap.size w w' := by
  by_cases hl0 : 1048576 < bs0.length
  · go_enter Tryd.func3, Tryd.ntmps3
    go_wp2_with fail
    refine (lwBig_yes _ _ _ _ hl0).mono ?_
    rintro e w1 ⟨rfl, rfl⟩
    go_wp2
    go_ret
    exact ⟨rfl, Below.refl _ _⟩
  replace hl0 : bs0.length ≤ 1048576 := by omega
  go_enter Tryd.func3, Tryd.ntmps3
  go_wp2_with fail
  refine (lwBig_no _ _ _ _ hl0).mono ?_
  rintro e w1 ⟨rfl, hw1⟩
  rw [hw1]
  clear hw1 w1
  go_wp2_with fail
  refine (drawCF_c _ _ bs0 _ r0).mono ?_
  rintro e w1 ⟨ps, qs, s, pl, ql, l, km, pm, qm, mb, rfl, -, -, -, -, -, -, rs, rl, rm, BW⟩
  have BA := alloc_below w1 (.cells #[.int .i64 km, .slice pm mb.length qm] 26)
  have A := Arr.new w1 [.int .i64 km, .slice pm mb.length qm] 26
  replace rm := rm.keep BA
  replace rs := rs.keep BA
  replace rl := rl.keep BA
  have HT : Hid (Tabs (w1.alloc (.cells #[.int .i64 km, .slice pm mb.length qm] 26))) := (hT.keep BW).keep BA
  replace BW := Below.step BW BA
  obtain ⟨c, HC⟩ : ∃ c, Hid (c = cfC s l (km, mb)) := ⟨_, rfl⟩
  have KC : Hid (∀ w, Rd w ps qs s → RdL msgC w pl ql l → Rd w pm qm mb → Tabs w → Calls Tryd.prog 8 #[.slice ps s.length qs, .slice pl l.length ql, .agg #[.int .i64 km, .slice pm mb.length qm]] w fun e w' => e = .returned (.int .i64 c) ∧ Below w.heap.size w w') := fun w h1 h2 h3 ht => by
    have g := implCf_kk s l (km, mb) _ _ _ w ⟨ps, qs, rfl, h1⟩ ⟨pl, ql, rfl, h2⟩ (msg_mk (a := (km, mb)) h3) ht
    rw [← HC.out] at g
    exact g
  have KD : Hid (∀ w, Rd w ps qs s → RdL msgC w pl ql l → Rd w pm qm mb → Calls Tryd.prog 10 #[.slice ps s.length qs, .slice pl l.length ql, .agg #[.int .i64 km, .slice pm mb.length qm]] w fun e w' => e = .returned (.int .i64 c) ∧ Below w.heap.size w w') := fun w h1 h2 h3 => by
    have g := specCf_c s l (km, mb) ps pl pm qs ql qm w h1 h2 h3
    rw [← HC.out] at g
    exact g
  clear hl0 BA r0 hT
  by_cases hc : fmC s l = 0
  · obtain ⟨h32, hps⟩ := fm_parts hc
    obtain ⟨fb, HFB⟩ : ∃ fb, Hid (fb = fmL s l) := ⟨_, rfl⟩
    obtain ⟨dg, HDG⟩ : ∃ dg, Hid (dg = digestN (packAll l)) := ⟨_, rfl⟩
    have HDL : Hid (dg.length = 32) := by show _ = _; rw [HDG.out]; exact digestN_len _
    have HFL : Hid (fb.length = 32) := by show _ = _; rw [HFB.out]; exact finN_len _ _
    have KF : Hid (∀ w, Rd w ps qs s → RdL msgC w pl ql l → Tabs w → Calls Tryd.prog 7 #[.slice ps s.length qs, .slice pl l.length ql] w fun e w' => ∃ p9 q9, e = .returned (.agg #[.int .i64 0, .int .i64 20, .slice p9 fb.length q9]) ∧ Rd w' p9 q9 fb ∧ Below w.heap.size w w') := fun w h1 h2 ht => by
      refine (implFm_kk s l _ _ w ⟨ps, qs, rfl, h1⟩ ⟨pl, ql, rfl, h2⟩ ht).mono ?_
      rintro e w' ⟨us, fp, rfl, ko, hb⟩
      rw [fmD_ok hc, ← HFB.out] at ko
      obtain ⟨p9, q9, rfl, r1⟩ := msgResult_rep (msgResultC.toRep ko)
      exact ⟨p9, q9, rfl, r1, hb⟩
    have KT : Hid (∀ w, RdL msgC w pl ql l → Tabs w → Calls Tryd.prog 11 #[.slice pl l.length ql] w fun e w' => ∃ p9 q9, e = .returned (.agg #[.int .i64 0, .slice p9 dg.length q9]) ∧ Rd w' p9 q9 dg ∧ Below w.heap.size w w') := fun w h2 ht => by
      refine (implTr_k l _ w ⟨pl, ql, rfl, h2⟩ ht).mono ?_
      rintro e w' ⟨us, fp, rfl, ko, hb⟩
      rw [hps, trL, if_pos hps, ← HDG.out] at ko
      obtain ⟨p9, q9, rfl, r1⟩ := bytesResult_rep (bytesResultC.toRep ko)
      exact ⟨p9, q9, rfl, r1, hb⟩
    have KY : Hid (∀ w p9 q9, Rd w ps qs s → RdL msgC w pl ql l → Rd w p9 q9 fb → Tabs w → Calls Tryd.prog 8 #[.slice ps s.length qs, .slice pl l.length ql, .agg #[.int .i64 20, .slice p9 fb.length q9]] w fun e w' => e = .returned (.int .i64 0) ∧ Below w.heap.size w w') := fun w p9 q9 h1 h2 h3 ht => by
      have g := implCf_kk s l (20, fb) _ _ _ w ⟨ps, qs, rfl, h1⟩ ⟨pl, ql, rfl, h2⟩ (msg_mk (a := (20, fb)) h3) ht
      rw [HFB.out, cf_yes hc, ← HFB.out] at g
      exact g
    have KN : Hid (∀ w p9 q9, Rd w ps qs s → Rd w p9 q9 dg → Tabs w → Calls Tryd.prog 14 #[.slice ps s.length qs, .slice p9 dg.length q9] w fun e w' => ∃ p8 q8, e = .returned (.agg #[.int .i64 0, .slice p8 fb.length q8]) ∧ Rd w' p8 q8 fb ∧ Below w.heap.size w w') := fun w p9 q9 h1 h2 ht => by
      have g := implFn_c ps p9 qs q9 s dg w h1 h2 ht
      rw [fnC, fnL, if_pos ⟨h32, HDL.out⟩, if_pos ⟨h32, HDL.out⟩, show finN s dg = fb by rw [HFB.out, HDG.out]; rfl] at g
      refine g.mono ?_
      rintro e w' ⟨u, rfl, k, hb⟩
      obtain ⟨p8, q8, rfl, r8⟩ := k.rd
      exact ⟨p8, q8, rfl, r8, hb⟩
    have KS : Hid (∀ w b1 b2, RdL msgC w (some ⟨b1, 0, none⟩) 1 [(20, fb)] → RdL msgC w (some ⟨b2, 0, none⟩) 1 [(km, mb)] → Calls Tryd.prog 12 #[.slice (some ⟨b1, 0, none⟩) 1 1, .slice (some ⟨b2, 0, none⟩) 1 1] w fun e w' => e = .returned (.bool (sameM [(20, fb)] [(km, mb)])) ∧ Below w.heap.size w w') := fun w b1 b2 h1 h2 => implSM_c _ _ _ _ _ _ w h1 h2
    have HCR : Hid ((sameM [(20, fb)] [(km, mb)] = true ∧ c = 0) ∨ (sameM [(20, fb)] [(km, mb)] = false ∧ ¬ c = 0)) := by
      show _ ∨ _
      by_cases h : (20, fmL s l) = (km, mb)
      · refine .inl ⟨?_, ?_⟩
        · rw [HFB.out, ← h]; simp [sameM]
        · rw [HC.out, ← h]; exact cf_yes hc
      · refine .inr ⟨?_, ?_⟩
        · rw [HFB.out]
          simp only [sameM, decide_eq_false_iff_not]
          intro e
          exact h (List.cons.inj e).1
        · rw [HC.out]; exact cf_no hc h
    clear hc h32 hps HFB HDG HC
    go_wp2_with fail
    refine (KF.out _ rs rl HT.out).mono ?_
    rintro e w2 ⟨p9, q9, rfl, r9, hb2⟩
    have BL := alloc_below w2 (.cells #[.int .i64 0, .int .i64 20, .slice p9 fb.length q9] 30)
    have S := Arr.new w2 [.int .i64 0, .int .i64 20, .slice p9 fb.length q9] 30
    have hb3 := Below.step hb2 BL
    replace A := A.stay hb3
    replace rm := rm.keep hb3
    replace rs := rs.keep hb3
    replace rl := rl.keep hb3
    replace r9 := r9.keep BL
    replace BW := Below.step BW hb3
    replace HT : Hid (Tabs (w2.alloc (.cells #[.int .i64 0, .int .i64 20, .slice p9 fb.length q9] 30))) := HT.out.keep hb3
    have cA0 := (A.cell 0).trans (show _ = some _ from rfl)
    have cA1 := (A.cell 1).trans (show _ = some _ from rfl)
    clear hb2 BL hb3 KF
    go_wp2_with fail
    refine (KC.out _ rs rl rm HT.out).mono ?_
    rintro e w3 ⟨rfl, hb3⟩
    replace A := A.stay hb3
    replace S := S.stay hb3
    replace rm := rm.keep hb3
    replace rs := rs.keep hb3
    replace rl := rl.keep hb3
    replace r9 := r9.keep hb3
    replace BW := Below.step BW hb3
    replace HT : Hid (Tabs w3) := HT.out.keep hb3
    have cS0 := (S.cell 0).trans (show _ = some _ from rfl)
    clear cA0 cA1 hb3 KC
    go_wp2_with fail
    refine (KT.out _ rl HT.out).mono ?_
    rintro e w4 ⟨p7, q7, rfl, r7, hb4⟩
    have BL := alloc_below w4 (.cells #[.int .i64 0, .slice p7 dg.length q7] 34)
    have D := Arr.new w4 [.int .i64 0, .slice p7 dg.length q7] 34
    have hb5 := Below.step hb4 BL
    replace A := A.stay hb5
    replace S := S.stay hb5
    replace rm := rm.keep hb5
    replace rs := rs.keep hb5
    replace rl := rl.keep hb5
    replace r9 := r9.keep hb5
    replace r7 := r7.keep BL
    replace BW := Below.step BW hb5
    replace HT : Hid (Tabs (w4.alloc (.cells #[.int .i64 0, .slice p7 dg.length q7] 34))) := HT.out.keep hb5
    have cA0 := (A.cell 0).trans (show _ = some _ from rfl)
    have cA1 := (A.cell 1).trans (show _ = some _ from rfl)
    clear cS0 hb4 BL hb5 KT
    have cS1 := (S.cell 1).trans (show _ = some _ from rfl)
    have cS2 := (S.cell 2).trans (show _ = some _ from rfl)
    have B1 := alloc_below (w4.alloc (.cells #[.int .i64 0, .slice p7 dg.length q7] 34)) (.cells #[.int .i64 20, .slice p9 fb.length q9] 26)
    have cB0 := cell_keep cA0 B1
    have cB1 := cell_keep cA1 B1
    have L1 := rdL_one _ 20 p9 q9 fb r9
    have L2 := rdL_one _ km pm qm mb (rm.keep B1)
    rw [size_alloc] at L1
    rw [size_alloc, size_alloc] at L2
    have B2 := alloc_below ((w4.alloc (.cells #[.int .i64 0, .slice p7 dg.length q7] 34)).alloc (.cells #[.int .i64 20, .slice p9 fb.length q9] 26)) (.cells #[.int .i64 km, .slice pm mb.length qm] 26)
    have BB := Below.step B1 B2
    replace L1 := L1.keep B2
    replace A := A.stay BB
    replace S := S.stay BB
    replace D := D.stay BB
    replace rm := rm.keep BB
    replace rs := rs.keep BB
    replace rl := rl.keep BB
    replace r9 := r9.keep BB
    replace r7 := r7.keep BB
    replace BW := Below.step BW BB
    have HT2 : Hid (Tabs _) := HT.out.keep BB
    clear B1 B2 BB
    go_wp2_with fail
    clear cA0 cA1 cS1 cS2 cB0 cB1 HT
    refine (KS.out _ _ _ L1 L2).mono ?_
    rintro e w5 ⟨rfl, hb6⟩
    replace A := A.stay hb6
    replace S := S.stay hb6
    replace D := D.stay hb6
    replace rm := rm.keep hb6
    replace rs := rs.keep hb6
    replace rl := rl.keep hb6
    replace r9 := r9.keep hb6
    replace r7 := r7.keep hb6
    replace BW := Below.step BW hb6
    have HT : Hid (Tabs w5) := HT2.out.keep hb6
    clear L1 L2 hb6 HT2 KS
    generalize sameM [(20, fb)] [(km, mb)] = rt at *
    have hdl := HDL.out
    go_wp2_with fail
    have g0 := HW.at ((A.cell 0).trans (show _ = some _ from rfl))
    have g1 := HW.at ((A.cell 1).trans (show _ = some _ from rfl))
    have g2 := HW.at ((S.cell 0).trans (show _ = some _ from rfl))
    have g3 := HW.at ((S.cell 1).trans (show _ = some _ from rfl))
    have g4 := HW.at ((S.cell 2).trans (show _ = some _ from rfl))
    have g5 := HW.at ((D.cell 0).trans (show _ = some _ from rfl))
    have g6 := HW.at ((D.cell 1).trans (show _ = some _ from rfl))
    have hne := HW.some w5
    have bf1 := bytes_f1
    clear A S D
    rcases HCR.out with ⟨rfl, rfl⟩ | ⟨rfl, hcn⟩
    · skip
      refine wp_region_pick [0, 1, 2, 3, 4, 5, 6, 7, 8] 48 39 1 rfl rfl rfl (by kernel_rfl) (by kernel_rfl) (by kernel_rfl) (by kernel_rfl) ?_
      simp only [opsAt, List.getElem?_toArray, List.getElem?_cons_zero, List.getElem?_cons_succ]
      repeat (go_big_quiet_step (fail))
      refine wpQuiet_nil ?_
      refine wpM_only (i := 9) (by kernel_rfl) ?_
      refine mOp_call rfl (by go_simp) 8 _ #[.slice ps s.length qs, .slice pl l.length ql, .agg #[.int .i64 20, .slice p9 fb.length q9]] (fun w => by go_simp) rfl ?_
      rintro _ ⟨sg, rfl⟩
      refine (KY.out _ p9 q9 (rs.keep sg.h) (rl.keep sg.h) (r9.keep sg.h) (HT.out.keep sg.h)).mono ?_
      rintro e w6 ⟨rfl, hbx⟩
      have hbg := Below.step sg.h hbx
      refine ⟨_, rfl, ⟨⟨w6, hbx⟩, rfl⟩, ?_⟩
      replace g0 := HW.down g0 hbg
      replace g1 := HW.down g1 hbg
      replace g2 := HW.down g2 hbg
      replace g3 := HW.down g3 hbg
      replace g4 := HW.down g4 hbg
      replace g5 := HW.down g5 hbg
      replace g6 := HW.down g6 hbg
      replace rs := rs.keep hbg
      replace rl := rl.keep hbg
      replace rm := rm.keep hbg
      replace r9 := r9.keep hbg
      replace r7 := r7.keep hbg
      replace HT : Hid (Tabs w6) := HT.out.keep hbg
      replace BW := Below.step BW hbg
      replace hne := HW.some w6
      clear hbg hbx sg
      refine wpM_more [10, 11, 12, 13, 14, 15, 16, 17, 18, 19, 20, 21, 22, 23, 24, 25, 26, 27, 28, 29] 38 18 rfl (by kernel_rfl) (by kernel_rfl) (by kernel_rfl) (by kernel_rfl) ?_
      simp only [opsAt, List.getElem?_toArray, List.getElem?_cons_zero, List.getElem?_cons_succ]
      go_simp
      repeat (go_big_quiet_step (fail))
      refine wpQuiet_nil ?_
      refine wpM_only (i := 30) (by kernel_rfl) ?_
      refine mOp_call rfl (by go_simp) 14 _ #[.slice ps s.length qs, .slice p7 dg.length q7] (fun w => by go_simp) rfl ?_
      rintro _ ⟨sg, rfl⟩
      refine (KN.out _ p7 q7 (rs.keep sg.h) (r7.keep sg.h) (HT.out.keep sg.h)).mono ?_
      rintro e w7 ⟨p8, q8, rfl, r8, hbx⟩
      have hbg := Below.step sg.h hbx
      refine ⟨_, rfl, ⟨⟨w7, hbx⟩, rfl⟩, ?_⟩
      replace g0 := HW.down g0 hbg
      replace g1 := HW.down g1 hbg
      replace g2 := HW.down g2 hbg
      replace g3 := HW.down g3 hbg
      replace g4 := HW.down g4 hbg
      replace g5 := HW.down g5 hbg
      replace g6 := HW.down g6 hbg
      replace rs := rs.keep hbg
      replace rl := rl.keep hbg
      replace rm := rm.keep hbg
      replace r9 := r9.keep hbg
      replace r7 := r7.keep hbg
      replace HT : Hid (Tabs w7) := HT.out.keep hbg
      replace BW := Below.step BW hbg
      replace hne := HW.some w7
      clear hbg hbx sg
      refine wpM_more [31] 17 16 rfl (by kernel_rfl) (by kernel_rfl) (by kernel_rfl) (by kernel_rfl) ?_
      simp only [opsAt, List.getElem?_toArray, List.getElem?_cons_zero, List.getElem?_cons_succ]
      go_simp
      repeat (go_big_quiet_step (fail))
      refine wpQuiet_nil ?_
      refine wpM_only (i := 32) (by kernel_rfl) ?_
      refine mOp_call rfl (by go_simp) 13 _ #[.slice p9 fb.length q9, .slice p8 fb.length q8] (fun w => by go_simp) rfl ?_
      rintro _ ⟨sg, rfl⟩
      refine (lwSame_yes p9 p8 q9 q8 _ _ fb _ rfl rfl (r9.keep sg.h) (r8.keep sg.h)).mono ?_
      rintro e w8 ⟨rfl, hwx⟩
      subst hwx
      refine ⟨_, rfl, ⟨⟨sg.w, Below.refl _ _⟩, rfl⟩, ?_⟩
      have hbg : Below _ _ sg.w := sg.h
      replace g0 := HW.down g0 hbg
      replace g1 := HW.down g1 hbg
      replace g2 := HW.down g2 hbg
      replace g3 := HW.down g3 hbg
      replace g4 := HW.down g4 hbg
      replace g5 := HW.down g5 hbg
      replace g6 := HW.down g6 hbg
      replace rs := rs.keep hbg
      replace rl := rl.keep hbg
      replace rm := rm.keep hbg
      replace r9 := r9.keep hbg
      replace r7 := r7.keep hbg
      replace HT : Hid (Tabs sg.w) := HT.out.keep hbg
      replace BW := Below.step BW hbg
      replace hne := HW.some sg.w
      clear hbg
      generalize sg.w = w8 at *
      clear sg
      refine wpM_more [33, 34, 35, 36, 37, 38, 39, 40, 41, 42, 43, 44] 15 3 rfl (by kernel_rfl) (by kernel_rfl) (by kernel_rfl) (by kernel_rfl) ?_
      simp only [opsAt, List.getElem?_toArray, List.getElem?_cons_zero, List.getElem?_cons_succ]
      go_simp
      repeat (go_big_quiet_step (fail))
      refine wpQuiet_nil ?_
      refine wpM_only (i := 45) (by kernel_rfl) ?_
      refine mOp_call rfl (by go_simp) 10 _ #[.slice ps s.length qs, .slice pl l.length ql, .agg #[.int .i64 km, .slice pm mb.length qm]] (fun w => by go_simp) rfl ?_
      rintro _ ⟨sg, rfl⟩
      refine (KD.out _ (rs.keep sg.h) (rl.keep sg.h) (rm.keep sg.h)).mono ?_
      rintro e w10 ⟨rfl, hbx⟩
      have hbg := Below.step sg.h hbx
      refine ⟨_, rfl, ⟨⟨w10, hbx⟩, rfl⟩, ?_⟩
      replace g0 := HW.down g0 hbg
      replace g1 := HW.down g1 hbg
      replace g2 := HW.down g2 hbg
      replace g3 := HW.down g3 hbg
      replace g4 := HW.down g4 hbg
      replace g5 := HW.down g5 hbg
      replace g6 := HW.down g6 hbg
      replace rs := rs.keep hbg
      replace rl := rl.keep hbg
      replace rm := rm.keep hbg
      replace r9 := r9.keep hbg
      replace r7 := r7.keep hbg
      replace HT : Hid (Tabs w10) := HT.out.keep hbg
      replace BW := Below.step BW hbg
      replace hne := HW.some w10
      clear hbg hbx sg
      refine wpM_more [46, 47] 2 0 rfl (by kernel_rfl) (by kernel_rfl) (by kernel_rfl) (by kernel_rfl) ?_
      simp only [opsAt, List.getElem?_toArray, List.getElem?_cons_zero, List.getElem?_cons_succ]
      go_simp
      repeat (go_big_quiet_step (fail))
      refine wpQuiet_nil ?_
      refine wpM_end (by kernel_rfl) rfl (by kernel_rfl) (by decide) ?_
      rintro _ ⟨sz, rfl⟩
      simp only [List.drop_succ_cons, List.drop_zero]
      go_wp2
      go_ret
      exact ⟨rfl, Below.step BW sz.h⟩
    · have hq : (c == 0) = false := by rw [beq_eq_false_iff_ne]; exact hcn
      refine wp_region_pick [0, 1, 2, 3, 4, 5, 6, 7, 8] 48 39 1 rfl rfl rfl (by kernel_rfl) (by kernel_rfl) (by kernel_rfl) (by kernel_rfl) ?_
      simp only [opsAt, List.getElem?_toArray, List.getElem?_cons_zero, List.getElem?_cons_succ]
      repeat (go_big_quiet_step (fail))
      refine wpQuiet_nil ?_
      refine wpM_only (i := 9) (by kernel_rfl) ?_
      refine mOp_call rfl (by go_simp) 8 _ #[.slice ps s.length qs, .slice pl l.length ql, .agg #[.int .i64 20, .slice p9 fb.length q9]] (fun w => by go_simp) rfl ?_
      rintro _ ⟨sg, rfl⟩
      refine (KY.out _ p9 q9 (rs.keep sg.h) (rl.keep sg.h) (r9.keep sg.h) (HT.out.keep sg.h)).mono ?_
      rintro e w6 ⟨rfl, hbx⟩
      have hbg := Below.step sg.h hbx
      refine ⟨_, rfl, ⟨⟨w6, hbx⟩, rfl⟩, ?_⟩
      replace g0 := HW.down g0 hbg
      replace g1 := HW.down g1 hbg
      replace g2 := HW.down g2 hbg
      replace g3 := HW.down g3 hbg
      replace g4 := HW.down g4 hbg
      replace g5 := HW.down g5 hbg
      replace g6 := HW.down g6 hbg
      replace rs := rs.keep hbg
      replace rl := rl.keep hbg
      replace rm := rm.keep hbg
      replace r9 := r9.keep hbg
      replace r7 := r7.keep hbg
      replace HT : Hid (Tabs w6) := HT.out.keep hbg
      replace BW := Below.step BW hbg
      replace hne := HW.some w6
      clear hbg hbx sg
      refine wpM_more [10, 11, 12, 13, 14, 15, 16, 17, 18, 19, 20, 21, 22, 23, 24, 25, 26, 27, 28, 29] 38 18 rfl (by kernel_rfl) (by kernel_rfl) (by kernel_rfl) (by kernel_rfl) ?_
      simp only [opsAt, List.getElem?_toArray, List.getElem?_cons_zero, List.getElem?_cons_succ]
      go_simp
      repeat (go_big_quiet_step (fail))
      refine wpQuiet_nil ?_
      refine wpM_only (i := 30) (by kernel_rfl) ?_
      refine mOp_call rfl (by go_simp) 14 _ #[.slice ps s.length qs, .slice p7 dg.length q7] (fun w => by go_simp) rfl ?_
      rintro _ ⟨sg, rfl⟩
      refine (KN.out _ p7 q7 (rs.keep sg.h) (r7.keep sg.h) (HT.out.keep sg.h)).mono ?_
      rintro e w7 ⟨p8, q8, rfl, r8, hbx⟩
      have hbg := Below.step sg.h hbx
      refine ⟨_, rfl, ⟨⟨w7, hbx⟩, rfl⟩, ?_⟩
      replace g0 := HW.down g0 hbg
      replace g1 := HW.down g1 hbg
      replace g2 := HW.down g2 hbg
      replace g3 := HW.down g3 hbg
      replace g4 := HW.down g4 hbg
      replace g5 := HW.down g5 hbg
      replace g6 := HW.down g6 hbg
      replace rs := rs.keep hbg
      replace rl := rl.keep hbg
      replace rm := rm.keep hbg
      replace r9 := r9.keep hbg
      replace r7 := r7.keep hbg
      replace HT : Hid (Tabs w7) := HT.out.keep hbg
      replace BW := Below.step BW hbg
      replace hne := HW.some w7
      clear hbg hbx sg
      refine wpM_more [31] 17 16 rfl (by kernel_rfl) (by kernel_rfl) (by kernel_rfl) (by kernel_rfl) ?_
      simp only [opsAt, List.getElem?_toArray, List.getElem?_cons_zero, List.getElem?_cons_succ]
      go_simp
      repeat (go_big_quiet_step (fail))
      refine wpQuiet_nil ?_
      refine wpM_only (i := 32) (by kernel_rfl) ?_
      refine mOp_call rfl (by go_simp) 13 _ #[.slice p9 fb.length q9, .slice p8 fb.length q8] (fun w => by go_simp) rfl ?_
      rintro _ ⟨sg, rfl⟩
      refine (lwSame_yes p9 p8 q9 q8 _ _ fb _ rfl rfl (r9.keep sg.h) (r8.keep sg.h)).mono ?_
      rintro e w8 ⟨rfl, hwx⟩
      subst hwx
      refine ⟨_, rfl, ⟨⟨sg.w, Below.refl _ _⟩, rfl⟩, ?_⟩
      have hbg : Below _ _ sg.w := sg.h
      replace g0 := HW.down g0 hbg
      replace g1 := HW.down g1 hbg
      replace g2 := HW.down g2 hbg
      replace g3 := HW.down g3 hbg
      replace g4 := HW.down g4 hbg
      replace g5 := HW.down g5 hbg
      replace g6 := HW.down g6 hbg
      replace rs := rs.keep hbg
      replace rl := rl.keep hbg
      replace rm := rm.keep hbg
      replace r9 := r9.keep hbg
      replace r7 := r7.keep hbg
      replace HT : Hid (Tabs sg.w) := HT.out.keep hbg
      replace BW := Below.step BW hbg
      replace hne := HW.some sg.w
      clear hbg
      generalize sg.w = w8 at *
      clear sg
      refine wpM_more [33, 34, 35, 36, 37, 38, 39, 40, 41, 42, 43, 44] 15 3 rfl (by kernel_rfl) (by kernel_rfl) (by kernel_rfl) (by kernel_rfl) ?_
      simp only [opsAt, List.getElem?_toArray, List.getElem?_cons_zero, List.getElem?_cons_succ]
      go_simp
      repeat (go_big_quiet_step (fail))
      refine wpQuiet_nil ?_
      refine wpM_only (i := 45) (by kernel_rfl) ?_
      refine mOp_call rfl (by go_simp) 10 _ #[.slice ps s.length qs, .slice pl l.length ql, .agg #[.int .i64 km, .slice pm mb.length qm]] (fun w => by go_simp) rfl ?_
      rintro _ ⟨sg, rfl⟩
      refine (KD.out _ (rs.keep sg.h) (rl.keep sg.h) (rm.keep sg.h)).mono ?_
      rintro e w10 ⟨rfl, hbx⟩
      have hbg := Below.step sg.h hbx
      refine ⟨_, rfl, ⟨⟨w10, hbx⟩, rfl⟩, ?_⟩
      replace g0 := HW.down g0 hbg
      replace g1 := HW.down g1 hbg
      replace g2 := HW.down g2 hbg
      replace g3 := HW.down g3 hbg
      replace g4 := HW.down g4 hbg
      replace g5 := HW.down g5 hbg
      replace g6 := HW.down g6 hbg
      replace rs := rs.keep hbg
      replace rl := rl.keep hbg
      replace rm := rm.keep hbg
      replace r9 := r9.keep hbg
      replace r7 := r7.keep hbg
      replace HT : Hid (Tabs w10) := HT.out.keep hbg
      replace BW := Below.step BW hbg
      replace hne := HW.some w10
      clear hbg hbx sg
      refine wpM_more [46, 47] 2 0 rfl (by kernel_rfl) (by kernel_rfl) (by kernel_rfl) (by kernel_rfl) ?_
      simp only [opsAt, List.getElem?_toArray, List.getElem?_cons_zero, List.getElem?_cons_succ]
      go_simp
      repeat (go_big_quiet_step (fail))
      refine wpQuiet_nil ?_
      refine wpM_end (by kernel_rfl) rfl (by kernel_rfl) (by decide) ?_
      rintro _ ⟨sz, rfl⟩
      simp only [List.drop_succ_cons, List.drop_zero]
      go_wp2
      go_ret
      exact ⟨rfl, Below.step BW sz.h⟩
  · obtain ⟨cf, HCF⟩ : ∃ cf, Hid (cf = fmC s l) := ⟨_, rfl⟩
    have hne0 : (cf != 0) = true := by rw [bne_iff_ne, HCF.out]; exact hc
    have hcc : c = cf := by rw [HC.out, HCF.out]; unfold cfC; rw [if_neg hc]
    subst hcc
    have KF : Hid (∀ w, Rd w ps qs s → RdL msgC w pl ql l → Tabs w → Calls Tryd.prog 7 #[.slice ps s.length qs, .slice pl l.length ql] w fun e w' => ∃ p9 q9, e = .returned (.agg #[.int .i64 c, .int .i64 0, .slice p9 0 q9]) ∧ Below w.heap.size w w') := fun w h1 h2 ht => by
      refine (implFm_kk s l _ _ w ⟨ps, qs, rfl, h1⟩ ⟨pl, ql, rfl, h2⟩ ht).mono ?_
      rintro e w' ⟨us, fp, rfl, ko, hb⟩
      rw [fmD_bad hc, ← HCF.out] at ko
      obtain ⟨p9, q9, rfl, r1⟩ := msgResult_rep (msgResultC.toRep ko)
      exact ⟨p9, q9, rfl, hb⟩
    have KZ : Hid (∀ w, Rd w ps qs s → RdL msgC w pl ql l → Calls Tryd.prog 9 #[.slice ps s.length qs, .slice pl l.length ql] w fun e w' => ∃ p9 q9, e = .returned (.agg #[.int .i64 c, .int .i64 0, .slice p9 0 q9]) ∧ Below w.heap.size w w') := fun w h1 h2 => by
      refine (specFm_k s l ps pl qs ql w h1 h2).mono ?_
      rintro e w' ⟨us, fp, rfl, ko, hb⟩
      rw [fmD_bad hc, ← HCF.out] at ko
      obtain ⟨p9, q9, rfl, r1⟩ := msgResult_rep (msgResultC.toRep ko)
      exact ⟨p9, q9, rfl, hb⟩
    clear hc HC HCF
    go_wp2_with fail
    refine (KF.out _ rs rl HT.out).mono ?_
    rintro e w2 ⟨p9, q9, rfl, hb2⟩
    have BL := alloc_below w2 (.cells #[.int .i64 c, .int .i64 0, .slice p9 0 q9] 30)
    have S := Arr.new w2 [.int .i64 c, .int .i64 0, .slice p9 0 q9] 30
    have hb3 := Below.step hb2 BL
    replace A := A.stay hb3
    replace rm := rm.keep hb3
    replace rs := rs.keep hb3
    replace rl := rl.keep hb3
    replace BW := Below.step BW hb3
    replace HT : Hid (Tabs (w2.alloc (.cells #[.int .i64 c, .int .i64 0, .slice p9 0 q9] 30))) := HT.out.keep hb3
    have cA0 := (A.cell 0).trans (show _ = some _ from rfl)
    have cA1 := (A.cell 1).trans (show _ = some _ from rfl)
    clear hb2 BL hb3 KF
    go_wp2_with fail
    refine (KC.out _ rs rl rm HT.out).mono ?_
    rintro e w3 ⟨rfl, hb3⟩
    replace A := A.stay hb3
    replace S := S.stay hb3
    replace rm := rm.keep hb3
    replace rs := rs.keep hb3
    replace rl := rl.keep hb3
    replace BW := Below.step BW hb3
    have cS0 := (S.cell 0).trans (show _ = some _ from rfl)
    clear cA0 cA1 hb3 HT KC
    go_wp2_with fail
    clear cS0
    have g0 := HW.at ((A.cell 0).trans (show _ = some _ from rfl))
    have g1 := HW.at ((A.cell 1).trans (show _ = some _ from rfl))
    have g2 := HW.at ((S.cell 0).trans (show _ = some _ from rfl))
    have hne := HW.some w3
    have rf0 := mres_f0
    clear A S
    refine wp_region_pick [0, 1, 2, 3, 4, 5, 6, 9, 10] 21 12 1 rfl rfl rfl (by kernel_rfl) (by kernel_rfl) (by kernel_rfl) (by kernel_rfl) ?_
    simp only [opsAt, List.getElem?_toArray, List.getElem?_cons_zero, List.getElem?_cons_succ]
    repeat (go_big_quiet_step (fail))
    refine wpQuiet_nil ?_
    refine wpM_only (i := 7) (by kernel_rfl) ?_
    refine mOp_call rfl (by go_simp) 9 _ #[.slice ps s.length qs, .slice pl l.length ql] (fun w => by go_simp) rfl ?_
    rintro _ ⟨sg, rfl⟩
    refine (KZ.out _ (rs.keep sg.h) (rl.keep sg.h)).mono ?_
    rintro e w4 ⟨p8, q8, rfl, hbx⟩
    have hbg := Below.step sg.h hbx
    refine ⟨_, rfl, ⟨⟨w4, hbx⟩, rfl⟩, ?_⟩
    replace g0 := HW.down g0 hbg
    replace g1 := HW.down g1 hbg
    replace g2 := HW.down g2 hbg
    replace rs := rs.keep hbg
    replace rl := rl.keep hbg
    replace rm := rm.keep hbg
    replace BW := Below.step BW hbg
    replace hne := HW.some w4
    clear hbg hbx sg
    refine wpM_more [8, 11, 12, 13, 14, 15, 16, 18] 11 3 rfl (by kernel_rfl) (by kernel_rfl) (by kernel_rfl) (by kernel_rfl) ?_
    simp only [opsAt, List.getElem?_toArray, List.getElem?_cons_zero, List.getElem?_cons_succ]
    go_simp
    repeat (go_big_quiet_step (fail))
    refine wpQuiet_nil ?_
    refine wpM_only (i := 17) (by kernel_rfl) ?_
    refine mOp_call rfl (by go_simp) 10 _ #[.slice ps s.length qs, .slice pl l.length ql, .agg #[.int .i64 km, .slice pm mb.length qm]] (fun w => by go_simp) rfl ?_
    rintro _ ⟨sg, rfl⟩
    refine (KD.out _ (rs.keep sg.h) (rl.keep sg.h) (rm.keep sg.h)).mono ?_
    rintro e w5 ⟨rfl, hbx⟩
    have hbg := Below.step sg.h hbx
    refine ⟨_, rfl, ⟨⟨w5, hbx⟩, rfl⟩, ?_⟩
    replace g0 := HW.down g0 hbg
    replace g1 := HW.down g1 hbg
    replace g2 := HW.down g2 hbg
    replace rs := rs.keep hbg
    replace rl := rl.keep hbg
    replace rm := rm.keep hbg
    replace BW := Below.step BW hbg
    replace hne := HW.some w5
    clear hbg hbx sg
    refine wpM_more [19, 20] 2 0 rfl (by kernel_rfl) (by kernel_rfl) (by kernel_rfl) (by kernel_rfl) ?_
    simp only [opsAt, List.getElem?_toArray, List.getElem?_cons_zero, List.getElem?_cons_succ]
    go_simp
    repeat (go_big_quiet_step (fail))
    refine wpQuiet_nil ?_
    refine wpM_end (by kernel_rfl) rfl (by kernel_rfl) (by decide) ?_
    rintro _ ⟨sz, rfl⟩
    simp only [List.drop_succ_cons, List.drop_zero]
    go_wp2
    go_ret
    exact ⟨rfl, Below.step BW sz.h⟩
end Go.Proofs.YtpbkncliepkhaaaDoor

