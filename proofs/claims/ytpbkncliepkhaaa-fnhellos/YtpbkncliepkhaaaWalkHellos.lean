/- The walk of FnHellos. -/
import Derived.Test.YtpbkncliepkhaaaDrawHm
import Derived.Test.YtpbkncliepkhaaaJoint14
import Derived.Test.YtpbkncliepkhaaaJoint15
import Derived.Test.YtpbkncliepkhaaaWireI
import Derived.Test.YtpbkncliepkhaaaOdd
import Derived.Test.YtpbkncliepkhaaaJoint10
namespace Go.Proofs.Ytpbkncliepkhaaa
open Go.ChangeShapes Go.WideShapes Go.ChangeAt Go.RowKit

theorem hres_f0 (c s t : Int) (a : Option Addr) (n m : Nat) (w : World) : (Instr.field 31 (.agg #[.int .i64 c, .slice a n m, .int .i64 s, .int .i64 t]) 0).run Try.prog w = .ok (.int .i64 c) w := by kernel_rfl
theorem uh_parts {k km : Int} {mb : List UInt8} (h : uhC k (km, mb) = 0) : hkB k = true ∧ km = k ∧ faultW km mb.length = 0 ∧ huR mb = some (uhD k (km, mb)).2 := by
  have h' := h
  unfold uhC at h'
  by_cases h1 : hkB k = true
  · rw [if_pos h1] at h'
    by_cases h2 : faultW km mb.length = 0
    · simp only [if_pos h2] at h'
      by_cases h3 : km = k
      · rw [if_pos h3] at h'
        cases hu : huR mb with
        | none => rw [hu] at h'; simp at h'
        | some x =>
          refine ⟨h1, h3, h2, ?_⟩
          unfold uhD
          simp only [h, if_true, hu]
          rfl
      · rw [if_neg h3] at h'; cases h'
    · simp only [if_neg h2] at h'
      exact absurd h' h2
  · rw [if_neg h1] at h'; cases h'

set_option maxRecDepth 4000 in
set_option maxHeartbeats 8000000 in
theorem fnHellos_walk (a : Option Addr) (cap : Nat) (bs0 : List UInt8) (w : World) (r0 : Rd w a cap bs0) :
    Calls Try.prog 3 #[.slice a bs0.length cap] w fun e w' => e = .returned (.bool true) ∧ Below w.heap.size w w' := by
  by_cases hl0 : 1048576 < bs0.length
  · go_enter Try.func3, Try.ntmps3
    go_wp2_with fail
    refine (lwBig_yes _ _ _ _ hl0).mono ?_
    rintro e w1 ⟨rfl, rfl⟩
    go_wp2
    go_ret
    exact ⟨rfl, Below.refl _ _⟩
  replace hl0 : bs0.length ≤ 1048576 := by omega
  go_enter Try.func3, Try.ntmps3
  go_wp2_with fail
  refine (lwBig_no _ _ _ _ hl0).mono ?_
  rintro e w1 ⟨rfl, hw1⟩
  rw [hw1]
  clear hw1 w1
  go_wp2_with fail
  refine (drawUH_c _ _ bs0 _ r0).mono ?_
  rintro e w1 ⟨k, km, pu, qu, mb, rfl, hk1, hk3, hm0, hm1, hml, rm, BW⟩
  have HK : Hid (1 ≤ k ∧ k ≤ 3) := ⟨hk1, hk3⟩
  replace r0 := r0.keep BW
  have BA := alloc_below w1 (.cells #[.int .i64 km, .slice pu mb.length qu] 25)
  have A := Arr.new w1 [.int .i64 km, .slice pu mb.length qu] 25
  replace rm := rm.keep BA
  replace r0 := r0.keep BA
  replace BW := Below.step BW BA
  obtain ⟨c, HC⟩ : ∃ c, Hid (c = uhC k (km, mb)) := ⟨_, rfl⟩
  obtain ⟨H, HH⟩ : ∃ H, Hid (H = (uhD k (km, mb)).2) := ⟨_, rfl⟩
  have HD : Hid (uhD k (km, mb) = (c, H)) := by show _ = _; rw [HC.out, HH.out]; rfl
  have KU : Hid (∀ w, Rd w pu qu mb → Calls Try.prog 9 #[.int .i64 k, .agg #[.int .i64 km, .slice pu mb.length qu]] w fun e w' => ∃ ph qh, e = .returned (.agg #[.int .i64 c, .slice ph H.1.length qh, .int .i64 H.2.1, .int .i64 H.2.2]) ∧ Rd w' ph qh H.1 ∧ Below w.heap.size w w') := fun w h => by
    refine (implUh_k k (km, mb) _ w (msg_mk (a := (km, mb)) h)).mono ?_
    rintro e w' ⟨us, fp, rfl, ko, hb⟩
    rw [HD.out] at ko
    obtain ⟨ph, qh, rfl, r1⟩ := helloResult_rep (helloResultC.toRep ko)
    exact ⟨ph, qh, rfl, r1, hb⟩
  have KZ : Hid (∀ w, Rd w pu qu mb → Calls Try.prog 10 #[.int .i64 k, .agg #[.int .i64 km, .slice pu mb.length qu]] w fun e w' => ∃ ph qh, e = .returned (.agg #[.int .i64 c, .slice ph H.1.length qh, .int .i64 H.2.1, .int .i64 H.2.2]) ∧ Below w.heap.size w w') := fun w h => by
    refine (specUh_k k (km, mb) _ w (msg_mk (a := (km, mb)) h)).mono ?_
    rintro e w' ⟨us, fp, rfl, ko, hb⟩
    rw [HD.out] at ko
    obtain ⟨ph, qh, rfl, r1⟩ := helloResult_rep (helloResultC.toRep ko)
    exact ⟨ph, qh, rfl, hb⟩
  have cA0 := (A.cell 0).trans (show _ = some _ from rfl)
  have cA1 := (A.cell 1).trans (show _ = some _ from rfl)
  clear hk1 hk3 hl0 BA hm0 hm1 hml
  go_wp2_with fail
  refine (KU.out _ rm).mono ?_
  rintro e w2 ⟨ph, qh, rfl, rh, hb2⟩
  clear cA0 cA1
  have BL := alloc_below w2 (.cells #[.int .i64 c, .slice ph H.1.length qh, .int .i64 H.2.1, .int .i64 H.2.2] 31)
  have S := Arr.new w2 [.int .i64 c, .slice ph H.1.length qh, .int .i64 H.2.1, .int .i64 H.2.2] 31
  have hb3 := Below.step hb2 BL
  replace A := A.stay hb3
  replace rm := rm.keep hb3
  replace r0 := r0.keep hb3
  replace rh := rh.keep BL
  replace BW := Below.step BW hb3
  clear hb2 BL hb3 KU
  go_wp2_with fail
  generalize w2.alloc (.cells #[.int .i64 c, .slice ph H.1.length qh, .int .i64 H.2.1, .int .i64 H.2.2] 31) = V at *
  have g0 := HW.at ((A.cell 0).trans (show _ = some _ from rfl))
  have g1 := HW.at ((A.cell 1).trans (show _ = some _ from rfl))
  have g2 := HW.at ((S.cell 0).trans (show _ = some _ from rfl))
  have g3 := HW.at ((S.cell 1).trans (show _ = some _ from rfl))
  have g4 := HW.at ((S.cell 2).trans (show _ = some _ from rfl))
  have g5 := HW.at ((S.cell 3).trans (show _ = some _ from rfl))
  have hne := HW.some V
  have rf0 := hres_f0
  clear A S
  refine wp_region_pick [0, 1, 2, 3] 23 19 1 rfl rfl rfl (by kernel_rfl) (by kernel_rfl) (by kernel_rfl) (by kernel_rfl) ?_
  simp only [opsAt, List.getElem?_toArray, List.getElem?_cons_zero, List.getElem?_cons_succ]
  repeat (go_big_quiet_step (fail))
  refine wpQuiet_nil ?_
  refine wpM_only (i := 4) (by kernel_rfl) ?_
  refine mOp_call rfl (by go_simp) 10 _ #[.int .i64 k, .agg #[.int .i64 km, .slice pu mb.length qu]] (fun w => by go_simp) rfl ?_
  rintro _ ⟨sg, rfl⟩
  refine (KZ.out _ (rm.keep sg.h)).mono ?_
  rintro e wg ⟨pz, qz, rfl, hbx⟩
  have hbg := Below.step sg.h hbx
  refine ⟨_, rfl, ⟨⟨wg, hbx⟩, rfl⟩, ?_⟩
  replace g0 := HW.down g0 hbg
  replace g1 := HW.down g1 hbg
  replace g2 := HW.down g2 hbg
  replace g3 := HW.down g3 hbg
  replace g4 := HW.down g4 hbg
  replace g5 := HW.down g5 hbg
  replace rm := rm.keep hbg
  replace rh := rh.keep hbg
  replace r0 := r0.keep hbg
  replace BW := Below.step BW hbg
  replace hne := HW.some wg
  clear hbg hbx sg KZ
  by_cases hc : c = 0
  case' neg =>
    have hq1 : (c == 0) = false := by rw [beq_eq_false_iff_ne]; exact hc
    clear HC HH HD hc
    refine wpM_more [5, 6, 7, 8, 9, 10, 11, 12, 13, 14, 18] 18 7 rfl (by kernel_rfl) (by kernel_rfl) (by kernel_rfl) (by kernel_rfl) ?_
    simp only [opsAt, List.getElem?_toArray, List.getElem?_cons_zero, List.getElem?_cons_succ]
    go_simp
    repeat (go_big_quiet_step (fail))
    refine wpQuiet_nil ?_
    clear rm rh
    apply share
    case h =>
      intro JN
      refine wpM_two (i := 15) (j := 19) (by kernel_rfl) ?_ ?_
      · skip
        refine mOp_skip rfl (by go_simp) ?_
        refine wpM_more [16] 6 5 rfl (by kernel_rfl) (by kernel_rfl) (by kernel_rfl) (by kernel_rfl) ?_
        simp only [opsAt, List.getElem?_toArray, List.getElem?_cons_zero, List.getElem?_cons_succ]
        go_simp
        repeat (go_big_quiet_step (fail))
        refine wpQuiet_nil ?_
        refine wpM_two (i := 17) (j := 19) (by kernel_rfl) ?_ ?_
        · skip
          refine mOp_skip rfl (by go_simp) ?_
          refine wpM_only (i := 19) (by kernel_rfl) ?_
          refine mOp_skip rfl (by go_simp) ?_
          refine wpM_only (i := 20) (by kernel_rfl) ?_
          refine mOp_skip rfl (by go_simp) ?_
          refine wpM_more [21, 22] 2 0 rfl (by kernel_rfl) (by kernel_rfl) (by kernel_rfl) (by kernel_rfl) ?_
          simp only [opsAt, List.getElem?_toArray, List.getElem?_cons_zero, List.getElem?_cons_succ]
          go_simp
          repeat (go_big_quiet_step (fail))
          refine wpQuiet_nil ?_
          refine wpM_end (by kernel_rfl) rfl (by kernel_rfl) (by decide) ?_
          exact JN.out
        · skip
          refine mOp_skip rfl (by go_simp) ?_
          refine wpM_only (i := 17) (by kernel_rfl) ?_
          refine mOp_skip rfl (by go_simp) ?_
          refine wpM_only (i := 20) (by kernel_rfl) ?_
          refine mOp_skip rfl (by go_simp) ?_
          refine wpM_more [21, 22] 2 0 rfl (by kernel_rfl) (by kernel_rfl) (by kernel_rfl) (by kernel_rfl) ?_
          simp only [opsAt, List.getElem?_toArray, List.getElem?_cons_zero, List.getElem?_cons_succ]
          go_simp
          repeat (go_big_quiet_step (fail))
          refine wpQuiet_nil ?_
          refine wpM_end (by kernel_rfl) rfl (by kernel_rfl) (by decide) ?_
          exact JN.out
      · skip
        refine mOp_skip rfl (by go_simp) ?_
        refine wpM_only (i := 15) (by kernel_rfl) ?_
        refine mOp_skip rfl (by go_simp) ?_
        refine wpM_more [16] 5 4 rfl (by kernel_rfl) (by kernel_rfl) (by kernel_rfl) (by kernel_rfl) ?_
        simp only [opsAt, List.getElem?_toArray, List.getElem?_cons_zero, List.getElem?_cons_succ]
        go_simp
        repeat (go_big_quiet_step (fail))
        refine wpQuiet_nil ?_
        refine wpM_only (i := 17) (by kernel_rfl) ?_
        refine mOp_skip rfl (by go_simp) ?_
        refine wpM_only (i := 20) (by kernel_rfl) ?_
        refine mOp_skip rfl (by go_simp) ?_
        refine wpM_more [21, 22] 2 0 rfl (by kernel_rfl) (by kernel_rfl) (by kernel_rfl) (by kernel_rfl) ?_
        simp only [opsAt, List.getElem?_toArray, List.getElem?_cons_zero, List.getElem?_cons_succ]
        go_simp
        repeat (go_big_quiet_step (fail))
        refine wpQuiet_nil ?_
        refine wpM_end (by kernel_rfl) rfl (by kernel_rfl) (by decide) ?_
        exact JN.out
    rintro _ ⟨sz, rfl⟩
    simp only [List.drop_succ_cons, List.drop_zero]
    replace r0 := r0.keep sz.h
    replace BW := Below.step BW sz.h
    clear hne g0 g1 g2 g3 g4 g5
    generalize sz.w = V5 at *
    clear sz
  case' pos =>
    subst hc
    obtain ⟨hkb, hkm, -, hu⟩ := uh_parts HC.out.symm
    rw [← HH.out] at hu
    obtain ⟨hf, hp⟩ := huR_back hu
    have HP : Hid (phD k H = (0, k, mb)) := by show _ = _; rw [phD, if_pos (by rw [phC, if_pos hkb, hf]), hp]
    have KP : Hid (∀ w, Rd w ph qh H.1 → Calls Try.prog 12 #[.int .i64 k, .agg #[.slice ph H.1.length qh, .int .i64 H.2.1, .int .i64 H.2.2]] w fun e w' => ∃ p9 q9, e = .returned (.agg #[.int .i64 0, .int .i64 k, .slice p9 mb.length q9]) ∧ Rd w' p9 q9 mb ∧ Below w.heap.size w w') := fun w h => by
      refine (implPh_k k H _ w (hello_mk h)).mono ?_
      rintro e w' ⟨us, fp, rfl, ko, hb⟩
      rw [HP.out] at ko
      obtain ⟨p9, q9, rfl, r1⟩ := msgResult_rep (msgResultC.toRep ko)
      exact ⟨p9, q9, rfl, r1, hb⟩
    have KS : Hid (∀ w b1 b2, RdL msgC w (some ⟨b1, 0, none⟩) 1 [(k, mb)] → RdL msgC w (some ⟨b2, 0, none⟩) 1 [(km, mb)] → Calls Try.prog 11 #[.slice (some ⟨b1, 0, none⟩) 1 1, .slice (some ⟨b2, 0, none⟩) 1 1] w fun e w' => e = .returned (.bool true) ∧ Below w.heap.size w w') := fun w b1 b2 h1 h2 => by
      have g := implSM_c _ _ _ _ _ _ w h1 h2
      rw [show sameM [(k, mb)] [(km, mb)] = true by rw [hkm]; simp [sameM]] at g
      exact g
    clear HC HH HD HP hkb hkm hu hf hp
    have rm1 := mres_f1
    refine wpM_more [5, 6, 7, 8, 9, 10, 11, 12, 13, 14, 18] 18 7 rfl (by kernel_rfl) (by kernel_rfl) (by kernel_rfl) (by kernel_rfl) ?_
    simp only [opsAt, List.getElem?_toArray, List.getElem?_cons_zero, List.getElem?_cons_succ]
    go_simp
    repeat (go_big_quiet_step (fail))
    refine wpQuiet_nil ?_
    clear g0 g1 g2 g3 g4 g5 rf0
    apply share
    case h =>
      intro JN
      refine wpM_two (i := 15) (j := 19) (by kernel_rfl) ?_ ?_
      · skip
        refine mOp_call rfl (by go_simp) 12 _ #[.int .i64 k, .agg #[.slice ph H.1.length qh, .int .i64 H.2.1, .int .i64 H.2.2]] (fun w => by go_simp) rfl ?_
        rintro _ ⟨sg, rfl⟩
        refine (KP.out _ (rh.keep sg.h)).mono ?_
        rintro e w9 ⟨p9, q9, rfl, r9, hbx⟩
        have hbg := Below.step sg.h hbx
        refine ⟨_, rfl, ⟨⟨w9, hbx⟩, rfl⟩, ?_⟩
        replace rm := rm.keep hbg
        replace r0 := r0.keep hbg
        replace BW := Below.step BW hbg
        clear hbg hbx sg
        try clear rh
        replace hne := HW.some w9
        refine wpM_more [16] 6 5 rfl (by kernel_rfl) (by kernel_rfl) (by kernel_rfl) (by kernel_rfl) ?_
        simp only [opsAt, List.getElem?_toArray, List.getElem?_cons_zero, List.getElem?_cons_succ]
        go_simp
        repeat (go_big_quiet_step (fail))
        refine wpQuiet_nil ?_
        refine wpM_two (i := 17) (j := 19) (by kernel_rfl) ?_ ?_
        · skip
          refine mOp_make rfl (by go_simp) ?_
          rintro _ ⟨sa, rfl⟩
          refine ⟨.slice (some ⟨sa.w.heap.size, 0, none⟩) 1 1, sa.w.alloc (.cells #[.int .i64 k, .slice p9 mb.length q9] 25), by go_simp, ⟨⟨_, alloc_below _ _⟩, rfl⟩, ?_⟩
          have L1 := rdL_one sa.w k p9 q9 mb (r9.keep sa.h)
          have hbg := Below.step sa.h (alloc_below sa.w (.cells #[.int .i64 k, .slice p9 mb.length q9] 25))
          replace rm := rm.keep hbg
          replace r0 := r0.keep hbg
          replace BW := Below.step BW hbg
          clear hbg
          try clear r9
          replace hne := HW.some (sa.w.alloc (.cells #[.int .i64 k, .slice p9 mb.length q9] 25))
          generalize hW : sa.w.alloc (.cells #[.int .i64 k, .slice p9 mb.length q9] 25) = vb1 at *
          clear hW
          generalize sa.w.heap.size = b1 at *
          clear sa
          refine wpM_only (i := 19) (by kernel_rfl) ?_
          refine mOp_make rfl (by go_simp) ?_
          rintro _ ⟨sa, rfl⟩
          refine ⟨.slice (some ⟨sa.w.heap.size, 0, none⟩) 1 1, sa.w.alloc (.cells #[.int .i64 km, .slice pu mb.length qu] 25), by go_simp, ⟨⟨_, alloc_below _ _⟩, rfl⟩, ?_⟩
          have L2 := rdL_one sa.w km pu qu mb (rm.keep sa.h)
          have hbg := Below.step sa.h (alloc_below sa.w (.cells #[.int .i64 km, .slice pu mb.length qu] 25))
          replace L1 := L1.keep hbg
          replace r0 := r0.keep hbg
          replace BW := Below.step BW hbg
          clear hbg
          try clear rm
          replace hne := HW.some (sa.w.alloc (.cells #[.int .i64 km, .slice pu mb.length qu] 25))
          generalize hW : sa.w.alloc (.cells #[.int .i64 km, .slice pu mb.length qu] 25) = vb2 at *
          clear hW
          generalize sa.w.heap.size = b2 at *
          clear sa
          refine wpM_only (i := 20) (by kernel_rfl) ?_
          refine mOp_call rfl (by go_simp) 11 _ #[.slice (some ⟨b1, 0, none⟩) 1 1, .slice (some ⟨b2, 0, none⟩) 1 1] (fun w => by go_simp) rfl ?_
          rintro _ ⟨sg, rfl⟩
          refine (KS.out _ b1 b2 (L1.keep sg.h) (L2.keep sg.h)).mono ?_
          rintro e w8 ⟨rfl, hbx⟩
          have hbg := Below.step sg.h hbx
          refine ⟨_, rfl, ⟨⟨w8, hbx⟩, rfl⟩, ?_⟩
          replace r0 := r0.keep hbg
          replace BW := Below.step BW hbg
          clear hbg hbx sg L1 L2
          replace hne := HW.some w8
          refine wpM_more [21, 22] 2 0 rfl (by kernel_rfl) (by kernel_rfl) (by kernel_rfl) (by kernel_rfl) ?_
          simp only [opsAt, List.getElem?_toArray, List.getElem?_cons_zero, List.getElem?_cons_succ]
          go_simp
          repeat (go_big_quiet_step (fail))
          refine wpQuiet_nil ?_
          refine wpM_end (by kernel_rfl) rfl (by kernel_rfl) (by decide) ?_
          rintro _ ⟨sz, rfl⟩
          simp only [List.drop_succ_cons, List.drop_zero]
          replace r0 := r0.keep sz.h
          replace BW := Below.step BW sz.h
          generalize sz.w = V5 at *
          clear sz hne
          revert BW
          revert r0
          revert V5
          revert b2
          revert b1
          revert q9
          revert p9
          exact JN.out
        · skip
          refine mOp_make rfl (by go_simp) ?_
          rintro _ ⟨sa, rfl⟩
          refine ⟨.slice (some ⟨sa.w.heap.size, 0, none⟩) 1 1, sa.w.alloc (.cells #[.int .i64 km, .slice pu mb.length qu] 25), by go_simp, ⟨⟨_, alloc_below _ _⟩, rfl⟩, ?_⟩
          have L2 := rdL_one sa.w km pu qu mb (rm.keep sa.h)
          have hbg := Below.step sa.h (alloc_below sa.w (.cells #[.int .i64 km, .slice pu mb.length qu] 25))
          replace r9 := r9.keep hbg
          replace r0 := r0.keep hbg
          replace BW := Below.step BW hbg
          clear hbg
          try clear rm
          replace hne := HW.some (sa.w.alloc (.cells #[.int .i64 km, .slice pu mb.length qu] 25))
          generalize hW : sa.w.alloc (.cells #[.int .i64 km, .slice pu mb.length qu] 25) = vb2 at *
          clear hW
          generalize sa.w.heap.size = b2 at *
          clear sa
          refine wpM_only (i := 17) (by kernel_rfl) ?_
          refine mOp_make rfl (by go_simp) ?_
          rintro _ ⟨sa, rfl⟩
          refine ⟨.slice (some ⟨sa.w.heap.size, 0, none⟩) 1 1, sa.w.alloc (.cells #[.int .i64 k, .slice p9 mb.length q9] 25), by go_simp, ⟨⟨_, alloc_below _ _⟩, rfl⟩, ?_⟩
          have L1 := rdL_one sa.w k p9 q9 mb (r9.keep sa.h)
          have hbg := Below.step sa.h (alloc_below sa.w (.cells #[.int .i64 k, .slice p9 mb.length q9] 25))
          replace L2 := L2.keep hbg
          replace r0 := r0.keep hbg
          replace BW := Below.step BW hbg
          clear hbg
          try clear r9
          replace hne := HW.some (sa.w.alloc (.cells #[.int .i64 k, .slice p9 mb.length q9] 25))
          generalize hW : sa.w.alloc (.cells #[.int .i64 k, .slice p9 mb.length q9] 25) = vb1 at *
          clear hW
          generalize sa.w.heap.size = b1 at *
          clear sa
          refine wpM_only (i := 20) (by kernel_rfl) ?_
          refine mOp_call rfl (by go_simp) 11 _ #[.slice (some ⟨b1, 0, none⟩) 1 1, .slice (some ⟨b2, 0, none⟩) 1 1] (fun w => by go_simp) rfl ?_
          rintro _ ⟨sg, rfl⟩
          refine (KS.out _ b1 b2 (L1.keep sg.h) (L2.keep sg.h)).mono ?_
          rintro e w8 ⟨rfl, hbx⟩
          have hbg := Below.step sg.h hbx
          refine ⟨_, rfl, ⟨⟨w8, hbx⟩, rfl⟩, ?_⟩
          replace r0 := r0.keep hbg
          replace BW := Below.step BW hbg
          clear hbg hbx sg L1 L2
          replace hne := HW.some w8
          refine wpM_more [21, 22] 2 0 rfl (by kernel_rfl) (by kernel_rfl) (by kernel_rfl) (by kernel_rfl) ?_
          simp only [opsAt, List.getElem?_toArray, List.getElem?_cons_zero, List.getElem?_cons_succ]
          go_simp
          repeat (go_big_quiet_step (fail))
          refine wpQuiet_nil ?_
          refine wpM_end (by kernel_rfl) rfl (by kernel_rfl) (by decide) ?_
          rintro _ ⟨sz, rfl⟩
          simp only [List.drop_succ_cons, List.drop_zero]
          replace r0 := r0.keep sz.h
          replace BW := Below.step BW sz.h
          generalize sz.w = V5 at *
          clear sz hne
          revert BW
          revert r0
          revert V5
          revert b2
          revert b1
          revert q9
          revert p9
          exact JN.out
      · skip
        refine mOp_make rfl (by go_simp) ?_
        rintro _ ⟨sa, rfl⟩
        refine ⟨.slice (some ⟨sa.w.heap.size, 0, none⟩) 1 1, sa.w.alloc (.cells #[.int .i64 km, .slice pu mb.length qu] 25), by go_simp, ⟨⟨_, alloc_below _ _⟩, rfl⟩, ?_⟩
        have L2 := rdL_one sa.w km pu qu mb (rm.keep sa.h)
        have hbg := Below.step sa.h (alloc_below sa.w (.cells #[.int .i64 km, .slice pu mb.length qu] 25))
        replace rh := rh.keep hbg
        replace r0 := r0.keep hbg
        replace BW := Below.step BW hbg
        clear hbg
        try clear rm
        replace hne := HW.some (sa.w.alloc (.cells #[.int .i64 km, .slice pu mb.length qu] 25))
        generalize hW : sa.w.alloc (.cells #[.int .i64 km, .slice pu mb.length qu] 25) = vb2 at *
        clear hW
        generalize sa.w.heap.size = b2 at *
        clear sa
        refine wpM_only (i := 15) (by kernel_rfl) ?_
        refine mOp_call rfl (by go_simp) 12 _ #[.int .i64 k, .agg #[.slice ph H.1.length qh, .int .i64 H.2.1, .int .i64 H.2.2]] (fun w => by go_simp) rfl ?_
        rintro _ ⟨sg, rfl⟩
        refine (KP.out _ (rh.keep sg.h)).mono ?_
        rintro e w9 ⟨p9, q9, rfl, r9, hbx⟩
        have hbg := Below.step sg.h hbx
        refine ⟨_, rfl, ⟨⟨w9, hbx⟩, rfl⟩, ?_⟩
        replace L2 := L2.keep hbg
        replace r0 := r0.keep hbg
        replace BW := Below.step BW hbg
        clear hbg hbx sg
        try clear rh
        replace hne := HW.some w9
        refine wpM_more [16] 5 4 rfl (by kernel_rfl) (by kernel_rfl) (by kernel_rfl) (by kernel_rfl) ?_
        simp only [opsAt, List.getElem?_toArray, List.getElem?_cons_zero, List.getElem?_cons_succ]
        go_simp
        repeat (go_big_quiet_step (fail))
        refine wpQuiet_nil ?_
        refine wpM_only (i := 17) (by kernel_rfl) ?_
        refine mOp_make rfl (by go_simp) ?_
        rintro _ ⟨sa, rfl⟩
        refine ⟨.slice (some ⟨sa.w.heap.size, 0, none⟩) 1 1, sa.w.alloc (.cells #[.int .i64 k, .slice p9 mb.length q9] 25), by go_simp, ⟨⟨_, alloc_below _ _⟩, rfl⟩, ?_⟩
        have L1 := rdL_one sa.w k p9 q9 mb (r9.keep sa.h)
        have hbg := Below.step sa.h (alloc_below sa.w (.cells #[.int .i64 k, .slice p9 mb.length q9] 25))
        replace L2 := L2.keep hbg
        replace r0 := r0.keep hbg
        replace BW := Below.step BW hbg
        clear hbg
        try clear r9
        replace hne := HW.some (sa.w.alloc (.cells #[.int .i64 k, .slice p9 mb.length q9] 25))
        generalize hW : sa.w.alloc (.cells #[.int .i64 k, .slice p9 mb.length q9] 25) = vb1 at *
        clear hW
        generalize sa.w.heap.size = b1 at *
        clear sa
        refine wpM_only (i := 20) (by kernel_rfl) ?_
        refine mOp_call rfl (by go_simp) 11 _ #[.slice (some ⟨b1, 0, none⟩) 1 1, .slice (some ⟨b2, 0, none⟩) 1 1] (fun w => by go_simp) rfl ?_
        rintro _ ⟨sg, rfl⟩
        refine (KS.out _ b1 b2 (L1.keep sg.h) (L2.keep sg.h)).mono ?_
        rintro e w8 ⟨rfl, hbx⟩
        have hbg := Below.step sg.h hbx
        refine ⟨_, rfl, ⟨⟨w8, hbx⟩, rfl⟩, ?_⟩
        replace r0 := r0.keep hbg
        replace BW := Below.step BW hbg
        clear hbg hbx sg L1 L2
        replace hne := HW.some w8
        refine wpM_more [21, 22] 2 0 rfl (by kernel_rfl) (by kernel_rfl) (by kernel_rfl) (by kernel_rfl) ?_
        simp only [opsAt, List.getElem?_toArray, List.getElem?_cons_zero, List.getElem?_cons_succ]
        go_simp
        repeat (go_big_quiet_step (fail))
        refine wpQuiet_nil ?_
        refine wpM_end (by kernel_rfl) rfl (by kernel_rfl) (by decide) ?_
        rintro _ ⟨sz, rfl⟩
        simp only [List.drop_succ_cons, List.drop_zero]
        replace r0 := r0.keep sz.h
        replace BW := Below.step BW sz.h
        generalize sz.w = V5 at *
        clear sz hne
        revert BW
        revert r0
        revert V5
        revert b2
        revert b1
        revert q9
        revert p9
        exact JN.out
    intro p9 q9 b1 b2 V5 r0 BW
    clear rm rh KP KS hne rm1
  all_goals
    go_wp2_with fail
    refine (drawPH_c _ _ bs0 _ r0).mono ?_
    rintro e w5 ⟨k5, pv, qv, x, rfl, hk1, hk3, hx8, rx, hb5⟩
    replace BW := Below.step BW hb5
    clear hb5 r0
    have BA := alloc_below w5 (.cells #[.slice pv x.1.length qv, .int .i64 x.2.1, .int .i64 x.2.2] 29)
    have A := Arr.new w5 [.slice pv x.1.length qv, .int .i64 x.2.1, .int .i64 x.2.2] 29
    replace rx := rx.keep BA
    replace BW := Below.step BW BA
    have hxq : x.1.length ≤ qv ∧ qv ≤ 2 ^ 63 - 1 := ⟨rx.1, rx.2.1⟩
    clear BA
    by_cases hc : phC k5 x = 0
    · have hkb : hkB k5 = true := by
        by_cases h1 : hkB k5 = true
        · exact h1
        · unfold phC at hc; rw [if_neg h1] at hc; cases hc
      have hf : hfC x = 0 := by unfold phC at hc; rw [if_pos hkb] at hc; exact hc
      obtain ⟨mb, HMB⟩ : ∃ mb, Hid (mb = hpL x) := ⟨_, rfl⟩
      have HL : Hid (mb.length = 14) := by show _ = _; rw [HMB.out]; exact hpL_len hf
      have HFW : Hid (faultW k5 mb.length = 0) := by
        show _ = _
        rw [HL.out]
        unfold hkB at hkb
        simp only [Bool.or_eq_true, decide_eq_true_eq] at hkb
        rcases hkb with rfl | rfl <;> rfl
      have HP : Hid (phD k5 x = (0, k5, mb)) := by show _ = _; rw [phD, if_pos hc, HMB.out]
      have HUC : Hid (uhC k5 (k5, mb) = 0) := by
        show _ = _
        unfold uhC
        rw [if_pos hkb]
        simp only [HFW.out, if_true]
        rw [HMB.out, huR_pack hf]
        rfl
      have HU : Hid (uhD k5 (k5, mb) = (0, x)) := by
        show _ = _
        unfold uhD
        rw [HUC.out, if_pos rfl, HMB.out, huR_pack hf]
        rfl
      have KP : Hid (∀ w, Rd w pv qv x.1 → Calls Try.prog 12 #[.int .i64 k5, .agg #[.slice pv x.1.length qv, .int .i64 x.2.1, .int .i64 x.2.2]] w fun e w' => ∃ p9 q9, e = .returned (.agg #[.int .i64 0, .int .i64 k5, .slice p9 mb.length q9]) ∧ Rd w' p9 q9 mb ∧ Below w.heap.size w w') := fun w h => by
        refine (implPh_k k5 x _ w (hello_mk h)).mono ?_
        rintro e w' ⟨us, fp, rfl, ko, hb⟩
        rw [HP.out] at ko
        obtain ⟨p9, q9, rfl, r1⟩ := msgResult_rep (msgResultC.toRep ko)
        exact ⟨p9, q9, rfl, r1, hb⟩
      have KU : Hid (∀ w p9 q9, Rd w p9 q9 mb → Calls Try.prog 9 #[.int .i64 k5, .agg #[.int .i64 k5, .slice p9 mb.length q9]] w fun e w' => ∃ ph qh, e = .returned (.agg #[.int .i64 0, .slice ph x.1.length qh, .int .i64 x.2.1, .int .i64 x.2.2]) ∧ Rd w' ph qh x.1 ∧ Below w.heap.size w w') := fun w p9 q9 h => by
        refine (implUh_k k5 (k5, mb) _ w (msg_mk (a := (k5, mb)) h)).mono ?_
        rintro e w' ⟨us, fp, rfl, ko, hb⟩
        rw [HU.out] at ko
        obtain ⟨ph, qh, rfl, r1⟩ := helloResult_rep (helloResultC.toRep ko)
        exact ⟨ph, qh, rfl, r1, hb⟩
      have KF : Hid (∀ w p9 q9, Rd w p9 q9 mb → Calls Try.prog 17 #[.agg #[.int .i64 k5, .slice p9 mb.length q9]] w fun e w' => e = .returned (.int .i64 0) ∧ Below w.heap.size w w') := fun w p9 q9 h => by
        have g := implMF_c (k5, mb) p9 q9 w h
        rw [HFW.out] at g
        exact g
      clear hc hkb hf HMB HL HFW HP HUC HU hx8 hk1 hk3
      have cA0 := (A.cell 0).trans (show _ = some _ from rfl)
      have cA1 := (A.cell 1).trans (show _ = some _ from rfl)
      have cA2 := (A.cell 2).trans (show _ = some _ from rfl)
      go_wp2_with fail
      refine (KP.out _ rx).mono ?_
      rintro e w6 ⟨p9, q9, rfl, r9, hb6⟩
      clear cA0 cA1 cA2 KP
      have BL := alloc_below w6 (.cells #[.int .i64 0, .int .i64 k5, .slice p9 mb.length q9] 35)
      have S := Arr.new w6 [.int .i64 0, .int .i64 k5, .slice p9 mb.length q9] 35
      have hb7 := Below.step hb6 BL
      replace A := A.stay hb7
      replace rx := rx.keep hb7
      replace r9 := r9.keep BL
      replace BW := Below.step BW hb7
      have cS0 := (S.cell 0).trans (show _ = some _ from rfl)
      have cS1 := (S.cell 1).trans (show _ = some _ from rfl)
      have cS2 := (S.cell 2).trans (show _ = some _ from rfl)
      clear hb6 BL hb7
      go_wp2_with fail
      refine (KU.out _ _ _ r9).mono ?_
      rintro e w8 ⟨ph, qh, rfl, rh, hb8⟩
      clear cS0 cS1 cS2 KU
      have BL := alloc_below w8 (.cells #[.int .i64 0, .slice ph x.1.length qh, .int .i64 x.2.1, .int .i64 x.2.2] 31)
      have U := Arr.new w8 [.int .i64 0, .slice ph x.1.length qh, .int .i64 x.2.1, .int .i64 x.2.2] 31
      have hb9 := Below.step hb8 BL
      replace A := A.stay hb9
      replace S := S.stay hb9
      replace rx := rx.keep hb9
      replace r9 := r9.keep hb9
      replace rh := rh.keep BL
      replace BW := Below.step BW hb9
      have cA0 := (A.cell 0).trans (show _ = some _ from rfl)
      have cA1 := (A.cell 1).trans (show _ = some _ from rfl)
      have cA2 := (A.cell 2).trans (show _ = some _ from rfl)
      have cS0 := (S.cell 0).trans (show _ = some _ from rfl)
      have cS1 := (S.cell 1).trans (show _ = some _ from rfl)
      have cS2 := (S.cell 2).trans (show _ = some _ from rfl)
      have cU0 := (U.cell 0).trans (show _ = some _ from rfl)
      have cU1 := (U.cell 1).trans (show _ = some _ from rfl)
      have cU2 := (U.cell 2).trans (show _ = some _ from rfl)
      have cU3 := (U.cell 3).trans (show _ = some _ from rfl)
      clear hb8 BL hb9
      clear A S U
      go_wp2_with fail
      refine (lwSame_yes ph pv qh qv _ _ x.1 _ rfl rfl rh rx).mono ?_
      rintro e w10 ⟨rfl, hw10⟩
      subst hw10
      go_wp2_with fail
      refine (KF.out _ _ _ r9).mono ?_
      rintro e w11 ⟨rfl, hb11⟩
      go_wp2
      go_ret
      exact ⟨rfl, Below.step BW hb11⟩
    · obtain ⟨c5, HC5⟩ : ∃ c5, Hid (c5 = phC k5 x) := ⟨_, rfl⟩
      have hne0 : (c5 != 0) = true := by rw [bne_iff_ne, HC5.out]; exact hc
      have HP : Hid (phD k5 x = (c5, 0, [])) := by show _ = _; rw [phD, if_neg hc, HC5.out]
      have KP : Hid (∀ w, Rd w pv qv x.1 → Calls Try.prog 12 #[.int .i64 k5, .agg #[.slice pv x.1.length qv, .int .i64 x.2.1, .int .i64 x.2.2]] w fun e w' => ∃ p9 q9, e = .returned (.agg #[.int .i64 c5, .int .i64 0, .slice p9 0 q9]) ∧ Below w.heap.size w w') := fun w h => by
        refine (implPh_k k5 x _ w (hello_mk h)).mono ?_
        rintro e w' ⟨us, fp, rfl, ko, hb⟩
        rw [HP.out] at ko
        obtain ⟨p9, q9, rfl, r1⟩ := msgResult_rep (msgResultC.toRep ko)
        exact ⟨p9, q9, rfl, hb⟩
      have KQ : Hid (∀ w, Rd w pv qv x.1 → Calls Try.prog 14 #[.int .i64 k5, .agg #[.slice pv x.1.length qv, .int .i64 x.2.1, .int .i64 x.2.2]] w fun e w' => ∃ p9 q9, e = .returned (.agg #[.int .i64 c5, .int .i64 0, .slice p9 0 q9]) ∧ Below w.heap.size w w') := fun w h => by
        refine (specPh_k k5 x _ w (hello_mk h)).mono ?_
        rintro e w' ⟨us, fp, rfl, ko, hb⟩
        rw [HP.out] at ko
        obtain ⟨p9, q9, rfl, r1⟩ := msgResult_rep (msgResultC.toRep ko)
        exact ⟨p9, q9, rfl, hb⟩
      have KH : Hid (k5 ≤ 2 → ∀ w, Rd w pv qv x.1 → Calls Try.prog 15 #[.agg #[.slice pv x.1.length qv, .int .i64 x.2.1, .int .i64 x.2.2]] w fun e w' => e = .returned (.int .i64 c5) ∧ Below w.heap.size w w') := fun h2 w h => by
        have g := implHf_k x _ w (hello_mk h)
        have e5 : c5 = hfC x := by
          rw [HC5.out]
          unfold phC
          rw [if_pos (by unfold hkB; simp; omega)]
        rw [← e5] at g
        exact g
      clear hc HC5 HP hx8 hk1 hk3
      have cA0 := (A.cell 0).trans (show _ = some _ from rfl)
      have cA1 := (A.cell 1).trans (show _ = some _ from rfl)
      have cA2 := (A.cell 2).trans (show _ = some _ from rfl)
      go_wp2_with fail
      refine (KP.out _ rx).mono ?_
      rintro e w6 ⟨p9, q9, rfl, hb6⟩
      clear cA0 cA1 cA2 KP
      have BL := alloc_below w6 (.cells #[.int .i64 c5, .int .i64 0, .slice p9 0 q9] 35)
      have S := Arr.new w6 [.int .i64 c5, .int .i64 0, .slice p9 0 q9] 35
      have hb7 := Below.step hb6 BL
      replace A := A.stay hb7
      replace rx := rx.keep hb7
      replace BW := Below.step BW hb7
      have cS0 := (S.cell 0).trans (show _ = some _ from rfl)
      clear hb6 BL hb7
      go_wp2_with fail
      clear cS0
      generalize w6.alloc (.cells #[.int .i64 c5, .int .i64 0, .slice p9 0 q9] 35) = V6 at *
      have g0 := HW.at ((A.cell 0).trans (show _ = some _ from rfl))
      have g1 := HW.at ((A.cell 1).trans (show _ = some _ from rfl))
      have g2 := HW.at ((A.cell 2).trans (show _ = some _ from rfl))
      have g3 := HW.at ((S.cell 0).trans (show _ = some _ from rfl))
      have hne := HW.some V6
      have rf0 := mres_f0
      clear A S
      refine wp_region_pick [0, 1, 4, 5] 18 14 1 rfl rfl rfl (by kernel_rfl) (by kernel_rfl) (by kernel_rfl) (by kernel_rfl) ?_
      simp only [opsAt, List.getElem?_toArray, List.getElem?_cons_zero, List.getElem?_cons_succ]
      repeat (go_big_quiet_step (fail))
      refine wpQuiet_nil ?_
      refine wpM_only (i := 2) (by kernel_rfl) ?_
      refine mOp_call rfl (by go_simp) 14 _ #[.int .i64 k5, .agg #[.slice pv x.1.length qv, .int .i64 x.2.1, .int .i64 x.2.2]] (fun w => by go_simp) rfl ?_
      rintro _ ⟨sg, rfl⟩
      refine (KQ.out _ (rx.keep sg.h)).mono ?_
      rintro e w7 ⟨pz, qz, rfl, hbx⟩
      have hbg := Below.step sg.h hbx
      refine ⟨_, rfl, ⟨⟨w7, hbx⟩, rfl⟩, ?_⟩
      replace g0 := HW.down g0 hbg
      replace g1 := HW.down g1 hbg
      replace g2 := HW.down g2 hbg
      replace g3 := HW.down g3 hbg
      replace rx := rx.keep hbg
      replace BW := Below.step BW hbg
      replace hne := HW.some w7
      clear hbg hbx sg KQ
      by_cases h2 : 2 < k5
      · have hd : decide (2 < k5) = true := decide_eq_true h2
        clear KH
        refine wpM_more [3, 6, 7, 8, 9, 10, 11, 13, 14] 13 4 rfl (by kernel_rfl) (by kernel_rfl) (by kernel_rfl) (by kernel_rfl) ?_
        simp only [opsAt, List.getElem?_toArray, List.getElem?_cons_zero, List.getElem?_cons_succ]
        go_simp
        repeat (go_big_quiet_step (fail))
        refine wpQuiet_nil ?_
        refine wpM_only (i := 12) (by kernel_rfl) ?_
        refine mOp_skip rfl (by go_simp) ?_
        refine wpM_more [15, 16, 17] 3 0 rfl (by kernel_rfl) (by kernel_rfl) (by kernel_rfl) (by kernel_rfl) ?_
        simp only [opsAt, List.getElem?_toArray, List.getElem?_cons_zero, List.getElem?_cons_succ]
        go_simp
        repeat (go_big_quiet_step (fail))
        refine wpQuiet_nil ?_
        refine wpM_end (by kernel_rfl) rfl (by kernel_rfl) (by decide) ?_
        rintro _ ⟨sz, rfl⟩
        simp only [List.drop_succ_cons, List.drop_zero]
        go_wp2
        go_ret
        exact ⟨rfl, Below.step BW sz.h⟩
      · have hd : decide (2 < k5) = false := decide_eq_false h2
        refine wpM_more [3, 6, 7, 8, 9, 10, 11, 13, 14] 13 4 rfl (by kernel_rfl) (by kernel_rfl) (by kernel_rfl) (by kernel_rfl) ?_
        simp only [opsAt, List.getElem?_toArray, List.getElem?_cons_zero, List.getElem?_cons_succ]
        go_simp
        repeat (go_big_quiet_step (fail))
        refine wpQuiet_nil ?_
        refine wpM_only (i := 12) (by kernel_rfl) ?_
        refine mOp_call rfl (by go_simp) 15 _ #[.agg #[.slice pv x.1.length qv, .int .i64 x.2.1, .int .i64 x.2.2]] (fun w => by go_simp) rfl ?_
        rintro _ ⟨sg, rfl⟩
        refine (KH.out (by omega) _ (rx.keep sg.h)).mono ?_
        rintro e w8 ⟨rfl, hbx⟩
        have hbg := Below.step sg.h hbx
        refine ⟨_, rfl, ⟨⟨w8, hbx⟩, rfl⟩, ?_⟩
        replace BW := Below.step BW hbg
        replace hne := HW.some w8
        clear hbg hbx sg KH rx g0 g1 g2 g3
        refine wpM_more [15, 16, 17] 3 0 rfl (by kernel_rfl) (by kernel_rfl) (by kernel_rfl) (by kernel_rfl) ?_
        simp only [opsAt, List.getElem?_toArray, List.getElem?_cons_zero, List.getElem?_cons_succ]
        go_simp
        repeat (go_big_quiet_step (fail))
        refine wpQuiet_nil ?_
        refine wpM_end (by kernel_rfl) rfl (by kernel_rfl) (by decide) ?_
        rintro _ ⟨sz, rfl⟩
        simp only [List.drop_succ_cons, List.drop_zero]
        go_wp2
        go_ret
        exact ⟨rfl, Below.step BW sz.h⟩
end Go.Proofs.Ytpbkncliepkhaaa

