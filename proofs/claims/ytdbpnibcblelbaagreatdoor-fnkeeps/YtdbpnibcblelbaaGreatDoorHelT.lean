/- TranscriptOf, FinishedMsg, CheckFinished of the program, at every argument, where the two tables hold what the program's text lays (Tabs). What was there stays. -/
import Derived.Test.YtdbpnibcblelbaaGreatDoorJoint20
import Derived.Test.YtdbpnibcblelbaaGreatDoorJoint17
import Derived.Test.YtdbpnibcblelbaaGreatDoorJoint18
import Derived.Test.YtdbpnibcblelbaaGreatDoorJoint16
import Derived.Test.YtdbpnibcblelbaaGreatDoorJoint27
import Derived.Test.YtdbpnibcblelbaaGreatDoorJoint8
import Derived.Test.YtdbpnibcblelbaaGreatDoorJoint31
namespace Go.Proofs.YtdbpnibcblelbaaGreatDoor
open Go.ChangeShapes Go.WideShapes Go.ChangeAt Go.RowKit
set_option maxRecDepth 4000 in
set_option maxHeartbeats 1000000 in
theorem implTr_c (l : List MsgD) (p : Option Addr) (q : Nat) (w : World) (hr : RdL msgC w p q l) (hT : Tabs w) :
    Calls Tryz.prog 172 #[.slice p l.length q] w fun e w' => ∃ u, e = .returned (.agg #[.int .i64 (psC l), u]) ∧ Own w' w.heap.size u (trL l) ∧ Below w.heap.size w w' := by
  have BW := alloc_below w (.cells #[.int .i64 0, .slice none 0 0] 43)
  have R := Arr.new w [.int .i64 0, .slice none 0 0] 43
  have hz0 : Hid ((w.alloc (.cells #[.int .i64 0, .slice none 0 0] 43)).heap.size = w.heap.size + 1) := size_alloc _ _
  have KP := implPS_c l p q _ (hr.keep BW)
  have HT : Hid (Tabs w) := hT
  clear hr hT
  by_cases hc : psC l = 0
  · have hpl : psL l = packAll l := by rw [psL, if_pos hc]
    have H600 : Hid ((packAll l).length ≤ 600) := (psC_zero hc).2.2
    rw [hc, hpl] at KP
    rw [hc, show trL l = digestN (packAll l) by rw [trL, if_pos hc]]
    clear hc hpl
    generalize packAll l = bs at *
    go_enter Tryz.func172, Tryz.ntmps172
    go_wp2_with fail
    refine KP.mono ?_
    rintro e w1 ⟨u1, rfl, k1, hb1⟩
    obtain ⟨a1, c1, rfl, -⟩ := k1.rd
    have hl := alloc_below w1 (.cells #[.int .i64 0, .slice a1 bs.length c1] 43)
    replace R := (R.stay hb1).stay hl
    replace BW := Below.step (Below.step BW hb1) hl
    replace k1 := k1.stay hl
    have hz2 : Hid (w.heap.size + 1 ≤ (w1.alloc (.cells #[.int .i64 0, .slice a1 bs.length c1] 43)).heap.size) := by have h := (Below.step hb1 hl).size; rw [hz0.out] at h; exact h
    have KD := implDg_c a1 c1 bs _ (Rd.own k1) (HT.out.keep BW)
    rw [show dgCode bs = 0 by simp [dgCode, H600.out], show dgList bs = digestN bs by simp [dgList, H600.out]] at KD
    clear hb1 hl KP
    go_wp2_with fail
    refine KD.mono ?_
    rintro e w2 ⟨u2, rfl, k2, hb2⟩
    obtain ⟨a2, c2, rfl, -⟩ := k2.rd
    replace k2 := k2.lower hz2.out
    replace R := R.stay hb2
    replace BW := Below.step BW hb2
    have t0 := (R.cell 0).trans (show _ = some _ from rfl)
    have t1 := (R.cell 1).trans (show _ = some _ from rfl)
    have ft := R.frozen
    clear R hb2 KD
    go_wp2_with fail
    exact bodyPost_ret (v := .agg #[.int .i64 0, .slice a2 (digestN bs).length c2]) (by simp [results, Tryz.results172, go_sem, t0, t1]) rfl ⟨_, rfl, ((k2.set (Nat.lt_succ_self _) _).set (Nat.lt_succ_self _) _).lower (Nat.le_succ _), (BW.setCell (Nat.le_refl _) _).setCell (Nat.le_refl _) _⟩
  · have hd : (psC l != 0) = true := by rw [bne_iff_ne]; exact hc
    rw [show trL l = [] by rw [trL, if_neg hc]]
    rw [show psL l = [] by rw [psL, if_neg hc]] at KP
    clear hc
    generalize psC l = ac at *
    go_enter Tryz.func172, Tryz.ntmps172
    go_wp2_with fail
    refine KP.mono ?_
    rintro e w1 ⟨u1, rfl, k1, hb1⟩
    obtain ⟨a1, c1, rfl, -⟩ := k1.rd
    rw [hz0.out] at k1
    have hl := alloc_below w1 (.cells #[.int .i64 ac, .slice a1 ([] : List UInt8).length c1] 43)
    replace R := (R.stay hb1).stay hl
    replace BW := Below.step (Below.step BW hb1) hl
    replace k1 := k1.stay hl
    have t0 := (R.cell 0).trans (show _ = some _ from rfl)
    have t1 := (R.cell 1).trans (show _ = some _ from rfl)
    have ft := R.frozen
    clear R hb1 hl KP
    simp only [List.length_nil] at k1 BW t0 t1 ft ⊢
    go_wp2_with fail
    exact bodyPost_ret (v := .agg #[.int .i64 ac, .slice a1 0 c1]) (by simp [results, Tryz.results172, go_sem, t0, t1]) rfl ⟨_, rfl, ((k1.set (Nat.lt_succ_self _) _).set (Nat.lt_succ_self _) _).lower (Nat.le_succ _), (BW.setCell (Nat.le_refl _) _).setCell (Nat.le_refl _) _⟩
set_option maxRecDepth 4000 in
set_option maxHeartbeats 1000000 in
theorem implFm_c (s : List UInt8) (l : List MsgD) (p p2 : Option Addr) (q q2 : Nat) (w : World) (hs : Rd w p q s) (hr : RdL msgC w p2 q2 l) (hT : Tabs w) :
    Calls Tryz.prog 217 #[.slice p s.length q, .slice p2 l.length q2] w fun e w' => ∃ u, e = .returned (.agg #[.int .i64 (fmD s l).1, .int .i64 (fmD s l).2.1, u]) ∧ Own w' w.heap.size u (fmD s l).2.2 ∧ Below w.heap.size w w' := by
  have BW := alloc_below w (.cells #[.int .i64 0, .int .i64 0, .slice none 0 0] 249)
  have R := Arr.new w [.int .i64 0, .int .i64 0, .slice none 0 0] 249
  have hz0 : Hid ((w.alloc (.cells #[.int .i64 0, .int .i64 0, .slice none 0 0] 249)).heap.size = w.heap.size + 1) := size_alloc _ _
  have HS : Hid (Rd w p q s) := hs
  have KT := implTr_c l p2 q2 _ (hr.keep BW) (hT.keep BW)
  have HT : Hid (Tabs w) := hT
  clear hs hr hT
  cases h1 : is32 s
  · rw [fmD_bad (s := s) (l := l) (by rw [fmC, h1]; simp), show fmC s l = 1 by rw [fmC, h1]; rfl]
    clear KT
    go_enter Tryz.func217, Tryz.ntmps217
    go_wp2_with fail
    refine (isKeyR_c p q s _).mono ?_
    rintro e w1 ⟨rfl, hw⟩
    subst w1
    rw [h1]
    go_wp2_with fail
    exact bodyPost_ret (v := .agg #[.int .i64 1, .int .i64 0, .slice none 0 0]) (by simp [results, Tryz.results217, go_sem]) rfl ⟨_, rfl, Own_nil _ _, alloc_below _ _⟩
  · have h32 : s.length = 32 := by simpa [is32] using h1
    have HF : Hid (fmC s l = psC l) := by show _ = _; rw [fmC, h1]; rfl
    by_cases hc : psC l = 0
    · rw [fmD_ok (s := s) (l := l) (by rw [HF.out]; exact hc)]
      rw [hc, show trL l = digestN (packAll l) by rw [trL, if_pos hc]] at KT
      have HD : Hid ((digestN (packAll l)).length = 32) := digestN_len _
      rw [show fmL s l = finN s (digestN (packAll l)) from rfl]
      have H32 : Hid (s.length = 32) := h32
      clear hc h32 HF
      generalize digestN (packAll l) = dg at *
      have HFN : Hid (fnC s dg = 0 ∧ fnL s dg = finN s dg) := by
        have h := And.intro H32.out HD.out
        exact ⟨by rw [fnC, if_pos h], by rw [fnL, if_pos h]⟩
      go_enter Tryz.func217, Tryz.ntmps217
      go_wp2_with fail
      refine (isKeyR_c p q s _).mono ?_
      rintro e w1 ⟨rfl, hw⟩
      subst w1
      rw [h1]
      go_wp2_with fail
      refine KT.mono ?_
      rintro e w1 ⟨u1, rfl, k1, hb1⟩
      obtain ⟨a1, c1, rfl, -⟩ := k1.rd
      have hl := alloc_below w1 (.cells #[.int .i64 0, .slice a1 dg.length c1] 43)
      replace R := (R.stay hb1).stay hl
      replace BW := Below.step (Below.step BW hb1) hl
      replace k1 := k1.stay hl
      have hz2 : Hid (w.heap.size + 1 ≤ (w1.alloc (.cells #[.int .i64 0, .slice a1 dg.length c1] 43)).heap.size) := by have h := (Below.step hb1 hl).size; rw [hz0.out] at h; exact h
      have KF := implFn_c p a1 q c1 s dg _ (HS.out.keep BW) (Rd.own k1) (HT.out.keep BW)
      rw [HFN.out.1, HFN.out.2] at KF
      clear hb1 hl KT
      go_wp2_with fail
      refine KF.mono ?_
      rintro e w2 ⟨u2, rfl, k2, hb2⟩
      obtain ⟨a2, c2, rfl, -⟩ := k2.rd
      replace k2 := k2.lower hz2.out
      have hl2 := alloc_below w2 (.cells #[.int .i64 0, .slice a2 (finN s dg).length c2] 43)
      replace k2 := k2.stay hl2
      replace R := (R.stay hb2).stay hl2
      replace BW := Below.step (Below.step BW hb2) hl2
      have t0 := (R.cell 0).trans (show _ = some _ from rfl)
      have t1 := (R.cell 1).trans (show _ = some _ from rfl)
      have t2 := (R.cell 2).trans (show _ = some _ from rfl)
      have ft := R.frozen
      clear R hb2 hl2 k1 KF
      go_wp2_with fail
      exact bodyPost_ret (v := .agg #[.int .i64 0, .int .i64 20, .slice a2 (finN s dg).length c2]) (by simp [results, Tryz.results217, go_sem, t0, t1, t2]) rfl ⟨_, rfl, (((k2.set (Nat.lt_succ_self _) _).set (Nat.lt_succ_self _) _).set (Nat.lt_succ_self _) _).lower (Nat.le_succ _), (((BW.setCell (Nat.le_refl _) _).setCell (Nat.le_refl _) _).setCell (Nat.le_refl _) _)⟩
    · have hd : (psC l != 0) = true := by rw [bne_iff_ne]; exact hc
      rw [fmD_bad (s := s) (l := l) (by rw [HF.out]; exact hc), HF.out]
      clear hc h32 HF
      generalize psC l = ac at *
      go_enter Tryz.func217, Tryz.ntmps217
      go_wp2_with fail
      refine (isKeyR_c p q s _).mono ?_
      rintro e w1 ⟨rfl, hw⟩
      subst w1
      rw [h1]
      go_wp2_with fail
      refine KT.mono ?_
      rintro e w1 ⟨u1, rfl, k1, hb1⟩
      obtain ⟨a1, c1, rfl, -⟩ := k1.rd
      have hl := alloc_below w1 (.cells #[.int .i64 ac, .slice a1 (trL l).length c1] 43)
      replace R := (R.stay hb1).stay hl
      replace BW := Below.step (Below.step BW hb1) hl
      have t0 := (R.cell 0).trans (show _ = some _ from rfl)
      have t1 := (R.cell 1).trans (show _ = some _ from rfl)
      have t2 := (R.cell 2).trans (show _ = some _ from rfl)
      have ft := R.frozen
      clear R hb1 hl k1 KT
      go_wp2_with fail
      exact bodyPost_ret (v := .agg #[.int .i64 ac, .int .i64 0, .slice none 0 0]) (by simp [results, Tryz.results217, go_sem, t0, t1, t2]) rfl ⟨_, rfl, Own_nil _ _, (((BW.setCell (Nat.le_refl _) _).setCell (Nat.le_refl _) _).setCell (Nat.le_refl _) _)⟩
set_option maxRecDepth 4000 in
set_option maxHeartbeats 1000000 in
theorem implCf_c (s : List UInt8) (l : List MsgD) (m : MsgD) (p p2 p3 : Option Addr) (q q2 q3 : Nat) (w : World) (hs : Rd w p q s) (hr : RdL msgC w p2 q2 l) (hm : Rd w p3 q3 m.2) (hT : Tabs w) :
    Calls Tryz.prog 221 #[.slice p s.length q, .slice p2 l.length q2, .agg #[.int .i64 m.1, .slice p3 m.2.length q3]] w fun e w' => e = .returned (.int .i64 (cfC s l m)) ∧ Below w.heap.size w w' := by
  have BW := alloc_below w (.cells #[.int .i64 m.1, .slice p3 m.2.length q3] 82)
  have A := Arr.new w [.int .i64 m.1, .slice p3 m.2.length q3] 82
  have KM := implFm_c s l p p2 q q2 _ (hs.keep BW) (hr.keep BW) (hT.keep BW)
  have HM : Hid (Rd w p3 q3 m.2) := hm
  have KF := implMF_n m.1 m.2.length q3 p3
  clear hs hr hm hT
  suffices H : ∀ Q : Ending → World → Prop, Hid (∀ c w', c = cfC s l m → Below w.heap.size w w' → Q (.returned (.int .i64 c)) w') → Calls Tryz.prog 221 #[.slice p s.length q, .slice p2 l.length q2, .agg #[.int .i64 m.1, .slice p3 m.2.length q3]] w Q from H _ (show Hid _ from fun c w' hc hb => ⟨by rw [hc], hb⟩)
  intro Q HQ
  by_cases hf : fmC s l = 0
  · have hcf : Hid (cfC s l m = if faultW m.1 m.2.length = 0 then (if m.1 = 20 then (if m.2 = fmL s l then 0 else 7) else 1) else faultW m.1 m.2.length) := by show _ = _; rw [cfC, if_pos hf]
    rw [fmD_ok hf] at KM
    clear hf
    generalize fmL s l = fl at *
    by_cases hc : faultW m.1 m.2.length = 0
    · have KF2 : Hid (∀ w, Calls Tryz.prog 219 #[.agg #[.int .i64 m.1, .slice p3 m.2.length q3]] w fun e w' => e = .returned (.int .i64 0) ∧ Below w.heap.size w w') := fun w => by have h := KF w; rw [hc] at h; exact h
      replace hcf : Hid (cfC s l m = (if m.1 = 20 then (if m.2 = fl then 0 else 7) else 1)) := by show _ = _; rw [hcf.out, if_pos hc]
      clear hc KF
      go_enter Tryz.func221, Tryz.ntmps221
      go_wp2_with fail
      refine KM.mono ?_
      rintro e w1 ⟨u1, rfl, k1, hb1⟩
      obtain ⟨a1, c1, rfl, -⟩ := k1.rd
      have hl := alloc_below w1 (.cells #[.int .i64 0, .int .i64 20, .slice a1 fl.length c1] 249)
      have N := Arr.new w1 [.int .i64 0, .int .i64 20, .slice a1 fl.length c1] 249
      replace A := (A.stay hb1).stay hl
      replace BW := Below.step (Below.step BW hb1) hl
      replace k1 := k1.stay hl
      have b0 := (A.cell 0).trans (show _ = some _ from rfl)
      have b1 := (A.cell 1).trans (show _ = some _ from rfl)
      clear hb1 hl KM
      go_wp2_with fail
      refine (KF2.out _).mono ?_
      rintro e w2 ⟨rfl, hb2⟩
      replace A := A.stay hb2
      replace N := N.stay hb2
      replace BW := Below.step BW hb2
      replace k1 := k1.stay hb2
      replace b0 := (A.cell 0).trans (show _ = some _ from rfl)
      replace b1 := (A.cell 1).trans (show _ = some _ from rfl)
      have n2 := (N.cell 2).trans (show _ = some _ from rfl)
      clear hb2
      by_cases hk : m.1 = 20
      · have dk : (m.1 != 20) = false := by rw [bne_eq_false_iff_eq]; exact hk
        replace hcf : Hid (cfC s l m = (if m.2 = fl then 0 else 7)) := by show _ = _; rw [hcf.out, if_pos hk]
        clear hk
        go_wp2_with fail
        refine (implSame_c p3 a1 q3 c1 m.2 fl _ (HM.out.keep BW) (Rd.own k1)).mono ?_
        rintro e w3 ⟨rfl, hb3⟩
        replace BW := Below.step BW hb3
        clear hb3
        by_cases he : m.2 = fl
        · rw [show sameB m.2 fl = true by simp [sameB, he]]
          replace hcf : Hid (cfC s l m = 0) := by show _ = _; rw [hcf.out, if_pos he]
          clear he
          go_wp2
          exact HQ.out _ _ hcf.out.symm BW
        · rw [show sameB m.2 fl = false by simp [sameB, he]]
          replace hcf : Hid (cfC s l m = 7) := by show _ = _; rw [hcf.out, if_neg he]
          clear he
          go_wp2
          exact HQ.out _ _ hcf.out.symm BW
      · have dk : (m.1 != 20) = true := by rw [bne_iff_ne]; exact hk
        replace hcf : Hid (cfC s l m = 1) := by show _ = _; rw [hcf.out, if_neg hk]
        clear hk
        go_wp2
        exact HQ.out _ _ hcf.out.symm BW
    · have hd : (faultW m.1 m.2.length != 0) = true := by rw [bne_iff_ne]; exact hc
      replace hcf : Hid (cfC s l m = faultW m.1 m.2.length) := by show _ = _; rw [hcf.out, if_neg hc]
      have KF2 : Hid (∀ w, Calls Tryz.prog 219 #[.agg #[.int .i64 m.1, .slice p3 m.2.length q3]] w fun e w' => e = .returned (.int .i64 (faultW m.1 m.2.length)) ∧ Below w.heap.size w w') := KF
      clear hc KF
      generalize faultW m.1 m.2.length = ac at *
      go_enter Tryz.func221, Tryz.ntmps221
      go_wp2_with fail
      refine KM.mono ?_
      rintro e w1 ⟨u1, rfl, k1, hb1⟩
      obtain ⟨a1, c1, rfl, -⟩ := k1.rd
      have hl := alloc_below w1 (.cells #[.int .i64 0, .int .i64 20, .slice a1 fl.length c1] 249)
      replace A := (A.stay hb1).stay hl
      replace BW := Below.step (Below.step BW hb1) hl
      have b0 := (A.cell 0).trans (show _ = some _ from rfl)
      have b1 := (A.cell 1).trans (show _ = some _ from rfl)
      clear hb1 hl KM k1
      go_wp2_with fail
      refine (KF2.out _).mono ?_
      rintro e w2 ⟨rfl, hb2⟩
      replace BW := Below.step BW hb2
      clear hb2
      go_wp2
      exact HQ.out _ _ hcf.out.symm BW
  · have hd : (fmC s l != 0) = true := by rw [bne_iff_ne]; exact hf
    have hcf : Hid (cfC s l m = fmC s l) := by show _ = _; rw [cfC, if_neg hf]
    rw [fmD_bad hf] at KM
    clear hf
    generalize fmC s l = ac at *
    go_enter Tryz.func221, Tryz.ntmps221
    go_wp2_with fail
    refine KM.mono ?_
    rintro e w1 ⟨u1, rfl, k1, hb1⟩
    obtain ⟨a1, c1, rfl, -⟩ := k1.rd
    have hl := alloc_below w1 (.cells #[.int .i64 ac, .int .i64 0, .slice a1 0 c1] 249)
    replace BW := Below.step (Below.step BW hb1) hl
    clear hb1 hl KM A
    go_wp2
    exact HQ.out _ _ hcf.out.symm BW
end Go.Proofs.YtdbpnibcblelbaaGreatDoor
