/- TranscriptOf, FinishedMsg, CheckFinished of the specification, at every argument. What was there stays. -/
import Derived.Test.YtpbkncliepkhaabDoorHel
import Derived.Test.YtpbkncliepkhaabDoorWireS
import Derived.Test.YtpbkncliepkhaabDoorJoint9
import Derived.Test.YtpbkncliepkhaabDoorSame
namespace Go.Proofs.YtpbkncliepkhaabDoor
open Go.ChangeShapes Go.WideShapes Go.ChangeAt Go.RowKit

set_option maxRecDepth 4000 in
set_option maxHeartbeats 1000000 in
theorem specTr_c (l : List MsgD) (p : Option Addr) (q : Nat) (w : World) (hr : RdL msgC w p q l) :
    Calls Tryd.prog 23 #[.slice p l.length q] w fun e w' => ∃ u, e = .returned (.agg #[.int .i64 (psC l), u]) ∧ Own w' w.heap.size u (trL l) ∧ Below w.heap.size w w' := by
  have BW := alloc_below w (.cells #[.int .i64 0, .slice none 0 0] 48)
  have R := Arr.new w [.int .i64 0, .slice none 0 0] 48
  have hz0 : Hid ((w.alloc (.cells #[.int .i64 0, .slice none 0 0] 48)).heap.size = w.heap.size + 1) := size_alloc _ _
  have KP := specPS_c l p q _ (hr.keep BW)
  clear hr
  by_cases hc : psC l = 0
  · have hpl : psL l = packAll l := by rw [psL, if_pos hc]
    have h600 := (psC_zero hc).2.2
    rw [hc, hpl] at KP
    rw [hc, show trL l = digestN (packAll l) by rw [trL, if_pos hc]]
    clear hc hpl
    generalize packAll l = bs at *
    go_enter Tryd.func23, Tryd.ntmps23
    go_wp2_with fail
    refine KP.mono ?_
    rintro e w1 ⟨u1, rfl, k1, hb1⟩
    obtain ⟨a1, c1, rfl, -⟩ := k1.rd
    have hl := alloc_below w1 (.cells #[.int .i64 0, .slice a1 bs.length c1] 48)
    replace R := (R.stay hb1).stay hl
    replace BW := Below.step (Below.step BW hb1) hl
    replace k1 := k1.stay hl
    have hz2 : Hid (w.heap.size + 1 ≤ (w1.alloc (.cells #[.int .i64 0, .slice a1 bs.length c1] 48)).heap.size) := by have h := (Below.step hb1 hl).size; rw [hz0.out] at h; exact h
    clear hb1 hl KP
    go_wp2_with fail
    refine (l2Digest_c a1 c1 bs _ (Rd.own k1) h600).mono ?_
    rintro e w2 ⟨u2, rfl, k2, hb2⟩
    obtain ⟨a2, c2, rfl, -⟩ := k2.rd
    replace k2 := k2.lower hz2.out
    replace R := R.stay hb2
    replace BW := Below.step BW hb2
    have t0 := (R.cell 0).trans (show _ = some _ from rfl)
    have t1 := (R.cell 1).trans (show _ = some _ from rfl)
    have ft := R.frozen
    clear R hb2
    go_wp2_with fail
    exact bodyPost_ret (v := .agg #[.int .i64 0, .slice a2 (digestN bs).length c2]) (by simp [results, Tryd.results23, go_sem, t0, t1]) rfl ⟨_, rfl, ((k2.set (Nat.lt_succ_self _) _).set (Nat.lt_succ_self _) _).lower (Nat.le_succ _), (BW.setCell (Nat.le_refl _) _).setCell (Nat.le_refl _) _⟩
  · have hd : (psC l != 0) = true := by rw [bne_iff_ne]; exact hc
    rw [show trL l = [] by rw [trL, if_neg hc]]
    clear hc
    generalize psC l = ac at *
    go_enter Tryd.func23, Tryd.ntmps23
    go_wp2_with fail
    refine KP.mono ?_
    rintro e w1 ⟨u1, rfl, k1, hb1⟩
    obtain ⟨a1, c1, rfl, -⟩ := k1.rd
    have hl := alloc_below w1 (.cells #[.int .i64 ac, .slice a1 (psL l).length c1] 48)
    replace R := (R.stay hb1).stay hl
    replace BW := Below.step (Below.step BW hb1) hl
    have t0 := (R.cell 0).trans (show _ = some _ from rfl)
    have t1 := (R.cell 1).trans (show _ = some _ from rfl)
    have ft := R.frozen
    clear R hb1 hl k1 KP
    go_wp2_with fail
    exact bodyPost_ret (v := .agg #[.int .i64 ac, .slice none 0 0]) (by simp [results, Tryd.results23, go_sem, t0, t1]) rfl ⟨_, rfl, Own_nil _ _, (BW.setCell (Nat.le_refl _) _).setCell (Nat.le_refl _) _⟩
theorem msgR_ownF {w : World} {B : Nat} {c k : Int} {bs : List UInt8} {u : Value} (h : Own w B u bs) : msgResultC.own w B (c, k, bs) [.int .i64 c, .int .i64 k, u] ([] ++ ([] ++ u.ownBlock.toList)) :=
  own_pair 0 own_int (own_pair 0 own_int ⟨u, rfl, h, rfl⟩ lt_nil (fun _ _ => Nat.zero_le _)) lt_nil (fun _ _ => Nat.zero_le _)
/-- The answer by its cells. -/
theorem fmD_bad {s : List UInt8} {l : List MsgD} (h : ¬ fmC s l = 0) : fmD s l = (fmC s l, 0, []) := by rw [fmD, if_neg h]
theorem fmD_ok {s : List UInt8} {l : List MsgD} (h : fmC s l = 0) : fmD s l = (0, 20, fmL s l) := by rw [fmD, if_pos h]
set_option maxRecDepth 4000 in
set_option maxHeartbeats 1000000 in
theorem specFm_c (s : List UInt8) (l : List MsgD) (p p2 : Option Addr) (q q2 : Nat) (w : World) (hs : Rd w p q s) (hr : RdL msgC w p2 q2 l) :
    Calls Tryd.prog 6 #[.slice p s.length q, .slice p2 l.length q2] w fun e w' => ∃ u, e = .returned (.agg #[.int .i64 (fmD s l).1, .int .i64 (fmD s l).2.1, u]) ∧ Own w' w.heap.size u (fmD s l).2.2 ∧ Below w.heap.size w w' := by
  have BW := alloc_below w (.cells #[.int .i64 0, .int .i64 0, .slice none 0 0] 28)
  have R := Arr.new w [.int .i64 0, .int .i64 0, .slice none 0 0] 28
  have hz0 : Hid ((w.alloc (.cells #[.int .i64 0, .int .i64 0, .slice none 0 0] 28)).heap.size = w.heap.size + 1) := size_alloc _ _
  have HS : Hid (Rd w p q s) := hs
  have KT := specTr_c l p2 q2 _ (hr.keep BW)
  clear hs hr
  cases h1 : is32 s
  · rw [fmD_bad (s := s) (l := l) (by rw [fmC, h1]; simp), show fmC s l = 1 by rw [fmC, h1]; rfl]
    clear KT
    go_enter Tryd.func6, Tryd.ntmps6
    go_wp2_with fail
    refine (l7Secret_c p q s _).mono ?_
    rintro e w1 ⟨rfl, hw⟩
    subst w1
    rw [h1]
    go_wp2_with fail
    exact bodyPost_ret (v := .agg #[.int .i64 1, .int .i64 0, .slice none 0 0]) (by simp [results, Tryd.results6, go_sem]) rfl ⟨_, rfl, Own_nil _ _, alloc_below _ _⟩
  · have h32 : s.length = 32 := by simpa [is32] using h1
    have HF : Hid (fmC s l = psC l) := by show _ = _; rw [fmC, h1]; rfl
    by_cases hc : psC l = 0
    · rw [fmD_ok (s := s) (l := l) (by rw [HF.out]; exact hc)]
      rw [hc, show trL l = digestN (packAll l) by rw [trL, if_pos hc]] at KT
      have HD : Hid ((digestN (packAll l)).length = 32) := digestN_len _
      rw [show fmL s l = finN s (digestN (packAll l)) from rfl]
      have H32 : Hid (s.length = 32) := h32
      clear hc h32 HF
      generalize digestN (packAll l) = dg at *
      go_enter Tryd.func6, Tryd.ntmps6
      go_wp2_with fail
      refine (l7Secret_c p q s _).mono ?_
      rintro e w1 ⟨rfl, hw⟩
      subst w1
      rw [h1]
      go_wp2_with fail
      refine KT.mono ?_
      rintro e w1 ⟨u1, rfl, k1, hb1⟩
      obtain ⟨a1, c1, rfl, -⟩ := k1.rd
      have hl := alloc_below w1 (.cells #[.int .i64 0, .slice a1 dg.length c1] 48)
      replace R := (R.stay hb1).stay hl
      replace BW := Below.step (Below.step BW hb1) hl
      replace k1 := k1.stay hl
      have hz2 : Hid (w.heap.size + 1 ≤ (w1.alloc (.cells #[.int .i64 0, .slice a1 dg.length c1] 48)).heap.size) := by have h := (Below.step hb1 hl).size; rw [hz0.out] at h; exact h
      clear hb1 hl KT
      go_wp2_with fail
      refine (l5Finish_c p a1 q c1 s dg _ (HS.out.keep BW) (Rd.own k1) (by have := H32.out; omega) (by have := HD.out; omega)).mono ?_
      rintro e w2 ⟨u2, rfl, k2, hb2⟩
      obtain ⟨a2, c2, rfl, -⟩ := k2.rd
      replace k2 := k2.lower hz2.out
      replace R := R.stay hb2
      replace BW := Below.step BW hb2
      have t0 := (R.cell 0).trans (show _ = some _ from rfl)
      have t1 := (R.cell 1).trans (show _ = some _ from rfl)
      have t2 := (R.cell 2).trans (show _ = some _ from rfl)
      have ft := R.frozen
      clear R hb2 k1
      go_wp2_with fail
      exact bodyPost_ret (v := .agg #[.int .i64 0, .int .i64 20, .slice a2 (finN s dg).length c2]) (by simp [results, Tryd.results6, go_sem, t0, t1, t2]) rfl ⟨_, rfl, (((k2.set (Nat.lt_succ_self _) _).set (Nat.lt_succ_self _) _).set (Nat.lt_succ_self _) _).lower (Nat.le_succ _), (((BW.setCell (Nat.le_refl _) _).setCell (Nat.le_refl _) _).setCell (Nat.le_refl _) _)⟩
    · have hd : (psC l != 0) = true := by rw [bne_iff_ne]; exact hc
      rw [fmD_bad (s := s) (l := l) (by rw [HF.out]; exact hc), HF.out]
      clear hc h32 HF
      generalize psC l = ac at *
      go_enter Tryd.func6, Tryd.ntmps6
      go_wp2_with fail
      refine (l7Secret_c p q s _).mono ?_
      rintro e w1 ⟨rfl, hw⟩
      subst w1
      rw [h1]
      go_wp2_with fail
      refine KT.mono ?_
      rintro e w1 ⟨u1, rfl, k1, hb1⟩
      obtain ⟨a1, c1, rfl, -⟩ := k1.rd
      have hl := alloc_below w1 (.cells #[.int .i64 ac, .slice a1 (trL l).length c1] 48)
      replace R := (R.stay hb1).stay hl
      replace BW := Below.step (Below.step BW hb1) hl
      have t0 := (R.cell 0).trans (show _ = some _ from rfl)
      have t1 := (R.cell 1).trans (show _ = some _ from rfl)
      have t2 := (R.cell 2).trans (show _ = some _ from rfl)
      have ft := R.frozen
      clear R hb1 hl k1 KT
      go_wp2_with fail
      exact bodyPost_ret (v := .agg #[.int .i64 ac, .int .i64 0, .slice none 0 0]) (by simp [results, Tryd.results6, go_sem, t0, t1, t2]) rfl ⟨_, rfl, Own_nil _ _, (((BW.setCell (Nat.le_refl _) _).setCell (Nat.le_refl _) _).setCell (Nat.le_refl _) _)⟩
theorem specFm_k (s : List UInt8) (l : List MsgD) (p p2 : Option Addr) (q q2 : Nat) (w : World) (hs : Rd w p q s) (hr : RdL msgC w p2 q2 l) :
    Calls Tryd.prog 6 #[.slice p s.length q, .slice p2 l.length q2] w fun e w' => ∃ us fp, e = .returned (.agg us.toArray) ∧ msgResultC.own w' w.heap.size (fmD s l) us fp ∧ Below w.heap.size w w' :=
  (specFm_c s l p p2 q q2 w hs hr).mono fun _ _ ⟨_, h1, h2, h3⟩ => ⟨_, _, h1, msgR_ownF h2, h3⟩
set_option maxRecDepth 4000 in
set_option maxHeartbeats 1000000 in
theorem specCf_c (s : List UInt8) (l : List MsgD) (m : MsgD) (p p2 p3 : Option Addr) (q q2 q3 : Nat) (w : World) (hs : Rd w p q s) (hr : RdL msgC w p2 q2 l) (hm : Rd w p3 q3 m.2) :
    Calls Tryd.prog 18 #[.slice p s.length q, .slice p2 l.length q2, .agg #[.int .i64 m.1, .slice p3 m.2.length q3]] w fun e w' => e = .returned (.int .i64 (cfC s l m)) ∧ Below w.heap.size w w' := by
  have BW := alloc_below w (.cells #[.int .i64 m.1, .slice p3 m.2.length q3] 26)
  have A := Arr.new w [.int .i64 m.1, .slice p3 m.2.length q3] 26
  have KM := specFm_c s l p p2 q q2 _ (hs.keep BW) (hr.keep BW)
  have HM : Hid (Rd w p3 q3 m.2) := hm
  clear hs hr hm
  suffices H : ∀ Q : Ending → World → Prop, Hid (∀ c w', c = cfC s l m → Below w.heap.size w w' → Q (.returned (.int .i64 c)) w') → Calls Tryd.prog 18 #[.slice p s.length q, .slice p2 l.length q2, .agg #[.int .i64 m.1, .slice p3 m.2.length q3]] w Q from H _ (show Hid _ from fun c w' hc hb => ⟨by rw [hc], hb⟩)
  intro Q HQ
  by_cases hf : fmC s l = 0
  · have hcf : Hid (cfC s l m = if faultW m.1 m.2.length = 0 then (if m.1 = 20 then (if m.2 = fmL s l then 0 else 7) else 1) else faultW m.1 m.2.length) := by show _ = _; rw [cfC, if_pos hf]
    rw [fmD_ok hf] at KM
    clear hf
    generalize fmL s l = fl at *
    go_enter Tryd.func18, Tryd.ntmps18
    go_wp2_with fail
    refine KM.mono ?_
    rintro e w1 ⟨u1, rfl, k1, hb1⟩
    obtain ⟨a1, c1, rfl, -⟩ := k1.rd
    have hl := alloc_below w1 (.cells #[.int .i64 0, .int .i64 20, .slice a1 fl.length c1] 28)
    replace A := (A.stay hb1).stay hl
    replace BW := Below.step (Below.step BW hb1) hl
    replace k1 := k1.stay hl
    have b0 := (A.cell 0).trans (show _ = some _ from rfl)
    have b1 := (A.cell 1).trans (show _ = some _ from rfl)
    have KF := l6Fault_c w.heap.size 0 m.2.length q3 p3 m.1 _ b0 b1
    clear hb1 hl KM
    go_wp2_with fail
    by_cases hc : faultW m.1 m.2.length = 0
    · rw [hc] at KF
      replace hcf : Hid (cfC s l m = (if m.1 = 20 then (if m.2 = fl then 0 else 7) else 1)) := by show _ = _; rw [hcf.out, if_pos hc]
      clear hc
      refine KF.mono ?_
      rintro e w2 ⟨rfl, hw⟩
      subst w2
      by_cases hk : m.1 = 20
      · have dk : (m.1 != 20) = false := by rw [bne_eq_false_iff_eq]; exact hk
        replace hcf : Hid (cfC s l m = (if m.2 = fl then 0 else 7)) := by show _ = _; rw [hcf.out, if_pos hk]
        clear hk
        go_wp2_with fail
        refine (l1Same_c p3 a1 q3 c1 m.2 fl _ (HM.out.keep BW) (Rd.own k1)).mono ?_
        rintro e w2 ⟨rfl, hw⟩
        subst w2
        by_cases he : m.2 = fl
        · rw [show sameB m.2 fl = true by simp [sameB, he]]
          replace hcf : Hid (cfC s l m = 0) := by show _ = _; rw [hcf.out, if_pos he]
          clear he
          go_wp2
          exact HQ.out _ _ hcf.out.symm BW
        · rw [show sameB m.2 fl = false by simp [sameB, he]]
          replace hcf : Hid (cfC s l m = 7) := by show _ = _; rw [hcf.out, if_neg he]
          clear he
          go_wp2
          exact HQ.out _ _ hcf.out.symm BW
      · have dk : (m.1 != 20) = true := by rw [bne_iff_ne]; exact hk
        replace hcf : Hid (cfC s l m = 1) := by show _ = _; rw [hcf.out, if_neg hk]
        clear hk
        go_wp2
        exact HQ.out _ _ hcf.out.symm BW
    · have hd : (faultW m.1 m.2.length != 0) = true := by rw [bne_iff_ne]; exact hc
      replace hcf : Hid (cfC s l m = faultW m.1 m.2.length) := by show _ = _; rw [hcf.out, if_neg hc]
      clear hc
      generalize faultW m.1 m.2.length = ac at *
      refine KF.mono ?_
      rintro e w2 ⟨rfl, hw⟩
      subst w2
      go_wp2
      exact HQ.out _ _ hcf.out.symm BW
  · have hd : (fmC s l != 0) = true := by rw [bne_iff_ne]; exact hf
    have hcf : Hid (cfC s l m = fmC s l) := by show _ = _; rw [cfC, if_neg hf]
    rw [fmD_bad hf] at KM
    clear hf
    generalize fmC s l = ac at *
    go_enter Tryd.func18, Tryd.ntmps18
    go_wp2_with fail
    refine KM.mono ?_
    rintro e w1 ⟨u1, rfl, k1, hb1⟩
    obtain ⟨a1, c1, rfl, -⟩ := k1.rd
    have hl := alloc_below w1 (.cells #[.int .i64 ac, .int .i64 0, .slice a1 0 c1] 28)
    replace BW := Below.step (Below.step BW hb1) hl
    clear hb1 hl KM A
    go_wp2
    exact HQ.out _ _ hcf.out.symm BW
theorem bytR_own {w : World} {B : Nat} {c : Int} {bs : List UInt8} {u : Value} (h : Own w B u bs) : bytesResultC.own w B (c, bs) [.int .i64 c, u] ([] ++ u.ownBlock.toList) :=
  own_pair 0 own_int ⟨u, rfl, h, rfl⟩ lt_nil (fun _ _ => Nat.zero_le _)
theorem trD_small (l : List MsgD) : bytesResultT (psC l, trL l) ≤ 1048576 := by
  show (trL l).length ≤ _
  unfold trL
  split
  · rw [digestN_len]; decide
  · exact Nat.zero_le _
theorem fmD_small (s : List UInt8) (l : List MsgD) : msgResultT (fmD s l) ≤ 1048576 := by
  unfold fmD
  split
  · show (fmL s l).length ≤ _
    unfold fmL finN macN
    rw [digestN_len]
    decide
  · exact Nat.zero_le _
theorem specTr_k (l : List MsgD) (u : Value) (w : World) (h : msgsC.rep w l [u]) :
    Calls Tryd.prog 23 #[u] w fun e w' => ∃ us fp, e = .returned (.agg us.toArray) ∧ bytesResultC.own w' w.heap.size (psC l, trL l) us fp ∧ Below w.heap.size w w' := by
  obtain ⟨p, q, e1, r⟩ := h
  simp only [List.cons.injEq, and_true] at e1
  subst e1
  exact (specTr_c l p q w r).mono fun _ _ ⟨_, h1, h2, h3⟩ => ⟨_, _, h1, bytR_own h2, h3⟩
theorem specFm_kk (s : List UInt8) (l : List MsgD) (u v : Value) (w : World) (h1 : bytC.rep w s [u]) (h2 : msgsC.rep w l [v]) :
    Calls Tryd.prog 6 #[u, v] w fun e w' => ∃ us fp, e = .returned (.agg us.toArray) ∧ msgResultC.own w' w.heap.size (fmD s l) us fp ∧ Below w.heap.size w w' := by
  obtain ⟨p, q, e1, r⟩ := h1
  obtain ⟨p2, q2, e2, r2⟩ := h2
  simp only [List.cons.injEq, and_true] at e1 e2
  subst e1 e2
  exact specFm_k s l p p2 q q2 w r r2
theorem specCf_kk (s : List UInt8) (l : List MsgD) (m : MsgD) (u v : Value) (us : List Value) (w : World) (h1 : bytC.rep w s [u]) (h2 : msgsC.rep w l [v]) (h3 : msgC.rep w m us) :
    Calls Tryd.prog 18 #[u, v, .agg us.toArray] w fun e w' => e = .returned (.int .i64 (cfC s l m)) ∧ Below w.heap.size w w' := by
  obtain ⟨p, q, e1, r⟩ := h1
  obtain ⟨p2, q2, e2, r2⟩ := h2
  obtain ⟨p3, q3, rfl, r3⟩ := msg_rep h3
  simp only [List.cons.injEq, and_true] at e1 e2
  subst e1 e2
  exact specCf_c s l m p p2 p3 q q2 q3 w r r2 r3
end Go.Proofs.YtpbkncliepkhaabDoor

