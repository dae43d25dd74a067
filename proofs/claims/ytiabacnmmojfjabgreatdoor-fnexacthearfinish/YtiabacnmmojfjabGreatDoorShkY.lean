import Derived.Test.YtiabacnmmojfjabGreatDoorShkU
import Derived.Test.YtiabacnmmojfjabGreatDoorShkX
import Derived.Test.YtiabacnmmojfjabGreatDoorJoint21
import Derived.Test.YtiabacnmmojfjabGreatDoorJoint22
namespace Go.Proofs.YtiabacnmmojfjabGreatDoor
open Go.ChangeShapes Go.WideShapes Go.ChangeAt Go.RowKit
set_option maxRecDepth 4000 in
set_option maxHeartbeats 4000000 in
theorem specHn_c (s : SideD) (st mo : Int) (l : List MsgD) (base : List UInt8) (x : SecretsD) (m : MsgD) (p p2 p3 p4 p5 p6 p7 p8 p9 : Option Addr) (q q2 q3 q4 q5 q6 q7 q8 q9 : Nat) (w : World) (h1 : Rd w p q s.2.1) (h2 : Rd w p2 q2 s.2.2.2) (h3 : RdL msgC w p3 q3 l) (h4 : Rd w p4 q4 base) (h9 : Rd w p9 q9 m.2) :
  Calls Tryz.prog 20 #[.agg #[.int .i64 s.1, .slice p s.2.1.length q, .int .i64 s.2.2.1, .slice p2 s.2.2.2.length q2, .int .i64 st, .int .i64 mo, .slice p3 l.length q3, .slice p4 base.length q4, .slice p5 x.1.length q5, .slice p6 x.2.1.length q6, .slice p7 x.2.2.1.length q7, .slice p8 x.2.2.2.length q8], .agg #[.int .i64 m.1, .slice p9 m.2.length q9]] w fun e w' => ∃ us fp, e = .returned (.agg us.toArray) ∧ endResultC.own w' w.heap.size (hnE (s, st, mo, l, base, x) m) us fp ∧ Below w.heap.size w w' := by
 suffices H : ∀ Q : Ending → World → Prop, Hid (∀ e w', (∃ us fp, e = .returned (.agg us.toArray) ∧ endResultC.own w' w.heap.size (hnE (s, st, mo, l, base, x) m) us fp ∧ Below w.heap.size w w') → Q e w') → Calls Tryz.prog 20 #[.agg #[.int .i64 s.1, .slice p s.2.1.length q, .int .i64 s.2.2.1, .slice p2 s.2.2.2.length q2, .int .i64 st, .int .i64 mo, .slice p3 l.length q3, .slice p4 base.length q4, .slice p5 x.1.length q5, .slice p6 x.2.1.length q6, .slice p7 x.2.2.1.length q7, .slice p8 x.2.2.2.length q8], .agg #[.int .i64 m.1, .slice p9 m.2.length q9]] w Q from H _ (show Hid _ from fun _ _ h => h)
 intro Q HQ
 have HR1 : Hid (Rd w p q s.2.1) := h1
 have HR2 : Hid (Rd w p2 q2 s.2.2.2) := h2
 have HRL : Hid (RdL msgC w p3 q3 l) := h3
 have HRB : Hid (Rd w p4 q4 base) := h4
 have HRM : Hid (Rd w p9 q9 m.2) := h9
 have BW := Below.mk (Below.mk (alloc_below w (.cells #[.int .i64 s.1, .slice p s.2.1.length q, .int .i64 s.2.2.1, .slice p2 s.2.2.2.length q2, .int .i64 st, .int .i64 mo, .slice p3 l.length q3, .slice p4 base.length q4, .slice p5 x.1.length q5, .slice p6 x.2.1.length q6, .slice p7 x.2.2.1.length q7, .slice p8 x.2.2.2.length q8] 36)) (.cells #[.int .i64 m.1, .slice p9 m.2.length q9] 53)) (.cells #[.int .i64 0, .int .i64 0, .slice none 0 0, .int .i64 0, .slice none 0 0, .int .i64 0, .int .i64 0, .slice none 0 0, .slice none 0 0, .slice none 0 0, .slice none 0 0, .slice none 0 0, .slice none 0 0, .slice none 0 0] 38)
 have A := ((Arr.new w [.int .i64 s.1, .slice p s.2.1.length q, .int .i64 s.2.2.1, .slice p2 s.2.2.2.length q2, .int .i64 st, .int .i64 mo, .slice p3 l.length q3, .slice p4 base.length q4, .slice p5 x.1.length q5, .slice p6 x.2.1.length q6, .slice p7 x.2.2.1.length q7, .slice p8 x.2.2.2.length q8] 36).old _ (.cells #[.int .i64 m.1, .slice p9 m.2.length q9] 53)).old _ (.cells #[.int .i64 0, .int .i64 0, .slice none 0 0, .int .i64 0, .slice none 0 0, .int .i64 0, .int .i64 0, .slice none 0 0, .slice none 0 0, .slice none 0 0, .slice none 0 0, .slice none 0 0, .slice none 0 0, .slice none 0 0] 38)
 have N := (Arr.new (w.alloc (.cells #[.int .i64 s.1, .slice p s.2.1.length q, .int .i64 s.2.2.1, .slice p2 s.2.2.2.length q2, .int .i64 st, .int .i64 mo, .slice p3 l.length q3, .slice p4 base.length q4, .slice p5 x.1.length q5, .slice p6 x.2.1.length q6, .slice p7 x.2.2.1.length q7, .slice p8 x.2.2.2.length q8] 36)) [.int .i64 m.1, .slice p9 m.2.length q9] 53).old _ (.cells #[.int .i64 0, .int .i64 0, .slice none 0 0, .int .i64 0, .slice none 0 0, .int .i64 0, .int .i64 0, .slice none 0 0, .slice none 0 0, .slice none 0 0, .slice none 0 0, .slice none 0 0, .slice none 0 0, .slice none 0 0] 38)
 have R := Arr.new ((w.alloc (.cells #[.int .i64 s.1, .slice p s.2.1.length q, .int .i64 s.2.2.1, .slice p2 s.2.2.2.length q2, .int .i64 st, .int .i64 mo, .slice p3 l.length q3, .slice p4 base.length q4, .slice p5 x.1.length q5, .slice p6 x.2.1.length q6, .slice p7 x.2.2.1.length q7, .slice p8 x.2.2.2.length q8] 36)).alloc (.cells #[.int .i64 m.1, .slice p9 m.2.length q9] 53)) [.int .i64 0, .int .i64 0, .slice none 0 0, .int .i64 0, .slice none 0 0, .int .i64 0, .int .i64 0, .slice none 0 0, .slice none 0 0, .slice none 0 0, .slice none 0 0, .slice none 0 0, .slice none 0 0, .slice none 0 0] 38
 rw [size_alloc] at N
 rw [size_alloc, size_alloc] at R
 obtain ⟨W0, HW0⟩ : ∃ W, Hid (W = ((w.alloc (.cells #[.int .i64 s.1, .slice p s.2.1.length q, .int .i64 s.2.2.1, .slice p2 s.2.2.2.length q2, .int .i64 st, .int .i64 mo, .slice p3 l.length q3, .slice p4 base.length q4, .slice p5 x.1.length q5, .slice p6 x.2.1.length q6, .slice p7 x.2.2.1.length q7, .slice p8 x.2.2.2.length q8] 36)).alloc (.cells #[.int .i64 m.1, .slice p9 m.2.length q9] 53)).alloc (.cells #[.int .i64 0, .int .i64 0, .slice none 0 0, .int .i64 0, .slice none 0 0, .int .i64 0, .int .i64 0, .slice none 0 0, .slice none 0 0, .slice none 0 0, .slice none 0 0, .slice none 0 0, .slice none 0 0, .slice none 0 0] 38)) := ⟨_, rfl⟩
 have KE : Hid (∀ W, W = ((w.alloc (.cells #[.int .i64 s.1, .slice p s.2.1.length q, .int .i64 s.2.2.1, .slice p2 s.2.2.2.length q2, .int .i64 st, .int .i64 mo, .slice p3 l.length q3, .slice p4 base.length q4, .slice p5 x.1.length q5, .slice p6 x.2.1.length q6, .slice p7 x.2.2.1.length q7, .slice p8 x.2.2.2.length q8] 36)).alloc (.cells #[.int .i64 m.1, .slice p9 m.2.length q9] 53)).alloc (.cells #[.int .i64 0, .int .i64 0, .slice none 0 0, .int .i64 0, .slice none 0 0, .int .i64 0, .int .i64 0, .slice none 0 0, .slice none 0 0, .slice none 0 0, .slice none 0 0, .slice none 0 0, .slice none 0 0, .slice none 0 0] 38) → Calls Tryz.prog 36 #[.pointer (some ⟨w.heap.size, 0, none⟩)] W fun e w' => e = .returned (.int .i64 (efC (s, st, mo, l, base, x))) ∧ w' = W) := fun W hW => by
  subst hW
  exact l11Fault_c w.heap.size (s, st, mo, l, base, x) p p2 p3 p4 p5 p6 p7 p8 q q2 q3 q4 q5 q6 q7 q8 _ (fun i v hv => (A.cell i).trans hv) (HRL.out.keep BW)
 clear h1 h2 h3 h4 h9 HW0
 clear W0
 by_cases he : efC (s, st, mo, l, base, x) = 0
 ·rw [he] at KE
  have a4 := (A.cell 4).trans (show _ = some _ from rfl)
  have a6 := (A.cell 6).trans (show _ = some _ from rfl)
  have a7 := (A.cell 7).trans (show _ = some _ from rfl)
  by_cases hst : st = 2
  ·have ds : (st != 2) = false := by rw [bne_eq_false_iff_eq]; exact hst
   by_cases hl3 : l.length = 3
   ·have dl : ((l.length : Int) != 3) = false := by rw [bne_eq_false_iff_eq]; omega
    by_cases hb : base.length = 0
    ·have db : ((base.length : Int) == 0) = true := by rw [beq_iff_eq]; omega
     rw [hnE_state he (fun h => h.2.2 hb)] at HQ
     clear hst hl3 hb he
     go_enter Tryz.func20, Tryz.ntmps20
     go_wp2_with fail
     refine (KE.out _ rfl).mono ?_
     rintro e w1 ⟨rfl, hw⟩
     subst hw
     clear KE
     go_wp2_with fail
     refine (l11Bad_c 8 _).mono ?_
     rintro e wb ⟨rfl, hbb⟩
     replace R := R.stay hbb
     replace BW := Below.step BW hbb
     have t0 := (R.cell 0).trans (show _ = some _ from rfl)
     have t1 := (R.cell 1).trans (show _ = some _ from rfl)
     have t2 := (R.cell 2).trans (show _ = some _ from rfl)
     have t3 := (R.cell 3).trans (show _ = some _ from rfl)
     have t4 := (R.cell 4).trans (show _ = some _ from rfl)
     have t5 := (R.cell 5).trans (show _ = some _ from rfl)
     have t6 := (R.cell 6).trans (show _ = some _ from rfl)
     have t7 := (R.cell 7).trans (show _ = some _ from rfl)
     have t8 := (R.cell 8).trans (show _ = some _ from rfl)
     have t9 := (R.cell 9).trans (show _ = some _ from rfl)
     have t10 := (R.cell 10).trans (show _ = some _ from rfl)
     have t11 := (R.cell 11).trans (show _ = some _ from rfl)
     have t12 := (R.cell 12).trans (show _ = some _ from rfl)
     have t13 := (R.cell 13).trans (show _ = some _ from rfl)
     have ft := R.frozen
     clear R hbb
     go_wp2_with fail
     exact bodyPost_ret (v := .agg #[.int .i64 8, .int .i64 0, .slice none 0 0, .int .i64 0, .slice none 0 0, .int .i64 0, .int .i64 0, .slice none 0 0, .slice none 0 0, .slice none 0 0, .slice none 0 0, .slice none 0 0, .slice none 0 0, .slice none 0 0]) (by simp [results, Tryz.results20, go_sem, t0, t1, t2, t3, t4, t5, t6, t7, t8, t9, t10, t11, t12, t13]) rfl (HQ.out _ _ ⟨[_, _, _, _, _, _, _, _, _, _, _, _, _, _], _, rfl, badE_own _ _ _, ((((((((((((((BW.setCell (show w.heap.size ≤ w.heap.size + 2 by omega) _).setCell (show w.heap.size ≤ w.heap.size + 2 by omega) _).setCell (show w.heap.size ≤ w.heap.size + 2 by omega) _).setCell (show w.heap.size ≤ w.heap.size + 2 by omega) _).setCell (show w.heap.size ≤ w.heap.size + 2 by omega) _).setCell (show w.heap.size ≤ w.heap.size + 2 by omega) _).setCell (show w.heap.size ≤ w.heap.size + 2 by omega) _).setCell (show w.heap.size ≤ w.heap.size + 2 by omega) _).setCell (show w.heap.size ≤ w.heap.size + 2 by omega) _).setCell (show w.heap.size ≤ w.heap.size + 2 by omega) _).setCell (show w.heap.size ≤ w.heap.size + 2 by omega) _).setCell (show w.heap.size ≤ w.heap.size + 2 by omega) _).setCell (show w.heap.size ≤ w.heap.size + 2 by omega) _).setCell (show w.heap.size ≤ w.heap.size + 2 by omega) _)⟩)
    ·have db : ((base.length : Int) == 0) = false := by rw [beq_eq_false_iff_ne]; omega
     have hb0 : Hid (base.length ≠ 0) := hb
     subst hst
     obtain ⟨a, b, c, rfl⟩ := three_of hl3
     rw [show [a, b, c].length = 3 from rfl] at A N R BW KE a4 a6 a7 ⊢
     obtain ⟨gb, go, e3, hc3⟩ := HRL.out.2.2.2 (by simp)
     obtain ⟨us0, hrep0, hcell0⟩ := hc3 0 a rfl
     obtain ⟨pa0, qa0, rfl, ra0⟩ := msg_rep hrep0
     have l0 := cell_keep (hcell0 0 _ rfl) BW
     have l1 := cell_keep (hcell0 1 _ rfl) BW
     simp only [Nat.zero_mul, Nat.add_zero] at l0 l1
     have HRA : Hid (Rd w pa0 qa0 a.2) := ra0
     have hq1 : 3 ≤ q3 := HRL.out.1
     have hq2 : q3 ≤ 2 ^ 63 - 1 := HRL.out.2.1
     subst e3
     have e4 := a4
     have e6 := a6
     have e7 := a7
     clear hl3 hb dl ds hc3 hcell0 hrep0 ra0 a4 a6 a7
     go_enter Tryz.func20, Tryz.ntmps20
     go_wp2_with fail
     refine (KE.out _ rfl).mono ?_
     rintro e w1 ⟨rfl, hw⟩
     subst hw
     clear KE
     have hp := ef_parts he
     have hps := sf_parts hp.1
     have HSF : Hid (sfC s = 0) := hp.1
     have HFA : Hid (∀ y ∈ [a, b, c], faultW y.1 y.2.length = 0) := firstF_all hp.2.2.2.2.1
     have HB32 : Hid (base.length ≤ 64) := by have h : base.length = 0 ∨ base.length = 32 := hp.2.2.2.2.2.1; show _ ≤ _; omega
     have HP3 : Hid ((packAll [a, b, c]).length ≤ 600) := by have h := packAll_small HFA.out; simp only [List.length_cons, List.length_nil] at h; show _ ≤ _; omega
     have HLB : Hid (bulkM [a, b, c] ≤ 1000000) := by have h := bulk_small HFA.out; simp only [List.length_cons, List.length_nil] at h; show _ ≤ _; omega
     clear hp hps
     go_wp2_with fail
     refine (specUh_k 1 a _ _ (msg_mk (HRA.out.keep BW))).mono ?_
     rintro e w1 ⟨us, fp, rfl, kh, hb1⟩
     obtain ⟨pr, qr, rfl, -⟩ := helloResult_rep (helloResultC.toRep kh)
     clear kh
     have UC : Hid ((uhD 1 a).1 = uhC 1 a) := rfl
     obtain ⟨h, HH⟩ : ∃ h, Hid (h = (uhD 1 a).2) := ⟨_, rfl⟩
     rw [UC.out, ← HH.out]
     have HRl0 : Hid (w.heap.size + 2 < w1.heap.size) := (R.stay hb1).lt
     have hl := alloc_below w1 (.cells #[.int .i64 (uhC 1 a), .slice pr h.1.length qr, .int .i64 h.2.1, .int .i64 h.2.2] 76)
     have X := Arr.new w1 [.int .i64 (uhC 1 a), .slice pr h.1.length qr, .int .i64 h.2.1, .int .i64 h.2.2] 76
     replace A := (A.stay hb1).stay hl
     replace N := (N.stay hb1).stay hl
     replace R := (R.stay hb1).stay hl
     replace BW := Below.step (Below.step BW hb1) hl
     clear hb1 hl e6 e7 e4 l0 l1
     by_cases hu : uhC 1 a = 0
     ·have HC2 : Hid (hnC2 (s, 2, mo, [a, b, c], base, x) a b c m = cfC (hnK (s, 2, mo, [a, b, c], base, x) a b h) [a, b, c] m) := by show _ = _; rw [hnC2, if_pos hu, HH.out]
      obtain ⟨-, -, -, y, -, huy, huc, -⟩ := uh_fault hu
      rw [← HH.out] at huy
      subst huy
      obtain ⟨-, hh1, hh2, -, -⟩ := hf_parts huc
      rw [hu] at X A N R BW ⊢
      obtain ⟨S, HS⟩ : ∃ S, Hid (S = secN s h.2.1 mo) := ⟨_, rfl⟩
      have HS32 : Hid (S.length = 32) := by show _ = _; rw [HS.out]; exact secN_len _ _ _
      obtain ⟨dg, HDG⟩ : ∃ d, Hid (d = digM [a, b]) := ⟨_, rfl⟩
      have HD32 : Hid (dg.length = 32) := by show _ = _; rw [HDG.out]; exact digM_len _
      obtain ⟨K, HK⟩ : ∃ K, Hid (K = trafN S cHsB dg) := ⟨_, rfl⟩
      have HKE : Hid (hnK (s, 2, mo, [a, b, c], base, x) a b h = K) := by show _ = _; rw [HK.out, HS.out, HDG.out]; rfl
      have KSec : Hid (∀ W, Below w.heap.size w W → AtS W w.heap.size 0 p q p2 q2 s → Calls Tryz.prog 39 #[.pointer (some ⟨w.heap.size, 0, none⟩), .int .i64 h.2.1, .int .i64 mo] W fun e w' => ∃ u, e = .returned u ∧ Own w' W.heap.size u S ∧ Below W.heap.size W w') := fun W hW hA => by rw [HS.out]; exact l11Secret_c w.heap.size 0 s h.2.1 mo p p2 q q2 W hA (HR2.out.keep hW) HSF.out hh1 hh2
      have KD : Hid (∀ W, Below w.heap.size w W → Calls Tryz.prog 43 #[.slice (some ⟨gb, go, none⟩) 2 q3] W fun e w' => ∃ u, e = .returned u ∧ Own w' W.heap.size u dg ∧ Below W.heap.size W w') := fun W hW => by
       rw [HDG.out]
       exact l11Digest_c [a, b] (some ⟨gb, go, none⟩) q3 W (((HRL.out).take 2).keep hW) (packAll_take_le [a, b, c] 2 HP3.out)
      have a4 := (A.cell 4).trans (show _ = some _ from rfl)
      have a5 := (A.cell 5).trans (show _ = some _ from rfl)
      have x2 := (X.cell 2).trans (show _ = some _ from rfl)
      have x0 := (X.cell 0).trans (show _ = some _ from rfl)
      clear hu huc
      go_wp2_with fail
      refine (KSec.out _ BW ⟨A.cell 0, A.cell 1, A.cell 2, A.cell 3⟩).mono ?_
      rintro e w2 ⟨uS, rfl, kS, hb2⟩
      obtain ⟨ps, qs, rfl, -⟩ := kS.rd
      replace A := A.stay hb2
      replace N := N.stay hb2
      replace R := R.stay hb2
      replace BW := Below.step BW hb2
      have RS := Rd.own kS
      have KT : Hid (∀ W pd qd, Rd W ps qs S → Rd W pd qd dg → Calls Tryz.prog 42 #[.slice ps S.length qs, .string ⟨#[99, 32, 104, 115, 32, 116, 114, 97, 102, 102, 105, 99]⟩, .slice pd dg.length qd] W fun e w' => ∃ u, e = .returned u ∧ Own w' W.heap.size u K ∧ Below W.heap.size W w') := fun W pd qd h1 h2 => by
       have h := l7Traffic_c ps pd qs qd S cHsB dg W h1 h2 (by have := HS32.out; omega) (by decide) (by have := HD32.out; omega)
       rw [← cHs_str, ← HK.out] at h
       exact h
      clear hb2 X x0 x2 a4 a5 kS
      go_wp2_with fail
      obtain ⟨V, HV⟩ : ∃ V, Hid (V = w2) := ⟨_, rfl⟩
      rw [← HV.out] at A N R BW RS ⊢
      clear HV
      have e6 := (A.cell 6).trans (show _ = some _ from rfl)
      have m0 := (N.cell 0).trans (show _ = some _ from rfl)
      have m1 := (N.cell 1).trans (show _ = some _ from rfl)
      apply share
      case h =>
       intro JN
       have BB := Below.refl V.heap.size V
       have hne := HW.some V
       have g0 := HW.at (e6)
       have g1 := HW.at (m0)
       have g2 := HW.at (m1)
       refine wp_region_pick [0, 1, 2, 3, 6, 7, 8] 10 3 1 rfl rfl rfl (by kernel_rfl) (by kernel_rfl) (by kernel_rfl) (by kernel_rfl) ?_
       simp only [opsAt, List.getElem?_toArray, List.getElem?_cons_zero, List.getElem?_cons_succ]
       repeat (go_big_quiet_step (fail))
       refine wpQuiet_nil ?_
       clear g0 g1 g2
       refine wpM_only (i := 4) (by kernel_rfl) ?_
       refine mOp_call rfl (by go_simp) 43 _ #[.slice (some ⟨gb, go, none⟩) 2 q3] (fun w => by go_simp) rfl ?_
       rintro _ ⟨sg, rfl⟩
       refine (KD.out _ (Below.step BW (Below.step BB sg.h))).mono ?_
       rintro e wg1 ⟨ud, rfl, kd, hbx⟩
       obtain ⟨pd, qd, rfl, -⟩ := kd.rd
       have hbg := Below.step sg.h hbx
       refine ⟨_, rfl, ⟨⟨wg1, hbx⟩, rfl⟩, ?_⟩
       have R4 := Rd.own kd
       replace BB := Below.step BB hbg
       clear hbg hbx sg kd
       replace hne := HW.some wg1
       refine wpM_only (i := 5) (by kernel_rfl) ?_
       refine mOp_call rfl (by go_simp) 42 _ #[.slice ps S.length qs, .string ⟨#[99, 32, 104, 115, 32, 116, 114, 97, 102, 102, 105, 99]⟩, .slice pd dg.length qd] (fun w => by go_simp) rfl ?_
       rintro _ ⟨sg, rfl⟩
       refine (KT.out _ pd qd (RS.keep (Below.step BB sg.h)) (R4.keep sg.h)).mono ?_
       rintro e wg2 ⟨ut, rfl, kt, hbx⟩
       obtain ⟨pt, qt, rfl, -⟩ := kt.rd
       have hbg := Below.step sg.h hbx
       refine ⟨_, rfl, ⟨⟨wg2, hbx⟩, rfl⟩, ?_⟩
       have R5 := Rd.own kt
       replace R4 := R4.keep hbg
       replace BB := Below.step BB hbg
       clear hbg hbx sg kt
       replace hne := HW.some wg2
       refine wpM_only (i := 9) (by kernel_rfl) ?_
       refine mOp_call rfl (by go_simp) 41 _ #[.slice pt K.length qt, .slice (some ⟨gb, go, none⟩) 3 q3, .agg #[.int .i64 m.1, .slice p9 m.2.length q9]] (fun w => by go_simp) rfl ?_
       rintro _ ⟨sg, rfl⟩
       refine (specCf_c K [a, b, c] m pt (some ⟨gb, go, none⟩) p9 qt q3 q9 _ (R5.keep sg.h) (HRL.out.keep (Below.step BW (Below.step BB sg.h))) (HRM.out.keep (Below.step BW (Below.step BB sg.h)))).mono ?_
       rintro e wg3 ⟨rfl, hbx⟩
       have hbg := Below.step sg.h hbx
       refine ⟨_, rfl, ⟨⟨wg3, hbx⟩, rfl⟩, ?_⟩
       replace R4 := R4.keep hbg
       replace R5 := R5.keep hbg
       replace BB := Below.step BB hbg
       clear hbg hbx sg
       replace hne := HW.some wg3
       refine wpM_end (by kernel_rfl) rfl (by kernel_rfl) (by decide) ?_
       rintro _ ⟨sz, rfl⟩
       simp only [List.drop_succ_cons, List.drop_zero]
       go_simp
       replace R4 := R4.keep sz.h
       replace R5 := R5.keep sz.h
       replace BB := Below.step BB sz.h
       clear hne
       generalize sz.w = W at *
       clear sz
       revert R5
       revert R4
       revert BB
       revert qt
       revert pt
       revert qd
       revert pd
       revert W
       exact JN.out
      intro W pd qd pt qt BB R4 R5
      replace A := A.stay BB
      replace N := N.stay BB
      replace R := R.stay BB
      replace BW := Below.step BW BB
      clear BB e6 m0 m1 RS
      rw [HKE.out] at HC2
      by_cases hc : cfC K [a, b, c] m = 0
      ·rw [hc]
       have HE : Hid (hnE (s, 2, mo, [a, b, c], base, x) m = (0, doneE s mo base [a, b, c, m], [])) := by
        show _ = _
        rw [hnE_go (a := a) (b := b) (c := c) he rfl rfl hb0.out, hnE2_ok (by rw [HC2.out]; exact hc)]
       rw [HE.out] at HQ
       have H160 : Hid (m.2.length ≤ 160) := (faultW_zero (cf_fault hc).1).2
       clear hc HC2 HE R4 R5
       go_wp2_with fail
       clear V
       obtain ⟨V, HV⟩ : ∃ V, Hid (V = W) := ⟨_, rfl⟩
       rw [← HV.out] at A N R BW ⊢
       clear HV
       clear W
       have e6 := (A.cell 6).trans (show _ = some _ from rfl)
       have m0 := (N.cell 0).trans (show _ = some _ from rfl)
       have m1 := (N.cell 1).trans (show _ = some _ from rfl)
       apply share
       case h =>
        intro JN
        have BB := Below.refl V.heap.size V
        have hne := HW.some V
        have g0 := HW.at (e6)
        have g1 := HW.at (m0)
        have g2 := HW.at (m1)
        refine wp_region_pick [0, 1, 3, 4, 5, 6] 10 4 2 rfl rfl rfl (by kernel_rfl) (by kernel_rfl) (by kernel_rfl) (by kernel_rfl) ?_
        simp only [opsAt, List.getElem?_toArray, List.getElem?_cons_zero, List.getElem?_cons_succ]
        repeat (go_big_quiet_step (fail))
        refine wpQuiet_nil ?_
        clear g0 g1 g2
        refine wpM_only (i := 2) (by kernel_rfl) ?_
        refine mOp_call rfl (by go_simp) 40 _ #[.slice (some ⟨gb, go, none⟩) 3 q3] (fun w => by go_simp) rfl ?_
        rintro _ ⟨sg, rfl⟩
        refine (l6Copy_c [a, b, c] (some ⟨gb, go, none⟩) q3 _ (HRL.out.keep (Below.step BW (Below.step BB sg.h))) HLB.out).mono ?_
        rintro e wg1 ⟨vc, xs, fc, rfl, kc, hbx⟩
        obtain ⟨pc, qc, rfl, -⟩ := kc.rd
        have hbg := Below.step sg.h hbx
        refine ⟨_, rfl, ⟨⟨wg1, hbx⟩, rfl⟩, ?_⟩
        have Kc := kc.low ((Below.step BB sg.h)).size
        replace BB := Below.step BB hbg
        clear hbg hbx sg kc
        replace hne := HW.some wg1
        refine wpM_only (i := 7) (by kernel_rfl) ?_
        refine mOp_call rfl (by go_simp) 66 _ #[.slice p9 m.2.length q9] (fun w => by go_simp) rfl ?_
        rintro _ ⟨sg, rfl⟩
        refine (l1Copy_c p9 q9 m.2 _ (HRM.out.keep (Below.step BW (Below.step BB sg.h))) (by have := H160.out; omega)).mono ?_
        rintro e wg2 ⟨ua, rfl, ka, hbx⟩
        obtain ⟨pa, qa, rfl, -⟩ := ka.rd
        have hbg := Below.step sg.h hbx
        refine ⟨_, rfl, ⟨⟨wg2, hbx⟩, rfl⟩, ?_⟩
        have Ka := ka.lower ((Below.step BB sg.h)).size
        have Dca := (show ∀ k, k ∈ (Value.slice pa m.2.length qa).ownBlock.toList → k ∉ (Value.slice pc [a, b, c].length qc).ownBlock.toList ++ fc from fun k h h2 => by have h1 := (Kc.ins k h2).2; have h4 := ka.ge _ (mem_opt.1 h); have h3 := sg.h.size; omega)
        replace Kc := Kc.stay hbg
        replace BB := Below.step BB hbg
        clear hbg hbx sg ka
        replace hne := HW.some wg2
        refine wpM_more [8] 2 1 rfl (by kernel_rfl) (by kernel_rfl) (by kernel_rfl) (by kernel_rfl) ?_
        simp only [opsAt, List.getElem?_toArray, List.getElem?_cons_zero, List.getElem?_cons_succ]
        go_simp
        repeat (go_big_quiet_step (fail))
        refine wpQuiet_nil ?_
        refine wpM_only (i := 9) (by kernel_rfl) ?_
        refine mOp_make rfl (by go_simp) ?_
        rintro _ ⟨sg, rfl⟩
        refine ⟨.slice (some ⟨sg.w.heap.size, 0, none⟩) 1 1, sg.w.alloc (.cells #[.int .i64 m.1, .slice pa m.2.length qa] 53), by go_simp, ⟨⟨_, alloc_below _ _⟩, rfl⟩, ?_⟩
        have hbg := Below.step sg.h (alloc_below sg.w (.cells #[.int .i64 m.1, .slice pa m.2.length qa] 53))
        have Kl := Arr.new sg.w [.int .i64 m.1, .slice pa m.2.length qa] 53
        replace Kc := Kc.stay hbg
        replace Ka := Ka.stay hbg
        replace BB := Below.step BB hbg
        clear hbg
        replace hne := HW.some (sg.w.alloc (.cells #[.int .i64 m.1, .slice pa m.2.length qa] 53))
        generalize hW : (sg.w.alloc (.cells #[.int .i64 m.1, .slice pa m.2.length qa] 53)) = wg3 at *
        clear hW
        generalize sg.w.heap.size = gl at *
        clear sg
        refine wpM_end (by kernel_rfl) rfl (by kernel_rfl) (by decide) ?_
        rintro _ ⟨sz, rfl⟩
        simp only [List.drop_succ_cons, List.drop_zero]
        go_simp
        replace Kc := Kc.stay sz.h
        replace Ka := Ka.stay sz.h
        replace Kl := Kl.stay sz.h
        replace BB := Below.step BB sz.h
        clear hne
        generalize sz.w = W at *
        clear sz
        revert Dca
        revert Kl
        revert Ka
        revert Kc
        revert BB
        revert gl
        revert qa
        revert pa
        revert qc
        revert pc
        revert fc
        revert xs
        revert W
        exact JN.out
       intro W xs fc pc qc pa qa gl BB Kc Ka Kl Dca
       have HVR : Hid (w.heap.size + 3 ≤ V.heap.size) := R.lt
       have hrow : Hid (W.ownsRow V.heap.size 53 2 (.slice pc 3 qc) 3 xs) := Kc.row
       have hnew : ∀ j u, [Value.int .i64 m.1, .slice pa m.2.length qa][j]? = some u → W.cell? ((⟨gl, 0, none⟩ : Addr).add j) = some u := fun j u hj => Kl.cells j u hj
       have hqc1 : 3 ≤ qc := (RdL.own Kc).1
       have hqc2 : qc ≤ 2 ^ 63 - 1 := (RdL.own Kc).2.1
       have HCge : Hid (∀ k, (Value.slice pc 3 qc).ownBlock = some k → V.heap.size ≤ k) := fun k hk => (Kc.ins k (List.mem_append_left _ (mem_opt.2 hk))).1
       replace A := A.stay BB
       replace R := R.stay BB
       replace BW := Below.step BW BB
       obtain ⟨i0, hi, hz0, hz1, hz2⟩ := info_parts infoMsg
       clear e6 m0 m1 N
       go_wp2_with (at_builtin; refine Hid.out ?_)
       unfold Hid
       refine wpList_append_lies _ rfl (.tmp 65) (.tmp 72) 33 rfl V.heap.size 53 i0 (.agg #[.int .i64 0, .slice none 0 0]) 2 32 Tryz.underlying33 hi hz0 hz1 hz2 rfl (by decide) (.slice pc 3 qc) 3 xs rfl hrow.out ⟨gl, 0, none⟩ 1 1 [.int .i64 m.1, .slice pa m.2.length qa] rfl rfl hnew (by intro u hu; simp at hu; rcases hu with rfl | rfl <;> rfl) (by decide) (by unfold maxLen; omega) (by omega) BB.size _ rfl ?_
       intro g6 c6 w6 hown6 hgrow6 hat6 hlt6
       have OP := Kc.push (a := m) (msg_own_mk (a := m) Ka) Dca (k := 4) (v' := .slice (some ⟨g6, 0, none⟩) 4 c6) (g := g6) hown6 rfl hgrow6 rfl hat6
       replace BW := BW.grown hgrow6 BW.size (fun k hk => by have h1 := HCge.out k hk; have h2 := HVR.out; omega)
       replace A := A.other hgrow6 (fun e => by have h1 := HCge.out _ e; have h2 := HVR.out; omega)
       replace R := R.other hgrow6 (fun e => by have h1 := HCge.out _ e; have h2 := HVR.out; omega)
       have OP2 : OwnL 53 msgC w6 (w.heap.size + 3) (.slice (some ⟨g6, 0, none⟩) 4 c6) [a, b, c, m] _ _ := OP.low HVR.out
       have hc1 : 4 ≤ c6 := (RdL.own OP2).1
       have hc2 : c6 ≤ 2 ^ 63 - 1 := (RdL.own OP2).2.1
       have KDn := l11Done_c s mo base [a, b, c, m] p p2 p4 (some ⟨g6, 0, none⟩) q q2 q4 c6 w6 (HR1.out.keep BW) (HR2.out.keep BW) (HRB.out.keep BW) (RdL.own OP2) HSF.out HB32.out (by simp) HP3.out
       rw [show [a, b, c, m].length = 4 from rfl] at KDn
       have a0 := (A.cell 0).trans (show _ = some _ from rfl)
       have a1 := (A.cell 1).trans (show _ = some _ from rfl)
       have a2 := (A.cell 2).trans (show _ = some _ from rfl)
       have a3 := (A.cell 3).trans (show _ = some _ from rfl)
       have a5 := (A.cell 5).trans (show _ = some _ from rfl)
       have a7 := (A.cell 7).trans (show _ = some _ from rfl)
       clear OP hown6 hgrow6 hat6 hnew hrow Kc Ka Kl Dca BB A
       go_wp2_with fail
       refine KDn.mono ?_
       rintro e w7 ⟨u7, v7, ub, x1, x2, x3, x4, fs, fx, rfl, ks, kb, kx, d1, d2, d3, hb7⟩
       obtain ⟨pu, qu, pv, qv, es, -, -⟩ := side_rep (sideC.toRep ks)
       simp only [List.cons.injEq, and_true, true_and] at es
       obtain ⟨rfl, rfl⟩ := es
       obtain ⟨pb, qb, rfl, -⟩ := kb.rd
       obtain ⟨y1, z1, y2, z2, y3, z3, y4, z4, ex, -, -, -, -⟩ := secrets_rep (secretsC.toRep kx)
       simp only [List.cons.injEq, and_true] at ex
       obtain ⟨rfl, rfl, rfl, rfl⟩ := ex
       have HZ6 : Hid (w.heap.size + 3 ≤ w6.heap.size) := R.lt
       have KM := OP2.stay hb7
       have KR : endResultC.own w7 (w.heap.size + 3) (0, doneE s mo base [a, b, c, m], []) _ _ := endR_of (r := (0, doneE s mo base [a, b, c, m], [])) (end_of (e := doneE s mo base [a, b, c, m]) (sideC.low ks HZ6.out) (⟨_, _, _, rfl, KM, rfl⟩ : msgsC.own w7 (w.heap.size + 3) [a, b, c, m] [.slice (some ⟨g6, 0, none⟩) 4 c6] _) (byt_own (kb.lower HZ6.out)) (secretsC.low kx HZ6.out) (fun k h h2 => by
         have h4 := (sideC.ins ks k h).1
         have h5 := (OP2.ins k h2).2
         omega) d1 d2 (fun k h h2 => by
         have h4 := kb.ge k (mem_opt.1 h2)
         have h5 := (OP2.ins k h).2
         omega) (fun k h h2 => by
         have h4 := (secretsC.ins kx k h2).1
         have h5 := (OP2.ins k h).2
         omega) d3) (⟨_, _, _, rfl, nil_ownM _ _, rfl⟩ : msgsC.own w7 (w.heap.size + 3) [] [.slice none 0 0] _) (fun k _ h2 => by simp [Value.ownBlock] at h2)
       replace R := R.stay hb7
       replace BW := Below.step BW hb7
       have t0 := (R.cell 0).trans (show _ = some _ from rfl)
       have t1 := (R.cell 1).trans (show _ = some _ from rfl)
       have t2 := (R.cell 2).trans (show _ = some _ from rfl)
       have t3 := (R.cell 3).trans (show _ = some _ from rfl)
       have t4 := (R.cell 4).trans (show _ = some _ from rfl)
       have t5 := (R.cell 5).trans (show _ = some _ from rfl)
       have t6 := (R.cell 6).trans (show _ = some _ from rfl)
       have t7 := (R.cell 7).trans (show _ = some _ from rfl)
       have t8 := (R.cell 8).trans (show _ = some _ from rfl)
       have t9 := (R.cell 9).trans (show _ = some _ from rfl)
       have t10 := (R.cell 10).trans (show _ = some _ from rfl)
       have t11 := (R.cell 11).trans (show _ = some _ from rfl)
       have t12 := (R.cell 12).trans (show _ = some _ from rfl)
       have t13 := (R.cell 13).trans (show _ = some _ from rfl)
       have ft := R.frozen
       clear R hb7 a0 a1 a2 a3 a5 a7 KM ks kb kx d1 d2 d3 OP2 KDn
       go_wp2_with fail
       exact bodyPost_ret (v := .agg #[.int .i64 0, .int .i64 s.1, .slice pu s.2.1.length qu, .int .i64 s.2.2.1, .slice pv s.2.2.2.length qv, .int .i64 3, .int .i64 mo, .slice (some ⟨g6, 0, none⟩) 4 c6, .slice pb base.length qb, .slice y1 (secsN base (digM ([a, b, c, m].take 3))).1.length z1, .slice y2 (secsN base (digM ([a, b, c, m].take 3))).2.1.length z2, .slice y3 (secsN base (digM ([a, b, c, m].take 3))).2.2.1.length z3, .slice y4 (secsN base (digM ([a, b, c, m].take 3))).2.2.2.length z4, .slice none 0 0]) (by simp [results, Tryz.results20, go_sem, t0, t1, t2, t3, t4, t5, t6, t7, t8, t9, t10, t11, t12, t13]) rfl (HQ.out _ _ ⟨[_, _, _, _, _, _, _, _, _, _, _, _, _, _], _, rfl, endResultC.low (endResultC.set (endResultC.set (endResultC.set (endResultC.set (endResultC.set (endResultC.set (endResultC.set (endResultC.set (endResultC.set (endResultC.set (endResultC.set (endResultC.set (endResultC.set (endResultC.set KR (show w.heap.size + 2 < w.heap.size + 3 by omega) _) (show w.heap.size + 2 < w.heap.size + 3 by omega) _) (show w.heap.size + 2 < w.heap.size + 3 by omega) _) (show w.heap.size + 2 < w.heap.size + 3 by omega) _) (show w.heap.size + 2 < w.heap.size + 3 by omega) _) (show w.heap.size + 2 < w.heap.size + 3 by omega) _) (show w.heap.size + 2 < w.heap.size + 3 by omega) _) (show w.heap.size + 2 < w.heap.size + 3 by omega) _) (show w.heap.size + 2 < w.heap.size + 3 by omega) _) (show w.heap.size + 2 < w.heap.size + 3 by omega) _) (show w.heap.size + 2 < w.heap.size + 3 by omega) _) (show w.heap.size + 2 < w.heap.size + 3 by omega) _) (show w.heap.size + 2 < w.heap.size + 3 by omega) _) (show w.heap.size + 2 < w.heap.size + 3 by omega) _) (by omega), ((((((((((((((BW.setCell (show w.heap.size ≤ w.heap.size + 2 by omega) _).setCell (show w.heap.size ≤ w.heap.size + 2 by omega) _).setCell (show w.heap.size ≤ w.heap.size + 2 by omega) _).setCell (show w.heap.size ≤ w.heap.size + 2 by omega) _).setCell (show w.heap.size ≤ w.heap.size + 2 by omega) _).setCell (show w.heap.size ≤ w.heap.size + 2 by omega) _).setCell (show w.heap.size ≤ w.heap.size + 2 by omega) _).setCell (show w.heap.size ≤ w.heap.size + 2 by omega) _).setCell (show w.heap.size ≤ w.heap.size + 2 by omega) _).setCell (show w.heap.size ≤ w.heap.size + 2 by omega) _).setCell (show w.heap.size ≤ w.heap.size + 2 by omega) _).setCell (show w.heap.size ≤ w.heap.size + 2 by omega) _).setCell (show w.heap.size ≤ w.heap.size + 2 by omega) _).setCell (show w.heap.size ≤ w.heap.size + 2 by omega) _)⟩)
      ·have hd : (cfC K [a, b, c] m != 0) = true := by rw [bne_iff_ne]; exact hc
       have HE : Hid (hnE (s, 2, mo, [a, b, c], base, x) m = badE (cfC K [a, b, c] m)) := by
        show _ = _
        rw [hnE_go (a := a) (b := b) (c := c) he rfl rfl hb0.out, hnE2_bad (by rw [HC2.out]; exact hc), HC2.out]
       rw [HE.out] at HQ
       clear hc HC2 HE
       generalize cfC K [a, b, c] m = cc at *
       go_wp2_with fail
       refine (l11Bad_c cc _).mono ?_
       rintro e wb ⟨rfl, hbb⟩
       replace R := R.stay hbb
       replace BW := Below.step BW hbb
       have t0 := (R.cell 0).trans (show _ = some _ from rfl)
       have t1 := (R.cell 1).trans (show _ = some _ from rfl)
       have t2 := (R.cell 2).trans (show _ = some _ from rfl)
       have t3 := (R.cell 3).trans (show _ = some _ from rfl)
       have t4 := (R.cell 4).trans (show _ = some _ from rfl)
       have t5 := (R.cell 5).trans (show _ = some _ from rfl)
       have t6 := (R.cell 6).trans (show _ = some _ from rfl)
       have t7 := (R.cell 7).trans (show _ = some _ from rfl)
       have t8 := (R.cell 8).trans (show _ = some _ from rfl)
       have t9 := (R.cell 9).trans (show _ = some _ from rfl)
       have t10 := (R.cell 10).trans (show _ = some _ from rfl)
       have t11 := (R.cell 11).trans (show _ = some _ from rfl)
       have t12 := (R.cell 12).trans (show _ = some _ from rfl)
       have t13 := (R.cell 13).trans (show _ = some _ from rfl)
       have ft := R.frozen
       clear R hbb
       go_wp2_with fail
       exact bodyPost_ret (v := .agg #[.int .i64 cc, .int .i64 0, .slice none 0 0, .int .i64 0, .slice none 0 0, .int .i64 0, .int .i64 0, .slice none 0 0, .slice none 0 0, .slice none 0 0, .slice none 0 0, .slice none 0 0, .slice none 0 0, .slice none 0 0]) (by simp [results, Tryz.results20, go_sem, t0, t1, t2, t3, t4, t5, t6, t7, t8, t9, t10, t11, t12, t13]) rfl (HQ.out _ _ ⟨[_, _, _, _, _, _, _, _, _, _, _, _, _, _], _, rfl, badE_own _ _ _, ((((((((((((((BW.setCell (show w.heap.size ≤ w.heap.size + 2 by omega) _).setCell (show w.heap.size ≤ w.heap.size + 2 by omega) _).setCell (show w.heap.size ≤ w.heap.size + 2 by omega) _).setCell (show w.heap.size ≤ w.heap.size + 2 by omega) _).setCell (show w.heap.size ≤ w.heap.size + 2 by omega) _).setCell (show w.heap.size ≤ w.heap.size + 2 by omega) _).setCell (show w.heap.size ≤ w.heap.size + 2 by omega) _).setCell (show w.heap.size ≤ w.heap.size + 2 by omega) _).setCell (show w.heap.size ≤ w.heap.size + 2 by omega) _).setCell (show w.heap.size ≤ w.heap.size + 2 by omega) _).setCell (show w.heap.size ≤ w.heap.size + 2 by omega) _).setCell (show w.heap.size ≤ w.heap.size + 2 by omega) _).setCell (show w.heap.size ≤ w.heap.size + 2 by omega) _).setCell (show w.heap.size ≤ w.heap.size + 2 by omega) _)⟩)
     ·have hd : (uhC 1 a != 0) = true := by rw [bne_iff_ne]; exact hu
      have HE : Hid (hnE (s, 2, mo, [a, b, c], base, x) m = badE (uhC 1 a)) := by
       show _ = _
       have e1 : hnC2 (s, 2, mo, [a, b, c], base, x) a b c m = uhC 1 a := by rw [hnC2, if_neg hu]
       rw [hnE_go (a := a) (b := b) (c := c) he rfl rfl hb0.out, hnE2_bad (by rw [e1]; exact hu), e1]
      rw [HE.out] at HQ
      clear hu HH UC HE
      generalize uhC 1 a = cc at *
      have x0 := (X.cell 0).trans (show _ = some _ from rfl)
      go_wp2_with fail
      refine (l11Bad_c cc _).mono ?_
      rintro e wb ⟨rfl, hbb⟩
      replace R := R.stay hbb
      replace BW := Below.step BW hbb
      have t0 := (R.cell 0).trans (show _ = some _ from rfl)
      have t1 := (R.cell 1).trans (show _ = some _ from rfl)
      have t2 := (R.cell 2).trans (show _ = some _ from rfl)
      have t3 := (R.cell 3).trans (show _ = some _ from rfl)
      have t4 := (R.cell 4).trans (show _ = some _ from rfl)
      have t5 := (R.cell 5).trans (show _ = some _ from rfl)
      have t6 := (R.cell 6).trans (show _ = some _ from rfl)
      have t7 := (R.cell 7).trans (show _ = some _ from rfl)
      have t8 := (R.cell 8).trans (show _ = some _ from rfl)
      have t9 := (R.cell 9).trans (show _ = some _ from rfl)
      have t10 := (R.cell 10).trans (show _ = some _ from rfl)
      have t11 := (R.cell 11).trans (show _ = some _ from rfl)
      have t12 := (R.cell 12).trans (show _ = some _ from rfl)
      have t13 := (R.cell 13).trans (show _ = some _ from rfl)
      have ft := R.frozen
      clear R hbb
      go_wp2_with fail
      exact bodyPost_ret (v := .agg #[.int .i64 cc, .int .i64 0, .slice none 0 0, .int .i64 0, .slice none 0 0, .int .i64 0, .int .i64 0, .slice none 0 0, .slice none 0 0, .slice none 0 0, .slice none 0 0, .slice none 0 0, .slice none 0 0, .slice none 0 0]) (by simp [results, Tryz.results20, go_sem, t0, t1, t2, t3, t4, t5, t6, t7, t8, t9, t10, t11, t12, t13]) rfl (HQ.out _ _ ⟨[_, _, _, _, _, _, _, _, _, _, _, _, _, _], _, rfl, badE_own _ _ _, ((((((((((((((BW.setCell (show w.heap.size ≤ w.heap.size + 2 by omega) _).setCell (show w.heap.size ≤ w.heap.size + 2 by omega) _).setCell (show w.heap.size ≤ w.heap.size + 2 by omega) _).setCell (show w.heap.size ≤ w.heap.size + 2 by omega) _).setCell (show w.heap.size ≤ w.heap.size + 2 by omega) _).setCell (show w.heap.size ≤ w.heap.size + 2 by omega) _).setCell (show w.heap.size ≤ w.heap.size + 2 by omega) _).setCell (show w.heap.size ≤ w.heap.size + 2 by omega) _).setCell (show w.heap.size ≤ w.heap.size + 2 by omega) _).setCell (show w.heap.size ≤ w.heap.size + 2 by omega) _).setCell (show w.heap.size ≤ w.heap.size + 2 by omega) _).setCell (show w.heap.size ≤ w.heap.size + 2 by omega) _).setCell (show w.heap.size ≤ w.heap.size + 2 by omega) _).setCell (show w.heap.size ≤ w.heap.size + 2 by omega) _)⟩)
   ·have dl : ((l.length : Int) != 3) = true := by rw [bne_iff_ne]; omega
    rw [hnE_state he (fun h => hl3 h.2.1)] at HQ
    clear hst hl3 he
    go_enter Tryz.func20, Tryz.ntmps20
    go_wp2_with fail
    refine (KE.out _ rfl).mono ?_
    rintro e w1 ⟨rfl, hw⟩
    subst hw
    clear KE
    go_wp2_with fail
    refine (l11Bad_c 8 _).mono ?_
    rintro e wb ⟨rfl, hbb⟩
    replace R := R.stay hbb
    replace BW := Below.step BW hbb
    have t0 := (R.cell 0).trans (show _ = some _ from rfl)
    have t1 := (R.cell 1).trans (show _ = some _ from rfl)
    have t2 := (R.cell 2).trans (show _ = some _ from rfl)
    have t3 := (R.cell 3).trans (show _ = some _ from rfl)
    have t4 := (R.cell 4).trans (show _ = some _ from rfl)
    have t5 := (R.cell 5).trans (show _ = some _ from rfl)
    have t6 := (R.cell 6).trans (show _ = some _ from rfl)
    have t7 := (R.cell 7).trans (show _ = some _ from rfl)
    have t8 := (R.cell 8).trans (show _ = some _ from rfl)
    have t9 := (R.cell 9).trans (show _ = some _ from rfl)
    have t10 := (R.cell 10).trans (show _ = some _ from rfl)
    have t11 := (R.cell 11).trans (show _ = some _ from rfl)
    have t12 := (R.cell 12).trans (show _ = some _ from rfl)
    have t13 := (R.cell 13).trans (show _ = some _ from rfl)
    have ft := R.frozen
    clear R hbb
    go_wp2_with fail
    exact bodyPost_ret (v := .agg #[.int .i64 8, .int .i64 0, .slice none 0 0, .int .i64 0, .slice none 0 0, .int .i64 0, .int .i64 0, .slice none 0 0, .slice none 0 0, .slice none 0 0, .slice none 0 0, .slice none 0 0, .slice none 0 0, .slice none 0 0]) (by simp [results, Tryz.results20, go_sem, t0, t1, t2, t3, t4, t5, t6, t7, t8, t9, t10, t11, t12, t13]) rfl (HQ.out _ _ ⟨[_, _, _, _, _, _, _, _, _, _, _, _, _, _], _, rfl, badE_own _ _ _, ((((((((((((((BW.setCell (show w.heap.size ≤ w.heap.size + 2 by omega) _).setCell (show w.heap.size ≤ w.heap.size + 2 by omega) _).setCell (show w.heap.size ≤ w.heap.size + 2 by omega) _).setCell (show w.heap.size ≤ w.heap.size + 2 by omega) _).setCell (show w.heap.size ≤ w.heap.size + 2 by omega) _).setCell (show w.heap.size ≤ w.heap.size + 2 by omega) _).setCell (show w.heap.size ≤ w.heap.size + 2 by omega) _).setCell (show w.heap.size ≤ w.heap.size + 2 by omega) _).setCell (show w.heap.size ≤ w.heap.size + 2 by omega) _).setCell (show w.heap.size ≤ w.heap.size + 2 by omega) _).setCell (show w.heap.size ≤ w.heap.size + 2 by omega) _).setCell (show w.heap.size ≤ w.heap.size + 2 by omega) _).setCell (show w.heap.size ≤ w.heap.size + 2 by omega) _).setCell (show w.heap.size ≤ w.heap.size + 2 by omega) _)⟩)
  ·have ds : (st != 2) = true := by rw [bne_iff_ne]; exact hst
   rw [hnE_state he (fun h => hst h.1)] at HQ
   clear hst he
   go_enter Tryz.func20, Tryz.ntmps20
   go_wp2_with fail
   refine (KE.out _ rfl).mono ?_
   rintro e w1 ⟨rfl, hw⟩
   subst hw
   clear KE
   go_wp2_with fail
   refine (l11Bad_c 8 _).mono ?_
   rintro e wb ⟨rfl, hbb⟩
   replace R := R.stay hbb
   replace BW := Below.step BW hbb
   have t0 := (R.cell 0).trans (show _ = some _ from rfl)
   have t1 := (R.cell 1).trans (show _ = some _ from rfl)
   have t2 := (R.cell 2).trans (show _ = some _ from rfl)
   have t3 := (R.cell 3).trans (show _ = some _ from rfl)
   have t4 := (R.cell 4).trans (show _ = some _ from rfl)
   have t5 := (R.cell 5).trans (show _ = some _ from rfl)
   have t6 := (R.cell 6).trans (show _ = some _ from rfl)
   have t7 := (R.cell 7).trans (show _ = some _ from rfl)
   have t8 := (R.cell 8).trans (show _ = some _ from rfl)
   have t9 := (R.cell 9).trans (show _ = some _ from rfl)
   have t10 := (R.cell 10).trans (show _ = some _ from rfl)
   have t11 := (R.cell 11).trans (show _ = some _ from rfl)
   have t12 := (R.cell 12).trans (show _ = some _ from rfl)
   have t13 := (R.cell 13).trans (show _ = some _ from rfl)
   have ft := R.frozen
   clear R hbb
   go_wp2_with fail
   exact bodyPost_ret (v := .agg #[.int .i64 8, .int .i64 0, .slice none 0 0, .int .i64 0, .slice none 0 0, .int .i64 0, .int .i64 0, .slice none 0 0, .slice none 0 0, .slice none 0 0, .slice none 0 0, .slice none 0 0, .slice none 0 0, .slice none 0 0]) (by simp [results, Tryz.results20, go_sem, t0, t1, t2, t3, t4, t5, t6, t7, t8, t9, t10, t11, t12, t13]) rfl (HQ.out _ _ ⟨[_, _, _, _, _, _, _, _, _, _, _, _, _, _], _, rfl, badE_own _ _ _, ((((((((((((((BW.setCell (show w.heap.size ≤ w.heap.size + 2 by omega) _).setCell (show w.heap.size ≤ w.heap.size + 2 by omega) _).setCell (show w.heap.size ≤ w.heap.size + 2 by omega) _).setCell (show w.heap.size ≤ w.heap.size + 2 by omega) _).setCell (show w.heap.size ≤ w.heap.size + 2 by omega) _).setCell (show w.heap.size ≤ w.heap.size + 2 by omega) _).setCell (show w.heap.size ≤ w.heap.size + 2 by omega) _).setCell (show w.heap.size ≤ w.heap.size + 2 by omega) _).setCell (show w.heap.size ≤ w.heap.size + 2 by omega) _).setCell (show w.heap.size ≤ w.heap.size + 2 by omega) _).setCell (show w.heap.size ≤ w.heap.size + 2 by omega) _).setCell (show w.heap.size ≤ w.heap.size + 2 by omega) _).setCell (show w.heap.size ≤ w.heap.size + 2 by omega) _).setCell (show w.heap.size ≤ w.heap.size + 2 by omega) _)⟩)
 ·have hd : (efC (s, st, mo, l, base, x) != 0) = true := by rw [bne_iff_ne]; exact he
  rw [hnE_bad he] at HQ
  clear he
  generalize efC (s, st, mo, l, base, x) = cc at *
  go_enter Tryz.func20, Tryz.ntmps20
  go_wp2_with fail
  refine (KE.out _ rfl).mono ?_
  rintro e w1 ⟨rfl, hw⟩
  subst hw
  clear KE
  go_wp2_with fail
  refine (l11Bad_c cc _).mono ?_
  rintro e wb ⟨rfl, hbb⟩
  replace R := R.stay hbb
  replace BW := Below.step BW hbb
  have t0 := (R.cell 0).trans (show _ = some _ from rfl)
  have t1 := (R.cell 1).trans (show _ = some _ from rfl)
  have t2 := (R.cell 2).trans (show _ = some _ from rfl)
  have t3 := (R.cell 3).trans (show _ = some _ from rfl)
  have t4 := (R.cell 4).trans (show _ = some _ from rfl)
  have t5 := (R.cell 5).trans (show _ = some _ from rfl)
  have t6 := (R.cell 6).trans (show _ = some _ from rfl)
  have t7 := (R.cell 7).trans (show _ = some _ from rfl)
  have t8 := (R.cell 8).trans (show _ = some _ from rfl)
  have t9 := (R.cell 9).trans (show _ = some _ from rfl)
  have t10 := (R.cell 10).trans (show _ = some _ from rfl)
  have t11 := (R.cell 11).trans (show _ = some _ from rfl)
  have t12 := (R.cell 12).trans (show _ = some _ from rfl)
  have t13 := (R.cell 13).trans (show _ = some _ from rfl)
  have ft := R.frozen
  clear R hbb
  go_wp2_with fail
  exact bodyPost_ret (v := .agg #[.int .i64 cc, .int .i64 0, .slice none 0 0, .int .i64 0, .slice none 0 0, .int .i64 0, .int .i64 0, .slice none 0 0, .slice none 0 0, .slice none 0 0, .slice none 0 0, .slice none 0 0, .slice none 0 0, .slice none 0 0]) (by simp [results, Tryz.results20, go_sem, t0, t1, t2, t3, t4, t5, t6, t7, t8, t9, t10, t11, t12, t13]) rfl (HQ.out _ _ ⟨[_, _, _, _, _, _, _, _, _, _, _, _, _, _], _, rfl, badE_own _ _ _, ((((((((((((((BW.setCell (show w.heap.size ≤ w.heap.size + 2 by omega) _).setCell (show w.heap.size ≤ w.heap.size + 2 by omega) _).setCell (show w.heap.size ≤ w.heap.size + 2 by omega) _).setCell (show w.heap.size ≤ w.heap.size + 2 by omega) _).setCell (show w.heap.size ≤ w.heap.size + 2 by omega) _).setCell (show w.heap.size ≤ w.heap.size + 2 by omega) _).setCell (show w.heap.size ≤ w.heap.size + 2 by omega) _).setCell (show w.heap.size ≤ w.heap.size + 2 by omega) _).setCell (show w.heap.size ≤ w.heap.size + 2 by omega) _).setCell (show w.heap.size ≤ w.heap.size + 2 by omega) _).setCell (show w.heap.size ≤ w.heap.size + 2 by omega) _).setCell (show w.heap.size ≤ w.heap.size + 2 by omega) _).setCell (show w.heap.size ≤ w.heap.size + 2 by omega) _).setCell (show w.heap.size ≤ w.heap.size + 2 by omega) _)⟩)
theorem specHn_k (e : EndD) (m : MsgD) (us vs : List Value) (w : World) (r : endC.rep w e us) (r2 : msgC.rep w m vs) :
  Calls Tryz.prog 20 #[.agg us.toArray, .agg vs.toArray] w fun x w' => ∃ us fp, x = .returned (.agg us.toArray) ∧ endResultC.own w' w.heap.size (hnE e m) us fp ∧ Below w.heap.size w w' := by
 obtain ⟨p1, q1, p2, q2, p3, q3, p4, q4, p5, q5, p6, q6, p7, q7, p8, q8, rfl, r1, r2', r3, r4, -, -, -, -⟩ := end_rep r
 obtain ⟨p9, q9, rfl, r9⟩ := msg_rep r2
 exact specHn_c e.1 e.2.1 e.2.2.1 e.2.2.2.1 e.2.2.2.2.1 e.2.2.2.2.2 m p1 p2 p3 p4 p5 p6 p7 p8 p9 q1 q2 q3 q4 q5 q6 q7 q8 q9 w r1 r2' r3 r4 r9
end Go.Proofs.YtiabacnmmojfjabGreatDoor
