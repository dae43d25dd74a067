import Derived.Test.YtiabacnmmojfjabGreatDoorShkU
import Derived.Test.YtiabacnmmojfjabGreatDoorShkX
import Derived.Test.YtiabacnmmojfjabGreatDoorJoint21
import Derived.Test.YtiabacnmmojfjabGreatDoorJoint22
namespace Go.Proofs.YtiabacnmmojfjabGreatDoor
open Go.ChangeShapes Go.WideShapes Go.ChangeAt Go.RowKit
theorem ownL_single {w : World} {B : Nat} {v : Value} {b : MsgD} {xs : List Value} {fp : List Nat} (h : OwnL 53 msgC w B v [b] xs fp) :
  ∃ g cap pv qv, v = .slice (some ⟨g, 0, none⟩) 1 cap ∧ 1 ≤ cap ∧ cap ≤ 2 ^ 63 - 1 ∧ B ≤ g ∧ xs = [.int .i64 b.1, .slice pv b.2.length qv] ∧ fp = (Value.slice pv b.2.length qv).ownBlock.toList ∧ Own w B (.slice pv b.2.length qv) b.2 ∧ (∀ j u, [Value.int .i64 b.1, .slice pv b.2.length qv][j]? = some u → w.cell? ((⟨g, 0, none⟩ : Addr).add j) = some u) := by
 obtain ⟨us, ys, f, f2, hx, hf, ho, e1, e2⟩ := h.all
 obtain ⟨vb, rfl, ob, rfl⟩ := msg_own ho
 obtain ⟨pv, qv, rfl, -⟩ := ob.rd
 rw [e1, List.append_nil] at hx
 rw [e2, List.append_nil] at hf
 subst hx hf
 have h0 := h.row
 rcases h.row.2 with ⟨-, hn⟩ | ⟨g, cap, cur, rfl, hb, hg, hle, hm, hs, ht⟩
 ·simp at hn
 ·refine ⟨g, cap, pv, qv, rfl, hle, hm, hb, rfl, rfl, ob, fun j u hj => ?_⟩
  have hlt : j < 2 := (List.getElem?_eq_some_iff.1 hj).1
  rw [addr_add, Nat.zero_add, World.ownsRow.cellAt h0 j (by show j < 1 * 2; omega)]
  exact hj
theorem ownL_parts {w : World} {B g cap qv : Nat} {pv : Option Addr} {b : MsgD} {fp : List Nat} (h : OwnL 53 msgC w B (.slice (some ⟨g, 0, none⟩) 1 cap) [b] [.int .i64 b.1, .slice pv b.2.length qv] fp) :
  1 ≤ cap ∧ cap ≤ 2 ^ 63 - 1 ∧ B ≤ g ∧ Own w B (.slice pv b.2.length qv) b.2 ∧ (∀ j u, [Value.int .i64 b.1, .slice pv b.2.length qv][j]? = some u → w.cell? ((⟨g, 0, none⟩ : Addr).add j) = some u) := by
 obtain ⟨g', cap', pv', qv', e, h1, h2, h3, ex, -, o, hc⟩ := ownL_single h
 simp only [Value.slice.injEq, Option.some.injEq, Addr.mk.injEq, and_true, true_and] at e
 obtain ⟨rfl, rfl⟩ := e
 simp only [List.cons.injEq, Value.slice.injEq, and_true, true_and] at ex
 obtain ⟨rfl, rfl⟩ := ex
 exact ⟨h1, h2, h3, o, hc⟩
theorem two_of {l : List MsgD} (h : l.length = 2) : ∃ a b, l = [a, b] := by
 match l, h with
 | [a, b], _ => exact ⟨a, b, rfl⟩
set_option maxRecDepth 4000 in
set_option maxHeartbeats 20000000 in
theorem specHv_m1 (s : SideD) (st mo : Int) (l : List MsgD) (base : List UInt8) (x : SecretsD) (ms : List MsgD) (p p2 p3 p4 p5 p6 p7 p8 p9 : Option Addr) (q q2 q3 q4 q5 q6 q7 q8 q9 : Nat) (w : World) (hsel : (uhD 2 (headM ms)).2.2.2 = 0) (h1 : Rd w p q s.2.1) (h2 : Rd w p2 q2 s.2.2.2) (h3 : RdL msgC w p3 q3 l) (h9 : RdL msgC w p9 q9 ms) :
  Calls Tryz.prog 8 #[.agg #[.int .i64 s.1, .slice p s.2.1.length q, .int .i64 s.2.2.1, .slice p2 s.2.2.2.length q2, .int .i64 st, .int .i64 mo, .slice p3 l.length q3, .slice p4 base.length q4, .slice p5 x.1.length q5, .slice p6 x.2.1.length q6, .slice p7 x.2.2.1.length q7, .slice p8 x.2.2.2.length q8], .slice p9 ms.length q9] w fun e w' => ∃ us fp, e = .returned (.agg us.toArray) ∧ endResultC.own w' w.heap.size (hvE (s, st, mo, l, base, x) ms) us fp ∧ Below w.heap.size w w' := by
 suffices H : ∀ Q : Ending → World → Prop, Hid (∀ e w', (∃ us fp, e = .returned (.agg us.toArray) ∧ endResultC.own w' w.heap.size (hvE (s, st, mo, l, base, x) ms) us fp ∧ Below w.heap.size w w') → Q e w') → Calls Tryz.prog 8 #[.agg #[.int .i64 s.1, .slice p s.2.1.length q, .int .i64 s.2.2.1, .slice p2 s.2.2.2.length q2, .int .i64 st, .int .i64 mo, .slice p3 l.length q3, .slice p4 base.length q4, .slice p5 x.1.length q5, .slice p6 x.2.1.length q6, .slice p7 x.2.2.1.length q7, .slice p8 x.2.2.2.length q8], .slice p9 ms.length q9] w Q from H _ (show Hid _ from fun _ _ h => h)
 intro Q HQ
 have HR1 : Hid (Rd w p q s.2.1) := h1
 have HR2 : Hid (Rd w p2 q2 s.2.2.2) := h2
 have HRL : Hid (RdL msgC w p3 q3 l) := h3
 have HRM : Hid (RdL msgC w p9 q9 ms) := h9
 have BW := Below.mk (alloc_below w (.cells #[.int .i64 s.1, .slice p s.2.1.length q, .int .i64 s.2.2.1, .slice p2 s.2.2.2.length q2, .int .i64 st, .int .i64 mo, .slice p3 l.length q3, .slice p4 base.length q4, .slice p5 x.1.length q5, .slice p6 x.2.1.length q6, .slice p7 x.2.2.1.length q7, .slice p8 x.2.2.2.length q8] 36)) (.cells #[.int .i64 0, .int .i64 0, .slice none 0 0, .int .i64 0, .slice none 0 0, .int .i64 0, .int .i64 0, .slice none 0 0, .slice none 0 0, .slice none 0 0, .slice none 0 0, .slice none 0 0, .slice none 0 0, .slice none 0 0] 38)
 have A := (Arr.new w [.int .i64 s.1, .slice p s.2.1.length q, .int .i64 s.2.2.1, .slice p2 s.2.2.2.length q2, .int .i64 st, .int .i64 mo, .slice p3 l.length q3, .slice p4 base.length q4, .slice p5 x.1.length q5, .slice p6 x.2.1.length q6, .slice p7 x.2.2.1.length q7, .slice p8 x.2.2.2.length q8] 36).old _ (.cells #[.int .i64 0, .int .i64 0, .slice none 0 0, .int .i64 0, .slice none 0 0, .int .i64 0, .int .i64 0, .slice none 0 0, .slice none 0 0, .slice none 0 0, .slice none 0 0, .slice none 0 0, .slice none 0 0, .slice none 0 0] 38)
 have R := Arr.new (w.alloc (.cells #[.int .i64 s.1, .slice p s.2.1.length q, .int .i64 s.2.2.1, .slice p2 s.2.2.2.length q2, .int .i64 st, .int .i64 mo, .slice p3 l.length q3, .slice p4 base.length q4, .slice p5 x.1.length q5, .slice p6 x.2.1.length q6, .slice p7 x.2.2.1.length q7, .slice p8 x.2.2.2.length q8] 36)) [.int .i64 0, .int .i64 0, .slice none 0 0, .int .i64 0, .slice none 0 0, .int .i64 0, .int .i64 0, .slice none 0 0, .slice none 0 0, .slice none 0 0, .slice none 0 0, .slice none 0 0, .slice none 0 0, .slice none 0 0] 38
 rw [size_alloc] at R
 have KE : Hid (∀ W, W = (w.alloc (.cells #[.int .i64 s.1, .slice p s.2.1.length q, .int .i64 s.2.2.1, .slice p2 s.2.2.2.length q2, .int .i64 st, .int .i64 mo, .slice p3 l.length q3, .slice p4 base.length q4, .slice p5 x.1.length q5, .slice p6 x.2.1.length q6, .slice p7 x.2.2.1.length q7, .slice p8 x.2.2.2.length q8] 36)).alloc (.cells #[.int .i64 0, .int .i64 0, .slice none 0 0, .int .i64 0, .slice none 0 0, .int .i64 0, .int .i64 0, .slice none 0 0, .slice none 0 0, .slice none 0 0, .slice none 0 0, .slice none 0 0, .slice none 0 0, .slice none 0 0] 38) → Calls Tryz.prog 36 #[.pointer (some ⟨w.heap.size, 0, none⟩)] W fun e w' => e = .returned (.int .i64 (efC (s, st, mo, l, base, x))) ∧ w' = W) := fun W hW => by
  subst hW
  exact l11Fault_c w.heap.size (s, st, mo, l, base, x) p p2 p3 p4 p5 p6 p7 p8 q q2 q3 q4 q5 q6 q7 q8 _ (fun i v hv => (A.cell i).trans hv) (HRL.out.keep BW)
 have hqm1 : ms.length ≤ q9 := h9.1
 have hqm2 : q9 ≤ 2 ^ 63 - 1 := h9.2.1
 clear h1 h2 h3 h9
 by_cases he : efC (s, st, mo, l, base, x) = 0
 ·rw [he] at KE
  have a4 := (A.cell 4).trans (show _ = some _ from rfl)
  have a6 := (A.cell 6).trans (show _ = some _ from rfl)
  by_cases hst : st = 1
  ·have ds : (st != 1) = false := by rw [bne_eq_false_iff_eq]; exact hst
   by_cases hl3 : l.length = 1
   ·have dl : ((l.length : Int) != 1) = false := by rw [bne_eq_false_iff_eq]; omega
    by_cases hm2 : ms.length = 2
    ·subst hst
     obtain ⟨a, rfl⟩ := List.length_eq_one_iff.1 hl3
     obtain ⟨b, c, rfl⟩ := two_of hm2
     rw [show [a].length = 1 from rfl] at A R BW KE a4 a6 ⊢
     rw [show [b, c].length = 2 from rfl] at hqm1 ⊢
     obtain ⟨lb, lo, e9, hc9⟩ := HRM.out.2.2.2 (by simp)
     subst e9
     obtain ⟨us0, hrep0, hcell0⟩ := hc9 0 b rfl
     obtain ⟨pb0, qb0, rfl, rb0⟩ := msg_rep hrep0
     obtain ⟨us1, hrep1, hcell1⟩ := hc9 1 c rfl
     obtain ⟨pcl, qcl, rfl, rc0⟩ := msg_rep hrep1
     have l0 := cell_keep (hcell0 0 _ rfl) BW
     have l1 := cell_keep (hcell0 1 _ rfl) BW
     have l2 := hcell1 0 _ rfl
     have l3 := hcell1 1 _ rfl
     rw [show msgC.n = 2 from rfl] at l2 l3
     simp only [Nat.zero_mul, Nat.one_mul, Nat.add_zero] at l0 l1 l2 l3
     have HRb : Hid (Rd w pb0 qb0 b.2) := rb0
     have HRc : Hid (Rd w pcl qcl c.2) := rc0
     have HL2 : Hid (w.cell? ⟨lb, lo + 2, none⟩ = some (.int .i64 c.1)) := l2
     have HL3 : Hid (w.cell? ⟨lb, lo + 2 + 1, none⟩ = some (.slice pcl c.2.length qcl)) := l3
     have HRB : Hid (RdL msgC w (some ⟨lb, lo, none⟩) q9 [b]) := HRM.out.take 1
     have hq31 : 1 ≤ q3 := HRL.out.1
     have hq32 : q3 ≤ 2 ^ 63 - 1 := HRL.out.2.1
     have HSEL : Hid ((uhD 2 b).2.2.2 = 0) := hsel
     have e4 := a4
     have e6 := a6
     clear hsel hl3 hm2 dl ds hc9 hcell0 hrep0 hcell1 hrep1 rb0 rc0 a4 a6 l2 l3
     go_enter Tryz.func8, Tryz.ntmps8
     go_wp2_with fail
     refine (KE.out _ rfl).mono ?_
     rintro e w1 ⟨rfl, hw⟩
     subst hw
     clear KE
     have hp := ef_parts he
     have HSF : Hid (sfC s = 0) := hp.1
     have HFA : Hid (faultW a.1 a.2.length = 0) := firstF_all hp.2.2.2.2.1 a (List.mem_singleton.2 rfl)
     have HLa : Hid (bulkM [a] ≤ 1000000) := by have h := bulk_small (l := [a]) (fun y hy => by rw [List.mem_singleton.1 hy]; exact HFA.out); simp only [List.length_singleton] at h; show _ ≤ _; omega
     clear hp
     go_wp2_with fail
     refine (specUh_k 2 b _ _ (msg_mk (HRb.out.keep BW))).mono ?_
     rintro e w1 ⟨us, fp, rfl, kh, hb1⟩
     obtain ⟨pr, qr, rfl, -⟩ := helloResult_rep (helloResultC.toRep kh)
     clear kh
     have UC : Hid ((uhD 2 b).1 = uhC 2 b) := rfl
     obtain ⟨h, HH⟩ : ∃ h, Hid (h = (uhD 2 b).2) := ⟨_, rfl⟩
     rw [UC.out, ← HH.out]
     have HRl0 : Hid (w.heap.size + 1 < w1.heap.size) := (R.stay hb1).lt
     have hl := alloc_below w1 (.cells #[.int .i64 (uhC 2 b), .slice pr h.1.length qr, .int .i64 h.2.1, .int .i64 h.2.2] 76)
     have X := Arr.new w1 [.int .i64 (uhC 2 b), .slice pr h.1.length qr, .int .i64 h.2.1, .int .i64 h.2.2] 76
     replace A := (A.stay hb1).stay hl
     replace R := (R.stay hb1).stay hl
     replace BW := Below.step (Below.step BW hb1) hl
     clear hb1 hl e4 e6 l0 l1
     by_cases hu : uhC 2 b = 0
     ·obtain ⟨-, hfb, -, y, -, huy, huc, -⟩ := uh_fault hu
      rw [← HH.out] at huy
      subst huy
      obtain ⟨-, hh1, hh2, -, -⟩ := hf_parts huc
      have HH1 : Hid (1 ≤ h.2.1) := hh1
      have HH2 : Hid (h.2.1 ≤ 65520) := hh2
      have HLb : Hid (bulkM [b] ≤ 1000000) := by have h := bulk_small (l := [b]) (fun y hy => by rw [List.mem_singleton.1 hy]; exact hfb); simp only [List.length_singleton] at h; show _ ≤ _; omega
      have HP2 : Hid ((packAll [a, b]).length ≤ 600) := by
       have h := packAll_small (l := [a, b]) (fun y hy => by
        simp only [List.mem_cons, List.not_mem_nil, or_false] at hy
        rcases hy with rfl | rfl
        ·exact HFA.out
        ·exact hfb)
       simp only [List.length_cons, List.length_nil] at h
       show _ ≤ _
       omega
      have HU : Hid (uhC 2 b = 0) := hu
      have HFB : Hid (faultW b.1 b.2.length = 0) := hfb
      rw [hu] at X A R BW ⊢
      have x0 := (X.cell 0).trans (show _ = some _ from rfl)
      have x2 := (X.cell 2).trans (show _ = some _ from rfl)
      have x3 := (X.cell 3).trans (show _ = some _ from rfl)
      have a2 := (A.cell 2).trans (show _ = some _ from rfl)
      have HCC : Hid (hvC2 s a b c = if h.2.2 = 0 ∨ h.2.2 = s.2.2.1 then cfC (hvK s a b h) [a, b] c else 8) := by show _ = _; rw [hvC2, if_pos hu, HH.out]
      clear hu huc hfb hh1 hh2
      by_cases hz : h.2.2 = 0
      ·have HMO : Hid (smode h = 1) := by show _ = _; rw [smode, if_pos hz]
       have HC2 : Hid (hvC2 s a b c = cfC (hvK s a b h) [a, b] c) := by show _ = _; rw [HCC.out, if_pos (.inl hz)]
       have dz : (h.2.2 != 0) = false := by rw [bne_eq_false_iff_eq]; exact hz
       clear hz HCC
       obtain ⟨S, HS⟩ : ∃ S, Hid (S = hvS s h) := ⟨_, rfl⟩
       have HSE : Hid (S = secN s h.2.1 1) := by show _ = _; rw [HS.out, hvS, HMO.out]
       have HS32 : Hid (S.length = 32) := by show _ = _; rw [HSE.out]; exact secN_len _ _ _
       have HD32 : Hid ((digM [a, b]).length = 32) := digM_len _
       obtain ⟨K, HK⟩ : ∃ K, Hid (K = trafN S sHsB (digM [a, b])) := ⟨_, rfl⟩
       have HKE : Hid (hvK s a b h = K) := by show _ = _; rw [HK.out, HS.out]; rfl
       rw [HKE.out] at HC2
       have KSec : Hid (∀ W, Below w.heap.size w W → AtS W w.heap.size 0 p q p2 q2 s → Calls Tryz.prog 39 #[.pointer (some ⟨w.heap.size, 0, none⟩), .int .i64 h.2.1, .int .i64 1] W fun e w' => ∃ u, e = .returned u ∧ Own w' W.heap.size u S ∧ Below W.heap.size W w') := fun W hW hA => by rw [HSE.out]; exact l11Secret_c w.heap.size 0 s h.2.1 1 p p2 q q2 W hA (HR2.out.keep hW) HSF.out HH1.out HH2.out
       go_wp2_with fail
       refine (KSec.out _ BW ⟨A.cell 0, A.cell 1, A.cell 2, A.cell 3⟩).mono ?_
       rintro e w2 ⟨uS, rfl, kS, hb2⟩
       obtain ⟨ps, qs, rfl, -⟩ := kS.rd
       replace A := A.stay hb2
       replace R := R.stay hb2
       replace BW := Below.step BW hb2
       have KT : Hid (∀ W pd qd, Rd W ps qs S → Rd W pd qd (digM [a, b]) → Calls Tryz.prog 42 #[.slice ps S.length qs, .string ⟨#[115, 32, 104, 115, 32, 116, 114, 97, 102, 102, 105, 99]⟩, .slice pd (digM [a, b]).length qd] W fun e w' => ∃ u, e = .returned u ∧ Own w' W.heap.size u K ∧ Below W.heap.size W w') := fun W pd qd h1 h2 => by
        have h := l7Traffic_c ps pd qs qd S sHsB (digM [a, b]) W h1 h2 (by have := HS32.out; omega) (by decide) (by have := HD32.out; omega)
        rw [← sHs_str, ← HK.out] at h
        exact h
       clear hb2 X x0 x2 x3 a2 KSec
       go_wp2_with fail
       obtain ⟨V, HV⟩ : ∃ V, Hid (V = w2) := ⟨_, rfl⟩
       rw [← HV.out] at A R BW kS ⊢
       clear HV
       have HSlt : Hid (∀ k, (Value.slice ps S.length qs).ownBlock = some k → k < V.heap.size) := fun k hk => kS.lt k hk
       have HVR : Hid (w.heap.size + 2 ≤ V.heap.size) := R.lt
       have e6 := (A.cell 6).trans (show _ = some _ from rfl)
       apply share
       case h =>
        intro JN
        have BB := Below.refl V.heap.size V
        have hne := HW.some V
        have g0 := HW.at (e6)
        refine wp_region_pick [0, 1, 3, 4] 6 2 2 rfl rfl rfl (by kernel_rfl) (by kernel_rfl) (by kernel_rfl) (by kernel_rfl) ?_
        simp only [opsAt, List.getElem?_toArray, List.getElem?_cons_zero, List.getElem?_cons_succ]
        repeat (go_big_quiet_step (fail))
        refine wpQuiet_nil ?_
        clear g0
        refine wpM_only (i := 2) (by kernel_rfl) ?_
        refine mOp_call rfl (by go_simp) 40 _ #[.slice p3 1 q3] (fun w => by go_simp) rfl ?_
        rintro _ ⟨sg, rfl⟩
        refine (l6Copy_c [a] p3 q3 _ (HRL.out.keep (Below.step BW (Below.step BB sg.h))) HLa.out).mono ?_
        rintro e wg1 ⟨va, xa, fa, rfl, ka, hbx⟩
        obtain ⟨ga, ca, pav, qav, rfl, ha1, ha2, -, rfl, rfl, -, -⟩ := ownL_single ka
        have hbg := Below.step sg.h hbx
        refine ⟨_, rfl, ⟨⟨wg1, hbx⟩, rfl⟩, ?_⟩
        have Ka := ka.low ((Below.step BB sg.h)).size
        replace BB := Below.step BB hbg
        clear hbg hbx sg ka ha1 ha2
        replace hne := HW.some wg1
        refine wpM_only (i := 5) (by kernel_rfl) ?_
        refine mOp_call rfl (by go_simp) 40 _ #[.slice (some ⟨lb, lo, none⟩) 1 q9] (fun w => by go_simp) rfl ?_
        rintro _ ⟨sg, rfl⟩
        refine (l6Copy_c [b] (some ⟨lb, lo, none⟩) q9 _ (HRB.out.keep (Below.step BW (Below.step BB sg.h))) HLb.out).mono ?_
        rintro e wg2 ⟨vb, xb, fb, rfl, kb, hbx⟩
        obtain ⟨gb, cb, pbv, qbv, rfl, hb1, hb2, -, rfl, rfl, -, -⟩ := ownL_single kb
        have hbg := Below.step sg.h hbx
        refine ⟨_, rfl, ⟨⟨wg2, hbx⟩, rfl⟩, ?_⟩
        have Kb := kb.low ((Below.step BB sg.h)).size
        have Dab := (show ∀ k, k ∈ (Value.slice pbv b.2.length qbv).ownBlock.toList → k ∉ (Value.slice (some ⟨ga, 0, none⟩) 1 ca).ownBlock.toList ++ (Value.slice pav a.2.length qav).ownBlock.toList from fun k h h2 => by have h1 := (Ka.ins k h2).2; have h4 := (kb.ins k (List.mem_append_right _ h)).1; have h3 := sg.h.size; omega)
        replace Ka := Ka.stay hbg
        replace BB := Below.step BB hbg
        clear hbg hbx sg kb hb1 hb2
        replace hne := HW.some wg2
        refine wpM_end (by kernel_rfl) rfl (by kernel_rfl) (by decide) ?_
        rintro _ ⟨sz, rfl⟩
        simp only [List.drop_succ_cons, List.drop_zero]
        go_simp
        replace Ka := Ka.stay sz.h
        replace Kb := Kb.stay sz.h
        replace BB := Below.step BB sz.h
        clear hne
        generalize sz.w = W at *
        clear sz
        revert Dab
        revert Kb
        revert Ka
        revert BB
        revert qbv
        revert pbv
        revert cb
        revert gb
        revert qav
        revert pav
        revert ca
        revert ga
        revert W
        exact JN.out
       intro W ga ca pav qav gb cb pbv qbv BB Ka Kb Dab
       obtain ⟨hca1, hca2, hga, oa, -⟩ := ownL_parts Ka
       obtain ⟨hcb1, hcb2, hgb, ob, hnew⟩ := ownL_parts Kb
       have hrow : Hid (W.ownsRow V.heap.size 53 2 (.slice (some ⟨ga, 0, none⟩) 1 ca) 1 [.int .i64 a.1, .slice pav a.2.length qav]) := Ka.row
       replace A := A.stay BB
       replace R := R.stay BB
       replace BW := Below.step BW BB
       replace kS := kS.stay BB
       clear e6
       obtain ⟨i0, hi, hz0, hz1, hz2⟩ := info_parts infoMsg
       go_wp2_with (at_builtin; refine Hid.out ?_)
       unfold Hid
       refine wpList_append_lies _ rfl (.tmp 67) (.tmp 70) 33 rfl V.heap.size 53 i0 (.agg #[.int .i64 0, .slice none 0 0]) 2 32 Tryz.underlying33 hi hz0 hz1 hz2 rfl (by decide) (.slice (some ⟨ga, 0, none⟩) 1 ca) 1 [.int .i64 a.1, .slice pav a.2.length qav] rfl hrow.out ⟨gb, 0, none⟩ 1 cb [.int .i64 b.1, .slice pbv b.2.length qbv] rfl rfl hnew (by intro u hu; simp at hu; rcases hu with rfl | rfl <;> rfl) (by decide) (by unfold maxLen; omega) (by omega) BB.size _ rfl ?_
       intro g6 c6 w6 hown6 hgrow6 hat6 hlt6
       clear i0 hi hz0 hz1 hz2
       have HGa : Hid (V.heap.size ≤ ga) := hga
       have OP := Ka.push (a := b) (msg_own_mk (a := b) ob) Dab (k := 2) (v' := .slice (some ⟨g6, 0, none⟩) 2 c6) (g := g6) hown6 rfl hgrow6 rfl hat6
       have HSg : Hid (∀ k, (Value.slice ps S.length qs).ownBlock = some k → k ≠ g6) := fun k hk e => by
        have h1 := HSlt.out k hk
        have h2 := HGa.out
        have h3 := BB.size
        rcases hat6 with h4 | h4
        ·have e' : ga = g6 := Option.some.inj h4
         omega
        ·omega
       replace BW := BW.grown hgrow6 BW.size (fun k hk => by have e : ga = k := Option.some.inj hk; have := HGa.out; have := HVR.out; omega)
       replace A := A.other hgrow6 (fun e => by have e' : ga = w.heap.size := Option.some.inj e; have := HGa.out; have := HVR.out; omega)
       replace R := R.other hgrow6 (fun e => by have e' : ga = w.heap.size + 1 := Option.some.inj e; have := HGa.out; have := HVR.out; omega)
       replace kS := kS.other hgrow6 (fun k hk e => by have e' : ga = k := Option.some.inj e; have h1 := HSlt.out _ hk; have h2 := HGa.out; omega)
       replace OP := OP.low HVR.out
       clear hown6 hgrow6 hat6 hnew hrow Ka Kb oa ob Dab BB hga hgb HGa HSlt HVR hlt6
       clear V
       go_wp2_with fail
       obtain ⟨V, HV⟩ : ∃ V, Hid (V = w6) := ⟨_, rfl⟩
       rw [← HV.out] at A R BW kS OP ⊢
       clear HV
       have RAL : RdL msgC V (some ⟨g6, 0, none⟩) c6 [a, b] := RdL.own OP
       have RS := Rd.own kS
       have l2 := cell_keep HL2.out BW
       have l3 := cell_keep HL3.out BW
       apply share
       case h =>
        intro JN
        have BB := Below.refl V.heap.size V
        have hne := HW.some V
        have g0 := HW.at (l2)
        have g1 := HW.at (l3)
        refine wp_region_pick [0, 1, 4, 5, 6, 7] 9 3 1 rfl rfl rfl (by kernel_rfl) (by kernel_rfl) (by kernel_rfl) (by kernel_rfl) ?_
        simp only [opsAt, List.getElem?_toArray, List.getElem?_cons_zero, List.getElem?_cons_succ]
        repeat (go_big_quiet_step (fail))
        refine wpQuiet_nil ?_
        clear g0 g1
        refine wpM_only (i := 2) (by kernel_rfl) ?_
        refine mOp_call rfl (by go_simp) 43 _ #[.slice (some ⟨g6, 0, none⟩) 2 c6] (fun w => by go_simp) rfl ?_
        rintro _ ⟨sg, rfl⟩
        refine (l11Digest_c [a, b] (some ⟨g6, 0, none⟩) c6 _ (RAL.keep (Below.step BB sg.h)) HP2.out).mono ?_
        rintro e wg1 ⟨ud, rfl, kd, hbx⟩
        obtain ⟨pd, qd, rfl, -⟩ := kd.rd
        have hbg := Below.step sg.h hbx
        refine ⟨_, rfl, ⟨⟨wg1, hbx⟩, rfl⟩, ?_⟩
        have R2 := Rd.own kd
        replace BB := Below.step BB hbg
        clear hbg hbx sg kd
        replace hne := HW.some wg1
        refine wpM_only (i := 3) (by kernel_rfl) ?_
        refine mOp_call rfl (by go_simp) 42 _ #[.slice ps S.length qs, .string ⟨#[115, 32, 104, 115, 32, 116, 114, 97, 102, 102, 105, 99]⟩, .slice pd (digM [a, b]).length qd] (fun w => by go_simp) rfl ?_
        rintro _ ⟨sg, rfl⟩
        refine (KT.out _ pd qd (RS.keep (Below.step BB sg.h)) (R2.keep sg.h)).mono ?_
        rintro e wg2 ⟨ut, rfl, kt, hbx⟩
        obtain ⟨pt, qt, rfl, -⟩ := kt.rd
        have hbg := Below.step sg.h hbx
        refine ⟨_, rfl, ⟨⟨wg2, hbx⟩, rfl⟩, ?_⟩
        have R3 := Rd.own kt
        replace R2 := R2.keep hbg
        replace BB := Below.step BB hbg
        clear hbg hbx sg kt
        replace hne := HW.some wg2
        refine wpM_only (i := 8) (by kernel_rfl) ?_
        refine mOp_call rfl (by go_simp) 41 _ #[.slice pt K.length qt, .slice (some ⟨g6, 0, none⟩) 2 c6, .agg #[.int .i64 c.1, .slice pcl c.2.length qcl]] (fun w => by go_simp) rfl ?_
        rintro _ ⟨sg, rfl⟩
        refine (specCf_c K [a, b] c pt (some ⟨g6, 0, none⟩) pcl qt c6 qcl _ (R3.keep sg.h) (RAL.keep (Below.step BB sg.h)) (HRc.out.keep (Below.step BW (Below.step BB sg.h)))).mono ?_
        rintro e wg3 ⟨rfl, hbx⟩
        have hbg := Below.step sg.h hbx
        refine ⟨_, rfl, ⟨⟨wg3, hbx⟩, rfl⟩, ?_⟩
        replace R2 := R2.keep hbg
        replace R3 := R3.keep hbg
        replace BB := Below.step BB hbg
        clear hbg hbx sg
        replace hne := HW.some wg3
        refine wpM_end (by kernel_rfl) rfl (by kernel_rfl) (by decide) ?_
        rintro _ ⟨sz, rfl⟩
        simp only [List.drop_succ_cons, List.drop_zero]
        go_simp
        replace R2 := R2.keep sz.h
        replace R3 := R3.keep sz.h
        replace BB := Below.step BB sz.h
        clear hne
        generalize sz.w = W at *
        clear sz
        revert R3
        revert R2
        revert BB
        revert qt
        revert pt
        revert qd
        revert pd
        revert W
        exact JN.out
       intro W pd qd pt qt BB R2 R3
       replace A := A.stay BB
       replace R := R.stay BB
       replace BW := Below.step BW BB
       replace kS := kS.stay BB
       replace OP := OP.stay BB
       clear BB l2 l3 RS RAL R2 R3
       clear V
       by_cases hc : cfC K [a, b] c = 0
       ·rw [hc]
        have HFc : Hid (faultW c.1 c.2.length = 0) := (cf_fault hc).1
        have HLc : Hid (bulkM [c] ≤ 1000000) := by have h := bulk_small (l := [c]) (fun y hy => by rw [List.mem_singleton.1 hy]; exact HFc.out); simp only [List.length_singleton] at h; show _ ≤ _; omega
        have HP3 : Hid ((packAll [a, b, c]).length ≤ 600) := by
         have h := packAll_small (l := [a, b, c]) (fun y hy => by
          simp only [List.mem_cons, List.not_mem_nil, or_false] at hy
          rcases hy with rfl | rfl | rfl
          ·exact HFA.out
          ·exact HFB.out
          ·exact HFc.out)
         simp only [List.length_cons, List.length_nil] at h
         show _ ≤ _
         omega
        obtain ⟨Fb, HF⟩ : ∃ F, Hid (F = (hvF s a b c).2) := ⟨_, rfl⟩
        have HFb : Hid (hvF s a b c = (20, Fb)) := by show _ = _; rw [HF.out]; rfl
        have HFS : Hid (hvF s a b c = finM S cHsB [a, b, c]) := by show _ = _; rw [hvF, ← HH.out, HS.out]
        have HF32 : Hid (Fb.length = 32) := by show _ = _; rw [HF.out, HFS.out]; exact finM_len _ _ _
        have HLf : Hid (bulkM [((20 : Int), Fb)] ≤ 1000000) := by
         show _ ≤ _
         rw [bulkM_cons, show bulkM ([] : List MsgD) = 0 from rfl]
         have := HF32.out
         simp only
         omega
        rw [hvE_go (a := a) he rfl rfl, hvE2_ok (by rw [HC2.out]; exact hc), ← HH.out, HMO.out, ← HS.out, HFb.out] at HQ
        clear hc HC2
        have RLd : RdL msgC w (some ⟨lb, lo + 2, none⟩) (q9 - 1) [c] := by
         have h := HRM.out.drop 1 (by simp)
         rw [show msgC.n = 2 from rfl] at h
         exact h
        have HRLd : Hid (RdL msgC w (some ⟨lb, lo + 2, none⟩) (q9 - 1) [c]) := RLd
        clear RLd
        go_wp2_with fail
        refine (l6Copy_c [c] (some ⟨lb, lo + 2, none⟩) (q9 - 1) _ (HRLd.out.keep BW) HLc.out).mono ?_
        rintro e w3 ⟨vc, xc, fc, rfl, kc, hb3⟩
        obtain ⟨gc, cc3, pcv, qcv, rfl, hcc1, hcc2, hgc, rfl, rfl, oc, hnewc⟩ := ownL_single kc
        have HOlt : Hid (∀ k, k ∈ (Value.slice (some ⟨g6, 0, none⟩) 2 c6).ownBlock.toList ++ _ → k < W.heap.size) := fun k hk => (OP.ins k hk).2
        have HSlt : Hid (∀ k, (Value.slice ps S.length qs).ownBlock = some k → k < W.heap.size) := fun k hk => kS.lt k hk
        have HOge : Hid (∀ k, (Value.slice pcv c.2.length qcv).ownBlock = some k → W.heap.size ≤ k) := fun k hk => oc.ge k hk
        have HWR : Hid (w.heap.size + 2 ≤ W.heap.size) := R.lt
        have HW3 : Hid (W.heap.size ≤ w3.heap.size) := hb3.size
        have HG6 : Hid (w.heap.size + 2 ≤ g6) := (OP.ins g6 (List.mem_append_left _ (mem_opt.2 rfl))).1
        replace oc := oc.lower HWR.out
        replace A := A.stay hb3
        replace R := R.stay hb3
        replace BW := Below.step BW hb3
        replace kS := kS.stay hb3
        replace OP := OP.stay hb3
        have hrow : Hid (w3.ownsRow (w.heap.size + 2) 53 2 (.slice (some ⟨g6, 0, none⟩) 2 c6) 2 ([.int .i64 a.1, .slice pav a.2.length qav] ++ [.int .i64 b.1, .slice pbv b.2.length qbv])) := OP.row
        have hc61 : 2 ≤ c6 := (RdL.own OP).1
        have hc62 : c6 ≤ 2 ^ 63 - 1 := (RdL.own OP).2.1
        clear kc hb3
        obtain ⟨i0, hi, hz0, hz1, hz2⟩ := info_parts infoMsg
        go_wp2_with (at_builtin; refine Hid.out ?_)
        unfold Hid
        refine wpList_append_lies _ rfl (.tmp 85) (.tmp 88) 33 rfl (w.heap.size + 2) 53 i0 (.agg #[.int .i64 0, .slice none 0 0]) 2 32 Tryz.underlying33 hi hz0 hz1 hz2 rfl (by decide) (.slice (some ⟨g6, 0, none⟩) 2 c6) 2 ([.int .i64 a.1, .slice pav a.2.length qav] ++ [.int .i64 b.1, .slice pbv b.2.length qbv]) rfl hrow.out ⟨gc, 0, none⟩ 1 cc3 [.int .i64 c.1, .slice pcv c.2.length qcv] rfl rfl hnewc (by intro u hu; simp at hu; rcases hu with rfl | rfl <;> rfl) (by decide) (by unfold maxLen; omega) (by omega) R.lt _ rfl ?_
        intro g7 c7 w7 hown6 hgrow6 hat6 hlt6
        clear i0 hi hz0 hz1 hz2
        have OP7 := OP.push (a := c) (msg_own_mk (a := c) oc) (fun j hj hj2 => by have h1 := HOge.out j (mem_opt.1 hj); have h2 := HOlt.out j hj2; omega) (k := 3) (v' := .slice (some ⟨g7, 0, none⟩) 3 c7) (g := g7) hown6 rfl hgrow6 rfl hat6
        have HSg7 : Hid (∀ k, (Value.slice ps S.length qs).ownBlock = some k → k ≠ g7) := fun k hk e => by
         have h1 := HSlt.out k hk
         have h2 := HSg.out k hk
         have h3 := HW3.out
         rcases hat6 with h4 | h4
         ·have e' : g6 = g7 := Option.some.inj h4
          omega
         ·omega
        replace BW := BW.grown hgrow6 BW.size (fun k hk => by have e : g6 = k := Option.some.inj hk; have := HG6.out; omega)
        replace A := A.other hgrow6 (fun e => by have e' : g6 = w.heap.size := Option.some.inj e; have := HG6.out; omega)
        replace R := R.other hgrow6 (fun e => by have e' : g6 = w.heap.size + 1 := Option.some.inj e; have := HG6.out; omega)
        replace kS := kS.other hgrow6 (fun k hk e => by have e' : g6 = k := Option.some.inj e; exact HSg.out k hk e'.symm)
        have HG7 : Hid (w.heap.size + 2 ≤ g7) := (OP7.ins g7 (List.mem_append_left _ (mem_opt.2 rfl))).1
        clear hown6 hgrow6 hat6 hnewc hrow OP oc HOlt HSlt HOge HWR HW3 HG6 HSg hlt6
        have KF := l11Finished_c S cHsB [a, b, c] ps (some ⟨g7, 0, none⟩) qs c7 w7 (Rd.own kS) (RdL.own OP7) HS32.out (by decide) HP3.out (by simp)
        rw [← cHs_str, show (finM S cHsB [a, b, c]).2 = Fb by rw [← HFS.out, HF.out], show [a, b, c].length = 3 from rfl] at KF
        clear hgc
        clear W
        go_wp2_with fail
        refine KF.mono ?_
        rintro e w8 ⟨uf, rfl, kf, hb8⟩
        obtain ⟨pf, qf, rfl, -⟩ := kf.rd
        have HOlt : Hid (∀ k, k ∈ (Value.slice (some ⟨g7, 0, none⟩) 3 c7).ownBlock.toList ++ _ → k < w7.heap.size) := fun k hk => (OP7.ins k hk).2
        have HSlt : Hid (∀ k, (Value.slice ps S.length qs).ownBlock = some k → k < w7.heap.size) := fun k hk => kS.lt k hk
        have HFge : Hid (∀ k, (Value.slice pf Fb.length qf).ownBlock = some k → w7.heap.size ≤ k) := fun k hk => kf.ge k hk
        have HFlt : Hid (∀ k, (Value.slice pf Fb.length qf).ownBlock = some k → k < w8.heap.size) := fun k hk => kf.lt k hk
        have HW8 : Hid (w7.heap.size ≤ w8.heap.size) := hb8.size
        have HWR : Hid (w.heap.size + 2 ≤ w7.heap.size) := R.lt
        have hl8 := Below.mk (alloc_below w8 (.cells #[.int .i64 20, .slice pf Fb.length qf] 53)) (.cells #[.int .i64 20, .slice pf Fb.length qf] 53)
        have F := (Arr.new w8 [.int .i64 20, .slice pf Fb.length qf] 53).old _ (.cells #[.int .i64 20, .slice pf Fb.length qf] 53)
        have Nw := Arr.new (w8.alloc (.cells #[.int .i64 20, .slice pf Fb.length qf] 53)) [.int .i64 20, .slice pf Fb.length qf] 53
        rw [size_alloc] at Nw
        have hnew8 := Nw.cells
        have hb9 := Below.step hb8 hl8
        replace kf := (kf.lower HWR.out).stay hl8
        replace A := A.stay hb9
        replace R := R.stay hb9
        replace BW := Below.step BW hb9
        replace kS := kS.stay hb9
        replace OP7 := OP7.stay hb9
        have hrow : Hid (((w8.alloc (.cells #[.int .i64 20, .slice pf Fb.length qf] 53)).alloc (.cells #[.int .i64 20, .slice pf Fb.length qf] 53)).ownsRow (w.heap.size + 2) 53 2 (.slice (some ⟨g7, 0, none⟩) 3 c7) 3 ([.int .i64 a.1, .slice pav a.2.length qav] ++ [.int .i64 b.1, .slice pbv b.2.length qbv] ++ [.int .i64 c.1, .slice pcv c.2.length qcv])) := OP7.row
        have hc71 : 3 ≤ c7 := (RdL.own OP7).1
        have hc72 : c7 ≤ 2 ^ 63 - 1 := (RdL.own OP7).2.1
        clear KF hb8 hl8 hb9 Nw
        obtain ⟨i0, hi, hz0, hz1, hz2⟩ := info_parts infoMsg
        go_wp2_with (at_builtin; refine Hid.out ?_)
        unfold Hid
        refine wpList_append_lies _ rfl (.tmp 93) (.tmp 95) 33 rfl (w.heap.size + 2) 53 i0 (.agg #[.int .i64 0, .slice none 0 0]) 2 32 Tryz.underlying33 hi hz0 hz1 hz2 rfl (by decide) (.slice (some ⟨g7, 0, none⟩) 3 c7) 3 ([.int .i64 a.1, .slice pav a.2.length qav] ++ [.int .i64 b.1, .slice pbv b.2.length qbv] ++ [.int .i64 c.1, .slice pcv c.2.length qcv]) rfl hrow.out ⟨w8.heap.size + 1, 0, none⟩ 1 1 [.int .i64 20, .slice pf Fb.length qf] rfl rfl hnew8 (by intro u hu; simp at hu; rcases hu with rfl | rfl <;> rfl) (by decide) (by unfold maxLen; omega) (by omega) R.lt _ rfl ?_
        intro g8 c8 w9 hown6 hgrow6 hat6 hlt6
        clear i0 hi hz0 hz1 hz2
        have OP9 := OP7.push (a := ((20 : Int), Fb)) (msg_own_mk (a := ((20 : Int), Fb)) kf) (fun j hj hj2 => by have h1 := HFge.out j (mem_opt.1 hj); have h2 := HOlt.out j hj2; omega) (k := 4) (v' := .slice (some ⟨g8, 0, none⟩) 4 c8) (g := g8) hown6 rfl hgrow6 rfl hat6
        replace BW := BW.grown hgrow6 BW.size (fun k hk => by have e : g7 = k := Option.some.inj hk; have := HG7.out; omega)
        replace A := A.other hgrow6 (fun e => by have e' : g7 = w.heap.size := Option.some.inj e; have := HG7.out; omega)
        replace R := R.other hgrow6 (fun e => by have e' : g7 = w.heap.size + 1 := Option.some.inj e; have := HG7.out; omega)
        have HG7l : Hid (g7 < w7.heap.size) := HOlt.out g7 (List.mem_append_left _ (mem_opt.2 rfl))
        replace F := F.other hgrow6 (fun e => by have e' : g7 = w8.heap.size := Option.some.inj e; have := HG7l.out; have := HW8.out; omega)
        replace kS := kS.other hgrow6 (fun k hk e => by have e' : g7 = k := Option.some.inj e; exact HSg7.out k hk e'.symm)
        replace kf := kf.other hgrow6 (fun k hk e => by have e' : g7 = k := Option.some.inj e; have h1 := HFge.out k hk; have h2 := HG7l.out; omega)
        clear hown6 hgrow6 hat6 hnew8 hrow OP7 HOlt HSlt HFge HFlt HW8 HWR HG7 HG7l HSg7 hlt6
        go_wp2_with fail
        obtain ⟨V, HV⟩ : ∃ V, Hid (V = w9) := ⟨_, rfl⟩
        rw [← HV.out] at A R BW kS OP9 F kf ⊢
        clear HV
        have HVR : Hid (w.heap.size + 2 ≤ V.heap.size) := R.lt
        have RAL : RdL msgC V (some ⟨g8, 0, none⟩) c8 [a, b, c, ((20 : Int), Fb)] := RdL.own OP9
        have RS := Rd.own kS
        have HRf : Hid (Rd V pf qf Fb) := Rd.own kf
        have hc81 : 4 ≤ c8 := RAL.1
        have hc82 : c8 ≤ 2 ^ 63 - 1 := RAL.2.1
        have c0 := (A.cell 0).trans (show _ = some _ from rfl)
        have c1 := (A.cell 1).trans (show _ = some _ from rfl)
        have c2 := (A.cell 2).trans (show _ = some _ from rfl)
        have c3 := (A.cell 3).trans (show _ = some _ from rfl)
        have c4 := (F.cell 0).trans (show _ = some _ from rfl)
        have c5 := (F.cell 1).trans (show _ = some _ from rfl)
        have HOP : Hid (OwnL 53 msgC V (w.heap.size + 2) (.slice (some ⟨g8, 0, none⟩) 4 c8) [a, b, c, ((20 : Int), Fb)] _ _) := OP9
        clear OP9 kS kf F A
        apply share
        case h =>
         intro JN
         have BB := Below.refl V.heap.size V
         have hne := HW.some V
         have g0 := HW.at (c0)
         have g1 := HW.at (c1)
         have g2 := HW.at (c2)
         have g3 := HW.at (c3)
         have g4 := HW.at (c4)
         have g5 := HW.at (c5)
         refine wp_region_pick [0, 1, 2, 3, 5, 7] 11 5 1 rfl rfl rfl (by kernel_rfl) (by kernel_rfl) (by kernel_rfl) (by kernel_rfl) ?_
         simp only [opsAt, List.getElem?_toArray, List.getElem?_cons_zero, List.getElem?_cons_succ]
         repeat (go_big_quiet_step (fail))
         refine wpQuiet_nil ?_
         clear g0 g1 g2 g3 g4 g5
         refine wpM_two (i := 4) (j := 8) (by kernel_rfl) ?_ ?_
         ·skip
          refine mOp_call rfl (by go_simp) 46 _ #[.slice ps S.length qs] (fun w => by go_simp) rfl ?_
          rintro _ ⟨sg, rfl⟩
          refine (l7Master_c ps qs S _ (RS.keep (Below.step BB sg.h)) (by have := HS32.out; omega)).mono ?_
          rintro e wg1 ⟨um, rfl, km, hbx⟩
          obtain ⟨pm, qm, rfl, -⟩ := km.rd
          have hbg := Below.step sg.h hbx
          refine ⟨_, rfl, ⟨⟨wg1, hbx⟩, rfl⟩, ?_⟩
          have Rm := Rd.own km
          replace BB := Below.step BB hbg
          clear hbg hbx sg km
          replace hne := HW.some wg1
          refine wpM_two (i := 6) (j := 8) (by kernel_rfl) ?_ ?_
          ·skip
           refine mOp_call rfl (by go_simp) 45 _ #[.agg #[.int .i64 s.1, .slice p s.2.1.length q, .int .i64 s.2.2.1, .slice p2 s.2.2.2.length q2], .int .i64 1, .slice pm (masterN S).length qm, .slice (some ⟨g8, 0, none⟩) 4 c8] (fun w => by go_simp) rfl ?_
           rintro _ ⟨sg, rfl⟩
           refine (l11Done_c s 1 (masterN S) [a, b, c, ((20 : Int), Fb)] p p2 pm (some ⟨g8, 0, none⟩) q q2 qm c8 _ (HR1.out.keep (Below.step BW (Below.step BB sg.h))) (HR2.out.keep (Below.step BW (Below.step BB sg.h))) (Rm.keep sg.h) (RAL.keep (Below.step BB sg.h)) HSF.out (by rw [masterN_len]; decide) (by simp) HP3.out).mono ?_
           rintro e wg2 ⟨u7, v7, ub, x1, x2, x3, x4, fs, fx, rfl, ks, kb, kx, d1, d2, d3, hbx⟩
           obtain ⟨pu, qu, pv, qv, es, -, -⟩ := side_rep (sideC.toRep ks)
           simp only [List.cons.injEq, and_true, true_and] at es
           obtain ⟨rfl, rfl⟩ := es
           obtain ⟨pb, qb, rfl, -⟩ := kb.rd
           obtain ⟨y1, z1, y2, z2, y3, z3, y4, z4, ex, -, -, -, -⟩ := secrets_rep (secretsC.toRep kx)
           simp only [List.cons.injEq, and_true] at ex
           obtain ⟨rfl, rfl, rfl, rfl⟩ := ex
           have hbg := Below.step sg.h hbx
           refine ⟨_, rfl, ⟨⟨wg2, hbx⟩, rfl⟩, ?_⟩
           have Ks := sideC.low ks ((Below.step BB sg.h)).size
           have Kb := kb.lower ((Below.step BB sg.h)).size
           have Kx := secretsC.low kx ((Below.step BB sg.h)).size
           have D1 := d1
           have D2 := d2
           have D3 := d3
           replace Rm := Rm.keep hbg
           replace BB := Below.step BB hbg
           clear hbg hbx sg ks kb kx d1 d2 d3
           replace hne := HW.some wg2
           refine wpM_only (i := 8) (by kernel_rfl) ?_
           refine mOp_make rfl (by go_simp) ?_
           rintro _ ⟨sg, rfl⟩
           refine ⟨.slice (some ⟨sg.w.heap.size, 0, none⟩) 1 1, sg.w.alloc (.cells #[.int .i64 20, .slice pf Fb.length qf] 53), by go_simp, ⟨⟨_, alloc_below _ _⟩, rfl⟩, ?_⟩
           have hbg := Below.step sg.h (alloc_below sg.w (.cells #[.int .i64 20, .slice pf Fb.length qf] 53))
           have Kl := Arr.new sg.w [.int .i64 20, .slice pf Fb.length qf] 53
           replace Rm := Rm.keep hbg
           replace Ks := sideC.stay Ks hbg
           replace Kb := Kb.stay hbg
           replace Kx := secretsC.stay Kx hbg
           replace BB := Below.step BB hbg
           clear hbg
           replace hne := HW.some (sg.w.alloc (.cells #[.int .i64 20, .slice pf Fb.length qf] 53))
           generalize hW : (sg.w.alloc (.cells #[.int .i64 20, .slice pf Fb.length qf] 53)) = wg3 at *
           clear hW
           generalize sg.w.heap.size = gs at *
           clear sg
           refine wpM_only (i := 9) (by kernel_rfl) ?_
           refine mOp_call rfl (by go_simp) 40 _ #[.slice (some ⟨gs, 0, none⟩) 1 1] (fun w => by go_simp) rfl ?_
           rintro _ ⟨sg, rfl⟩
           refine (l6Copy_c [((20 : Int), Fb)] _ _ _ (rdL_oneM (Kl.stay sg.h) (HRf.out.keep (Below.step BB sg.h))) HLf.out).mono ?_
           rintro e wg4 ⟨vd, xd, fd, rfl, kd, hbx⟩
           obtain ⟨gd, cd, pdv, qdv, rfl, hd1, hd2, -, rfl, rfl, -, -⟩ := ownL_single kd
           have hbg := Below.step sg.h hbx
           refine ⟨_, rfl, ⟨⟨wg4, hbx⟩, rfl⟩, ?_⟩
           have Kd := kd.low ((Below.step BB sg.h)).size
           have Dsd := (show ∀ k, k ∈ fs → k ∉ (Value.slice (some ⟨gd, 0, none⟩) 1 cd).ownBlock.toList ++ (Value.slice pdv ((20 : Int), Fb).2.length qdv).ownBlock.toList from fun k h h2 => by have h1 := (sideC.ins Ks k h).2; have h4 := (kd.ins k h2).1; have h3 := sg.h.size; omega)
           have Dbd := (show ∀ k, k ∈ (Value.slice pb (masterN S).length qb).ownBlock.toList → k ∉ (Value.slice (some ⟨gd, 0, none⟩) 1 cd).ownBlock.toList ++ (Value.slice pdv ((20 : Int), Fb).2.length qdv).ownBlock.toList from fun k h h2 => by have h1 := Kb.lt _ (mem_opt.1 h); have h4 := (kd.ins k h2).1; have h3 := sg.h.size; omega)
           have Dxd := (show ∀ k, k ∈ fx → k ∉ (Value.slice (some ⟨gd, 0, none⟩) 1 cd).ownBlock.toList ++ (Value.slice pdv ((20 : Int), Fb).2.length qdv).ownBlock.toList from fun k h h2 => by have h1 := (secretsC.ins Kx k h).2; have h4 := (kd.ins k h2).1; have h3 := sg.h.size; omega)
           replace Rm := Rm.keep hbg
           replace Ks := sideC.stay Ks hbg
           replace Kb := Kb.stay hbg
           replace Kx := secretsC.stay Kx hbg
           replace Kl := Kl.stay hbg
           replace BB := Below.step BB hbg
           clear hbg hbx sg kd hd1 hd2
           replace hne := HW.some wg4
           refine wpM_more [10] 1 0 rfl (by kernel_rfl) (by kernel_rfl) (by kernel_rfl) (by kernel_rfl) ?_
           simp only [opsAt, List.getElem?_toArray, List.getElem?_cons_zero, List.getElem?_cons_succ]
           go_simp
           repeat (go_big_quiet_step (fail))
           refine wpQuiet_nil ?_
           refine wpM_end (by kernel_rfl) rfl (by kernel_rfl) (by decide) ?_
           rintro _ ⟨sz, rfl⟩
           simp only [List.drop_succ_cons, List.drop_zero]
           go_simp
           replace Rm := Rm.keep sz.h
           replace Ks := sideC.stay Ks sz.h
           replace Kb := Kb.stay sz.h
           replace Kx := secretsC.stay Kx sz.h
           replace Kl := Kl.stay sz.h
           replace Kd := Kd.stay sz.h
           replace BB := Below.step BB sz.h
           clear hne
           generalize sz.w = W at *
           clear sz
           revert Dxd
           revert Dbd
           revert Dsd
           revert Kd
           revert Kl
           revert D3
           revert D2
           revert D1
           revert Kx
           revert Kb
           revert Ks
           revert Rm
           revert BB
           revert qdv
           revert pdv
           revert cd
           revert gd
           revert gs
           revert z4
           revert y4
           revert z3
           revert y3
           revert z2
           revert y2
           revert z1
           revert y1
           revert qb
           revert pb
           revert qv
           revert pv
           revert qu
           revert pu
           revert fx
           revert fs
           revert qm
           revert pm
           revert W
           exact JN.out
          ·skip
           refine mOp_make rfl (by go_simp) ?_
           rintro _ ⟨sg, rfl⟩
           refine ⟨.slice (some ⟨sg.w.heap.size, 0, none⟩) 1 1, sg.w.alloc (.cells #[.int .i64 20, .slice pf Fb.length qf] 53), by go_simp, ⟨⟨_, alloc_below _ _⟩, rfl⟩, ?_⟩
           have hbg := Below.step sg.h (alloc_below sg.w (.cells #[.int .i64 20, .slice pf Fb.length qf] 53))
           have Kl := Arr.new sg.w [.int .i64 20, .slice pf Fb.length qf] 53
           replace Rm := Rm.keep hbg
           replace BB := Below.step BB hbg
           clear hbg
           replace hne := HW.some (sg.w.alloc (.cells #[.int .i64 20, .slice pf Fb.length qf] 53))
           generalize hW : (sg.w.alloc (.cells #[.int .i64 20, .slice pf Fb.length qf] 53)) = wg5 at *
           clear hW
           generalize sg.w.heap.size = gs at *
           clear sg
           refine wpM_only (i := 6) (by kernel_rfl) ?_
           refine mOp_call rfl (by go_simp) 45 _ #[.agg #[.int .i64 s.1, .slice p s.2.1.length q, .int .i64 s.2.2.1, .slice p2 s.2.2.2.length q2], .int .i64 1, .slice pm (masterN S).length qm, .slice (some ⟨g8, 0, none⟩) 4 c8] (fun w => by go_simp) rfl ?_
           rintro _ ⟨sg, rfl⟩
           refine (l11Done_c s 1 (masterN S) [a, b, c, ((20 : Int), Fb)] p p2 pm (some ⟨g8, 0, none⟩) q q2 qm c8 _ (HR1.out.keep (Below.step BW (Below.step BB sg.h))) (HR2.out.keep (Below.step BW (Below.step BB sg.h))) (Rm.keep sg.h) (RAL.keep (Below.step BB sg.h)) HSF.out (by rw [masterN_len]; decide) (by simp) HP3.out).mono ?_
           rintro e wg6 ⟨u7, v7, ub, x1, x2, x3, x4, fs, fx, rfl, ks, kb, kx, d1, d2, d3, hbx⟩
           obtain ⟨pu, qu, pv, qv, es, -, -⟩ := side_rep (sideC.toRep ks)
           simp only [List.cons.injEq, and_true, true_and] at es
           obtain ⟨rfl, rfl⟩ := es
           obtain ⟨pb, qb, rfl, -⟩ := kb.rd
           obtain ⟨y1, z1, y2, z2, y3, z3, y4, z4, ex, -, -, -, -⟩ := secrets_rep (secretsC.toRep kx)
           simp only [List.cons.injEq, and_true] at ex
           obtain ⟨rfl, rfl, rfl, rfl⟩ := ex
           have hbg := Below.step sg.h hbx
           refine ⟨_, rfl, ⟨⟨wg6, hbx⟩, rfl⟩, ?_⟩
           have Ks := sideC.low ks ((Below.step BB sg.h)).size
           have Kb := kb.lower ((Below.step BB sg.h)).size
           have Kx := secretsC.low kx ((Below.step BB sg.h)).size
           have D1 := d1
           have D2 := d2
           have D3 := d3
           replace Rm := Rm.keep hbg
           replace Kl := Kl.stay hbg
           replace BB := Below.step BB hbg
           clear hbg hbx sg ks kb kx d1 d2 d3
           replace hne := HW.some wg6
           refine wpM_only (i := 9) (by kernel_rfl) ?_
           refine mOp_call rfl (by go_simp) 40 _ #[.slice (some ⟨gs, 0, none⟩) 1 1] (fun w => by go_simp) rfl ?_
           rintro _ ⟨sg, rfl⟩
           refine (l6Copy_c [((20 : Int), Fb)] _ _ _ (rdL_oneM (Kl.stay sg.h) (HRf.out.keep (Below.step BB sg.h))) HLf.out).mono ?_
           rintro e wg7 ⟨vd, xd, fd, rfl, kd, hbx⟩
           obtain ⟨gd, cd, pdv, qdv, rfl, hd1, hd2, -, rfl, rfl, -, -⟩ := ownL_single kd
           have hbg := Below.step sg.h hbx
           refine ⟨_, rfl, ⟨⟨wg7, hbx⟩, rfl⟩, ?_⟩
           have Kd := kd.low ((Below.step BB sg.h)).size
           have Dsd := (show ∀ k, k ∈ fs → k ∉ (Value.slice (some ⟨gd, 0, none⟩) 1 cd).ownBlock.toList ++ (Value.slice pdv ((20 : Int), Fb).2.length qdv).ownBlock.toList from fun k h h2 => by have h1 := (sideC.ins Ks k h).2; have h4 := (kd.ins k h2).1; have h3 := sg.h.size; omega)
           have Dbd := (show ∀ k, k ∈ (Value.slice pb (masterN S).length qb).ownBlock.toList → k ∉ (Value.slice (some ⟨gd, 0, none⟩) 1 cd).ownBlock.toList ++ (Value.slice pdv ((20 : Int), Fb).2.length qdv).ownBlock.toList from fun k h h2 => by have h1 := Kb.lt _ (mem_opt.1 h); have h4 := (kd.ins k h2).1; have h3 := sg.h.size; omega)
           have Dxd := (show ∀ k, k ∈ fx → k ∉ (Value.slice (some ⟨gd, 0, none⟩) 1 cd).ownBlock.toList ++ (Value.slice pdv ((20 : Int), Fb).2.length qdv).ownBlock.toList from fun k h h2 => by have h1 := (secretsC.ins Kx k h).2; have h4 := (kd.ins k h2).1; have h3 := sg.h.size; omega)
           replace Rm := Rm.keep hbg
           replace Kl := Kl.stay hbg
           replace Ks := sideC.stay Ks hbg
           replace Kb := Kb.stay hbg
           replace Kx := secretsC.stay Kx hbg
           replace BB := Below.step BB hbg
           clear hbg hbx sg kd hd1 hd2
           replace hne := HW.some wg7
           refine wpM_more [10] 1 0 rfl (by kernel_rfl) (by kernel_rfl) (by kernel_rfl) (by kernel_rfl) ?_
           simp only [opsAt, List.getElem?_toArray, List.getElem?_cons_zero, List.getElem?_cons_succ]
           go_simp
           repeat (go_big_quiet_step (fail))
           refine wpQuiet_nil ?_
           refine wpM_end (by kernel_rfl) rfl (by kernel_rfl) (by decide) ?_
           rintro _ ⟨sz, rfl⟩
           simp only [List.drop_succ_cons, List.drop_zero]
           go_simp
           replace Rm := Rm.keep sz.h
           replace Kl := Kl.stay sz.h
           replace Ks := sideC.stay Ks sz.h
           replace Kb := Kb.stay sz.h
           replace Kx := secretsC.stay Kx sz.h
           replace Kd := Kd.stay sz.h
           replace BB := Below.step BB sz.h
           clear hne
           generalize sz.w = W at *
           clear sz
           revert Dxd
           revert Dbd
           revert Dsd
           revert Kd
           revert Kl
           revert D3
           revert D2
           revert D1
           revert Kx
           revert Kb
           revert Ks
           revert Rm
           revert BB
           revert qdv
           revert pdv
           revert cd
           revert gd
           revert gs
           revert z4
           revert y4
           revert z3
           revert y3
           revert z2
           revert y2
           revert z1
           revert y1
           revert qb
           revert pb
           revert qv
           revert pv
           revert qu
           revert pu
           revert fx
           revert fs
           revert qm
           revert pm
           revert W
           exact JN.out
         ·skip
          refine mOp_make rfl (by go_simp) ?_
          rintro _ ⟨sg, rfl⟩
          refine ⟨.slice (some ⟨sg.w.heap.size, 0, none⟩) 1 1, sg.w.alloc (.cells #[.int .i64 20, .slice pf Fb.length qf] 53), by go_simp, ⟨⟨_, alloc_below _ _⟩, rfl⟩, ?_⟩
          have hbg := Below.step sg.h (alloc_below sg.w (.cells #[.int .i64 20, .slice pf Fb.length qf] 53))
          have Kl := Arr.new sg.w [.int .i64 20, .slice pf Fb.length qf] 53
          replace BB := Below.step BB hbg
          clear hbg
          replace hne := HW.some (sg.w.alloc (.cells #[.int .i64 20, .slice pf Fb.length qf] 53))
          generalize hW : (sg.w.alloc (.cells #[.int .i64 20, .slice pf Fb.length qf] 53)) = wg8 at *
          clear hW
          generalize sg.w.heap.size = gs at *
          clear sg
          refine wpM_only (i := 4) (by kernel_rfl) ?_
          refine mOp_call rfl (by go_simp) 46 _ #[.slice ps S.length qs] (fun w => by go_simp) rfl ?_
          rintro _ ⟨sg, rfl⟩
          refine (l7Master_c ps qs S _ (RS.keep (Below.step BB sg.h)) (by have := HS32.out; omega)).mono ?_
          rintro e wg9 ⟨um, rfl, km, hbx⟩
          obtain ⟨pm, qm, rfl, -⟩ := km.rd
          have hbg := Below.step sg.h hbx
          refine ⟨_, rfl, ⟨⟨wg9, hbx⟩, rfl⟩, ?_⟩
          have Rm := Rd.own km
          replace Kl := Kl.stay hbg
          replace BB := Below.step BB hbg
          clear hbg hbx sg km
          replace hne := HW.some wg9
          refine wpM_only (i := 6) (by kernel_rfl) ?_
          refine mOp_call rfl (by go_simp) 45 _ #[.agg #[.int .i64 s.1, .slice p s.2.1.length q, .int .i64 s.2.2.1, .slice p2 s.2.2.2.length q2], .int .i64 1, .slice pm (masterN S).length qm, .slice (some ⟨g8, 0, none⟩) 4 c8] (fun w => by go_simp) rfl ?_
          rintro _ ⟨sg, rfl⟩
          refine (l11Done_c s 1 (masterN S) [a, b, c, ((20 : Int), Fb)] p p2 pm (some ⟨g8, 0, none⟩) q q2 qm c8 _ (HR1.out.keep (Below.step BW (Below.step BB sg.h))) (HR2.out.keep (Below.step BW (Below.step BB sg.h))) (Rm.keep sg.h) (RAL.keep (Below.step BB sg.h)) HSF.out (by rw [masterN_len]; decide) (by simp) HP3.out).mono ?_
          rintro e wg10 ⟨u7, v7, ub, x1, x2, x3, x4, fs, fx, rfl, ks, kb, kx, d1, d2, d3, hbx⟩
          obtain ⟨pu, qu, pv, qv, es, -, -⟩ := side_rep (sideC.toRep ks)
          simp only [List.cons.injEq, and_true, true_and] at es
          obtain ⟨rfl, rfl⟩ := es
          obtain ⟨pb, qb, rfl, -⟩ := kb.rd
          obtain ⟨y1, z1, y2, z2, y3, z3, y4, z4, ex, -, -, -, -⟩ := secrets_rep (secretsC.toRep kx)
          simp only [List.cons.injEq, and_true] at ex
          obtain ⟨rfl, rfl, rfl, rfl⟩ := ex
          have hbg := Below.step sg.h hbx
          refine ⟨_, rfl, ⟨⟨wg10, hbx⟩, rfl⟩, ?_⟩
          have Ks := sideC.low ks ((Below.step BB sg.h)).size
          have Kb := kb.lower ((Below.step BB sg.h)).size
          have Kx := secretsC.low kx ((Below.step BB sg.h)).size
          have D1 := d1
          have D2 := d2
          have D3 := d3
          replace Kl := Kl.stay hbg
          replace Rm := Rm.keep hbg
          replace BB := Below.step BB hbg
          clear hbg hbx sg ks kb kx d1 d2 d3
          replace hne := HW.some wg10
          refine wpM_only (i := 9) (by kernel_rfl) ?_
          refine mOp_call rfl (by go_simp) 40 _ #[.slice (some ⟨gs, 0, none⟩) 1 1] (fun w => by go_simp) rfl ?_
          rintro _ ⟨sg, rfl⟩
          refine (l6Copy_c [((20 : Int), Fb)] _ _ _ (rdL_oneM (Kl.stay sg.h) (HRf.out.keep (Below.step BB sg.h))) HLf.out).mono ?_
          rintro e wg11 ⟨vd, xd, fd, rfl, kd, hbx⟩
          obtain ⟨gd, cd, pdv, qdv, rfl, hd1, hd2, -, rfl, rfl, -, -⟩ := ownL_single kd
          have hbg := Below.step sg.h hbx
          refine ⟨_, rfl, ⟨⟨wg11, hbx⟩, rfl⟩, ?_⟩
          have Kd := kd.low ((Below.step BB sg.h)).size
          have Dsd := (show ∀ k, k ∈ fs → k ∉ (Value.slice (some ⟨gd, 0, none⟩) 1 cd).ownBlock.toList ++ (Value.slice pdv ((20 : Int), Fb).2.length qdv).ownBlock.toList from fun k h h2 => by have h1 := (sideC.ins Ks k h).2; have h4 := (kd.ins k h2).1; have h3 := sg.h.size; omega)
          have Dbd := (show ∀ k, k ∈ (Value.slice pb (masterN S).length qb).ownBlock.toList → k ∉ (Value.slice (some ⟨gd, 0, none⟩) 1 cd).ownBlock.toList ++ (Value.slice pdv ((20 : Int), Fb).2.length qdv).ownBlock.toList from fun k h h2 => by have h1 := Kb.lt _ (mem_opt.1 h); have h4 := (kd.ins k h2).1; have h3 := sg.h.size; omega)
          have Dxd := (show ∀ k, k ∈ fx → k ∉ (Value.slice (some ⟨gd, 0, none⟩) 1 cd).ownBlock.toList ++ (Value.slice pdv ((20 : Int), Fb).2.length qdv).ownBlock.toList from fun k h h2 => by have h1 := (secretsC.ins Kx k h).2; have h4 := (kd.ins k h2).1; have h3 := sg.h.size; omega)
          replace Kl := Kl.stay hbg
          replace Rm := Rm.keep hbg
          replace Ks := sideC.stay Ks hbg
          replace Kb := Kb.stay hbg
          replace Kx := secretsC.stay Kx hbg
          replace BB := Below.step BB hbg
          clear hbg hbx sg kd hd1 hd2
          replace hne := HW.some wg11
          refine wpM_more [10] 1 0 rfl (by kernel_rfl) (by kernel_rfl) (by kernel_rfl) (by kernel_rfl) ?_
          simp only [opsAt, List.getElem?_toArray, List.getElem?_cons_zero, List.getElem?_cons_succ]
          go_simp
          repeat (go_big_quiet_step (fail))
          refine wpQuiet_nil ?_
          refine wpM_end (by kernel_rfl) rfl (by kernel_rfl) (by decide) ?_
          rintro _ ⟨sz, rfl⟩
          simp only [List.drop_succ_cons, List.drop_zero]
          go_simp
          replace Kl := Kl.stay sz.h
          replace Rm := Rm.keep sz.h
          replace Ks := sideC.stay Ks sz.h
          replace Kb := Kb.stay sz.h
          replace Kx := secretsC.stay Kx sz.h
          replace Kd := Kd.stay sz.h
          replace BB := Below.step BB sz.h
          clear hne
          generalize sz.w = W at *
          clear sz
          revert Dxd
          revert Dbd
          revert Dsd
          revert Kd
          revert Kl
          revert D3
          revert D2
          revert D1
          revert Kx
          revert Kb
          revert Ks
          revert Rm
          revert BB
          revert qdv
          revert pdv
          revert cd
          revert gd
          revert gs
          revert z4
          revert y4
          revert z3
          revert y3
          revert z2
          revert y2
          revert z1
          revert y1
          revert qb
          revert pb
          revert qv
          revert pv
          revert qu
          revert pu
          revert fx
          revert fs
          revert qm
          revert pm
          revert W
          exact JN.out
        intro W pm qm fs fx pu qu pv qv pb qb y1 z1 y2 z2 y3 z3 y4 z4 gs gd cd pdv qdv BB Rm Ks Kb Kx D1 D2 D3 Kl Kd Dsd Dbd Dxd
        have KM := HOP.out.stay BB
        have KR : endResultC.own W (w.heap.size + 2) (0, doneE s 1 (masterN S) [a, b, c, ((20 : Int), Fb)], [((20 : Int), Fb)]) _ _ := endR_of (r := (0, doneE s 1 (masterN S) [a, b, c, ((20 : Int), Fb)], [((20 : Int), Fb)])) (end_of (e := doneE s 1 (masterN S) [a, b, c, ((20 : Int), Fb)]) (sideC.low Ks HVR.out) (⟨_, _, _, rfl, KM, rfl⟩ : msgsC.own W (w.heap.size + 2) [a, b, c, ((20 : Int), Fb)] [.slice (some ⟨g8, 0, none⟩) 4 c8] _) (byt_own (Kb.lower HVR.out)) (secretsC.low Kx HVR.out) (fun k h h2 => by
          have h4 := (sideC.ins Ks k h).1
          have h5 := (HOP.out.ins k h2).2
          omega) D1 D2 (fun k h h2 => by
          have h4 := Kb.ge k (mem_opt.1 h2)
          have h5 := (HOP.out.ins k h).2
          omega) (fun k h h2 => by
          have h4 := (secretsC.ins Kx k h2).1
          have h5 := (HOP.out.ins k h).2
          omega) D3) (⟨_, _, _, rfl, Kd.low HVR.out, rfl⟩ : msgsC.own W (w.heap.size + 2) [((20 : Int), Fb)] [.slice (some ⟨gd, 0, none⟩) 1 cd] _) (fun k h h2 => by
          simp only [List.nil_append] at h
          have hz : V.heap.size ≤ k := (Kd.ins k h2).1
          rcases List.mem_append.1 h with h3 | h3
          ·exact Dsd k h3 h2
          ·rcases List.mem_append.1 h3 with h4 | h4
           ·have h7 := (HOP.out.ins k h4).2
            omega
           ·rcases List.mem_append.1 h4 with h5 | h5
            ·exact Dbd k h5 h2
            ·exact Dxd k h5 h2)
        replace R := R.stay BB
        replace BW := Below.step BW BB
        have t0 := (R.cell 0).trans (show _ = some _ from rfl)
        have t1 := (R.cell 1).trans (show _ = some _ from rfl)
        have t2 := (R.cell 2).trans (show _ = some _ from rfl)
        have t3 := (R.cell 3).trans (show _ = some _ from rfl)
        have t4 := (R.cell 4).trans (show _ = some _ from rfl)
        have t5 := (R.cell 5).trans (show _ = some _ from rfl)
        have t6 := (R.cell 6).trans (show _ = some _ from rfl)
        have t7 := (R.cell 7).trans (show _ = some _ from rfl)
        have t8 := (R.cell 8).trans (show _ = some _ from rfl)
        have t9 := (R.cell 9).trans (show _ = some _ from rfl)
        have t10 := (R.cell 10).trans (show _ = some _ from rfl)
        have t11 := (R.cell 11).trans (show _ = some _ from rfl)
        have t12 := (R.cell 12).trans (show _ = some _ from rfl)
        have t13 := (R.cell 13).trans (show _ = some _ from rfl)
        have ft := R.frozen
        clear R BB c0 c1 c2 c3 c4 c5 KM Ks Kb Kx Kd Kl Rm D1 D2 D3 Dsd Dbd Dxd RAL RS
        go_wp2_with fail
        exact bodyPost_ret (v := .agg #[.int .i64 0, .int .i64 s.1, .slice pu s.2.1.length qu, .int .i64 s.2.2.1, .slice pv s.2.2.2.length qv, .int .i64 3, .int .i64 1, .slice (some ⟨g8, 0, none⟩) 4 c8, .slice pb (masterN S).length qb, .slice y1 (secsN (masterN S) (digM ([a, b, c, ((20 : Int), Fb)].take 3))).1.length z1, .slice y2 (secsN (masterN S) (digM ([a, b, c, ((20 : Int), Fb)].take 3))).2.1.length z2, .slice y3 (secsN (masterN S) (digM ([a, b, c, ((20 : Int), Fb)].take 3))).2.2.1.length z3, .slice y4 (secsN (masterN S) (digM ([a, b, c, ((20 : Int), Fb)].take 3))).2.2.2.length z4, .slice (some ⟨gd, 0, none⟩) 1 cd]) (by simp [results, Tryz.results8, go_sem, t0, t1, t2, t3, t4, t5, t6, t7, t8, t9, t10, t11, t12, t13]) rfl (HQ.out _ _ ⟨[_, _, _, _, _, _, _, _, _, _, _, _, _, _], _, rfl, endResultC.low (endResultC.set (endResultC.set (endResultC.set (endResultC.set (endResultC.set (endResultC.set (endResultC.set (endResultC.set (endResultC.set (endResultC.set (endResultC.set (endResultC.set (endResultC.set (endResultC.set KR (show w.heap.size + 1 < w.heap.size + 2 by omega) _) (show w.heap.size + 1 < w.heap.size + 2 by omega) _) (show w.heap.size + 1 < w.heap.size + 2 by omega) _) (show w.heap.size + 1 < w.heap.size + 2 by omega) _) (show w.heap.size + 1 < w.heap.size + 2 by omega) _) (show w.heap.size + 1 < w.heap.size + 2 by omega) _) (show w.heap.size + 1 < w.heap.size + 2 by omega) _) (show w.heap.size + 1 < w.heap.size + 2 by omega) _) (show w.heap.size + 1 < w.heap.size + 2 by omega) _) (show w.heap.size + 1 < w.heap.size + 2 by omega) _) (show w.heap.size + 1 < w.heap.size + 2 by omega) _) (show w.heap.size + 1 < w.heap.size + 2 by omega) _) (show w.heap.size + 1 < w.heap.size + 2 by omega) _) (show w.heap.size + 1 < w.heap.size + 2 by omega) _) (by omega), ((((((((((((((BW.setCell (show w.heap.size ≤ w.heap.size + 1 by omega) _).setCell (show w.heap.size ≤ w.heap.size + 1 by omega) _).setCell (show w.heap.size ≤ w.heap.size + 1 by omega) _).setCell (show w.heap.size ≤ w.heap.size + 1 by omega) _).setCell (show w.heap.size ≤ w.heap.size + 1 by omega) _).setCell (show w.heap.size ≤ w.heap.size + 1 by omega) _).setCell (show w.heap.size ≤ w.heap.size + 1 by omega) _).setCell (show w.heap.size ≤ w.heap.size + 1 by omega) _).setCell (show w.heap.size ≤ w.heap.size + 1 by omega) _).setCell (show w.heap.size ≤ w.heap.size + 1 by omega) _).setCell (show w.heap.size ≤ w.heap.size + 1 by omega) _).setCell (show w.heap.size ≤ w.heap.size + 1 by omega) _).setCell (show w.heap.size ≤ w.heap.size + 1 by omega) _).setCell (show w.heap.size ≤ w.heap.size + 1 by omega) _)⟩)
       ·have hd : (cfC K [a, b] c != 0) = true := by rw [bne_iff_ne]; exact hc
        rw [hvE_go (a := a) he rfl rfl, hvE2_bad (by rw [HC2.out]; exact hc), HC2.out] at HQ
        clear hc HC2
        generalize cfC K [a, b] c = cc at *
        go_wp2_with fail
        refine (l11Bad_c cc _).mono ?_
        rintro e wb ⟨rfl, hbb⟩
        replace R := R.stay hbb
        replace BW := Below.step BW hbb
        have t0 := (R.cell 0).trans (show _ = some _ from rfl)
        have t1 := (R.cell 1).trans (show _ = some _ from rfl)
        have t2 := (R.cell 2).trans (show _ = some _ from rfl)
        have t3 := (R.cell 3).trans (show _ = some _ from rfl)
        have t4 := (R.cell 4).trans (show _ = some _ from rfl)
        have t5 := (R.cell 5).trans (show _ = some _ from rfl)
        have t6 := (R.cell 6).trans (show _ = some _ from rfl)
        have t7 := (R.cell 7).trans (show _ = some _ from rfl)
        have t8 := (R.cell 8).trans (show _ = some _ from rfl)
        have t9 := (R.cell 9).trans (show _ = some _ from rfl)
        have t10 := (R.cell 10).trans (show _ = some _ from rfl)
        have t11 := (R.cell 11).trans (show _ = some _ from rfl)
        have t12 := (R.cell 12).trans (show _ = some _ from rfl)
        have t13 := (R.cell 13).trans (show _ = some _ from rfl)
        have ft := R.frozen
        clear R hbb
        go_wp2_with fail
        exact bodyPost_ret (v := .agg #[.int .i64 cc, .int .i64 0, .slice none 0 0, .int .i64 0, .slice none 0 0, .int .i64 0, .int .i64 0, .slice none 0 0, .slice none 0 0, .slice none 0 0, .slice none 0 0, .slice none 0 0, .slice none 0 0, .slice none 0 0]) (by simp [results, Tryz.results8, go_sem, t0, t1, t2, t3, t4, t5, t6, t7, t8, t9, t10, t11, t12, t13]) rfl (HQ.out _ _ ⟨[_, _, _, _, _, _, _, _, _, _, _, _, _, _], _, rfl, badE_own _ _ _, ((((((((((((((BW.setCell (show w.heap.size ≤ w.heap.size + 1 by omega) _).setCell (show w.heap.size ≤ w.heap.size + 1 by omega) _).setCell (show w.heap.size ≤ w.heap.size + 1 by omega) _).setCell (show w.heap.size ≤ w.heap.size + 1 by omega) _).setCell (show w.heap.size ≤ w.heap.size + 1 by omega) _).setCell (show w.heap.size ≤ w.heap.size + 1 by omega) _).setCell (show w.heap.size ≤ w.heap.size + 1 by omega) _).setCell (show w.heap.size ≤ w.heap.size + 1 by omega) _).setCell (show w.heap.size ≤ w.heap.size + 1 by omega) _).setCell (show w.heap.size ≤ w.heap.size + 1 by omega) _).setCell (show w.heap.size ≤ w.heap.size + 1 by omega) _).setCell (show w.heap.size ≤ w.heap.size + 1 by omega) _).setCell (show w.heap.size ≤ w.heap.size + 1 by omega) _).setCell (show w.heap.size ≤ w.heap.size + 1 by omega) _)⟩)
      ·exact absurd (by rw [HH.out]; exact HSEL.out) hz
     ·have hd : (uhC 2 b != 0) = true := by rw [bne_iff_ne]; exact hu
      have e1 : hvC2 s a b c = uhC 2 b := by rw [hvC2, if_neg hu]
      rw [hvE_go (a := a) he rfl rfl, hvE2_bad (by rw [e1]; exact hu), e1] at HQ
      clear hu HH UC e1
      generalize uhC 2 b = cc at *
      have x0 := (X.cell 0).trans (show _ = some _ from rfl)
      go_wp2_with fail
      refine (l11Bad_c cc _).mono ?_
      rintro e wb ⟨rfl, hbb⟩
      replace R := R.stay hbb
      replace BW := Below.step BW hbb
      have t0 := (R.cell 0).trans (show _ = some _ from rfl)
      have t1 := (R.cell 1).trans (show _ = some _ from rfl)
      have t2 := (R.cell 2).trans (show _ = some _ from rfl)
      have t3 := (R.cell 3).trans (show _ = some _ from rfl)
      have t4 := (R.cell 4).trans (show _ = some _ from rfl)
      have t5 := (R.cell 5).trans (show _ = some _ from rfl)
      have t6 := (R.cell 6).trans (show _ = some _ from rfl)
      have t7 := (R.cell 7).trans (show _ = some _ from rfl)
      have t8 := (R.cell 8).trans (show _ = some _ from rfl)
      have t9 := (R.cell 9).trans (show _ = some _ from rfl)
      have t10 := (R.cell 10).trans (show _ = some _ from rfl)
      have t11 := (R.cell 11).trans (show _ = some _ from rfl)
      have t12 := (R.cell 12).trans (show _ = some _ from rfl)
      have t13 := (R.cell 13).trans (show _ = some _ from rfl)
      have ft := R.frozen
      clear R hbb
      go_wp2_with fail
      exact bodyPost_ret (v := .agg #[.int .i64 cc, .int .i64 0, .slice none 0 0, .int .i64 0, .slice none 0 0, .int .i64 0, .int .i64 0, .slice none 0 0, .slice none 0 0, .slice none 0 0, .slice none 0 0, .slice none 0 0, .slice none 0 0, .slice none 0 0]) (by simp [results, Tryz.results8, go_sem, t0, t1, t2, t3, t4, t5, t6, t7, t8, t9, t10, t11, t12, t13]) rfl (HQ.out _ _ ⟨[_, _, _, _, _, _, _, _, _, _, _, _, _, _], _, rfl, badE_own _ _ _, ((((((((((((((BW.setCell (show w.heap.size ≤ w.heap.size + 1 by omega) _).setCell (show w.heap.size ≤ w.heap.size + 1 by omega) _).setCell (show w.heap.size ≤ w.heap.size + 1 by omega) _).setCell (show w.heap.size ≤ w.heap.size + 1 by omega) _).setCell (show w.heap.size ≤ w.heap.size + 1 by omega) _).setCell (show w.heap.size ≤ w.heap.size + 1 by omega) _).setCell (show w.heap.size ≤ w.heap.size + 1 by omega) _).setCell (show w.heap.size ≤ w.heap.size + 1 by omega) _).setCell (show w.heap.size ≤ w.heap.size + 1 by omega) _).setCell (show w.heap.size ≤ w.heap.size + 1 by omega) _).setCell (show w.heap.size ≤ w.heap.size + 1 by omega) _).setCell (show w.heap.size ≤ w.heap.size + 1 by omega) _).setCell (show w.heap.size ≤ w.heap.size + 1 by omega) _).setCell (show w.heap.size ≤ w.heap.size + 1 by omega) _)⟩)
    ·have dm : ((ms.length : Int) != 2) = true := by rw [bne_iff_ne]; omega
     rw [hvE_form he hst hl3 hm2] at HQ
     clear hst hl3 hm2 he
     go_enter Tryz.func8, Tryz.ntmps8
     go_wp2_with fail
     refine (KE.out _ rfl).mono ?_
     rintro e w1 ⟨rfl, hw⟩
     subst hw
     clear KE
     go_wp2_with fail
     refine (l11Bad_c 1 _).mono ?_
     rintro e wb ⟨rfl, hbb⟩
     replace R := R.stay hbb
     replace BW := Below.step BW hbb
     have t0 := (R.cell 0).trans (show _ = some _ from rfl)
     have t1 := (R.cell 1).trans (show _ = some _ from rfl)
     have t2 := (R.cell 2).trans (show _ = some _ from rfl)
     have t3 := (R.cell 3).trans (show _ = some _ from rfl)
     have t4 := (R.cell 4).trans (show _ = some _ from rfl)
     have t5 := (R.cell 5).trans (show _ = some _ from rfl)
     have t6 := (R.cell 6).trans (show _ = some _ from rfl)
     have t7 := (R.cell 7).trans (show _ = some _ from rfl)
     have t8 := (R.cell 8).trans (show _ = some _ from rfl)
     have t9 := (R.cell 9).trans (show _ = some _ from rfl)
     have t10 := (R.cell 10).trans (show _ = some _ from rfl)
     have t11 := (R.cell 11).trans (show _ = some _ from rfl)
     have t12 := (R.cell 12).trans (show _ = some _ from rfl)
     have t13 := (R.cell 13).trans (show _ = some _ from rfl)
     have ft := R.frozen
     clear R hbb
     go_wp2_with fail
     exact bodyPost_ret (v := .agg #[.int .i64 1, .int .i64 0, .slice none 0 0, .int .i64 0, .slice none 0 0, .int .i64 0, .int .i64 0, .slice none 0 0, .slice none 0 0, .slice none 0 0, .slice none 0 0, .slice none 0 0, .slice none 0 0, .slice none 0 0]) (by simp [results, Tryz.results8, go_sem, t0, t1, t2, t3, t4, t5, t6, t7, t8, t9, t10, t11, t12, t13]) rfl (HQ.out _ _ ⟨[_, _, _, _, _, _, _, _, _, _, _, _, _, _], _, rfl, badE_own _ _ _, ((((((((((((((BW.setCell (show w.heap.size ≤ w.heap.size + 1 by omega) _).setCell (show w.heap.size ≤ w.heap.size + 1 by omega) _).setCell (show w.heap.size ≤ w.heap.size + 1 by omega) _).setCell (show w.heap.size ≤ w.heap.size + 1 by omega) _).setCell (show w.heap.size ≤ w.heap.size + 1 by omega) _).setCell (show w.heap.size ≤ w.heap.size + 1 by omega) _).setCell (show w.heap.size ≤ w.heap.size + 1 by omega) _).setCell (show w.heap.size ≤ w.heap.size + 1 by omega) _).setCell (show w.heap.size ≤ w.heap.size + 1 by omega) _).setCell (show w.heap.size ≤ w.heap.size + 1 by omega) _).setCell (show w.heap.size ≤ w.heap.size + 1 by omega) _).setCell (show w.heap.size ≤ w.heap.size + 1 by omega) _).setCell (show w.heap.size ≤ w.heap.size + 1 by omega) _).setCell (show w.heap.size ≤ w.heap.size + 1 by omega) _)⟩)
   ·have dl : ((l.length : Int) != 1) = true := by rw [bne_iff_ne]; omega
    rw [hvE_state he (fun h => hl3 h.2)] at HQ
    clear hst hl3 he
    go_enter Tryz.func8, Tryz.ntmps8
    go_wp2_with fail
    refine (KE.out _ rfl).mono ?_
    rintro e w1 ⟨rfl, hw⟩
    subst hw
    clear KE
    go_wp2_with fail
    refine (l11Bad_c 8 _).mono ?_
    rintro e wb ⟨rfl, hbb⟩
    replace R := R.stay hbb
    replace BW := Below.step BW hbb
    have t0 := (R.cell 0).trans (show _ = some _ from rfl)
    have t1 := (R.cell 1).trans (show _ = some _ from rfl)
    have t2 := (R.cell 2).trans (show _ = some _ from rfl)
    have t3 := (R.cell 3).trans (show _ = some _ from rfl)
    have t4 := (R.cell 4).trans (show _ = some _ from rfl)
    have t5 := (R.cell 5).trans (show _ = some _ from rfl)
    have t6 := (R.cell 6).trans (show _ = some _ from rfl)
    have t7 := (R.cell 7).trans (show _ = some _ from rfl)
    have t8 := (R.cell 8).trans (show _ = some _ from rfl)
    have t9 := (R.cell 9).trans (show _ = some _ from rfl)
    have t10 := (R.cell 10).trans (show _ = some _ from rfl)
    have t11 := (R.cell 11).trans (show _ = some _ from rfl)
    have t12 := (R.cell 12).trans (show _ = some _ from rfl)
    have t13 := (R.cell 13).trans (show _ = some _ from rfl)
    have ft := R.frozen
    clear R hbb
    go_wp2_with fail
    exact bodyPost_ret (v := .agg #[.int .i64 8, .int .i64 0, .slice none 0 0, .int .i64 0, .slice none 0 0, .int .i64 0, .int .i64 0, .slice none 0 0, .slice none 0 0, .slice none 0 0, .slice none 0 0, .slice none 0 0, .slice none 0 0, .slice none 0 0]) (by simp [results, Tryz.results8, go_sem, t0, t1, t2, t3, t4, t5, t6, t7, t8, t9, t10, t11, t12, t13]) rfl (HQ.out _ _ ⟨[_, _, _, _, _, _, _, _, _, _, _, _, _, _], _, rfl, badE_own _ _ _, ((((((((((((((BW.setCell (show w.heap.size ≤ w.heap.size + 1 by omega) _).setCell (show w.heap.size ≤ w.heap.size + 1 by omega) _).setCell (show w.heap.size ≤ w.heap.size + 1 by omega) _).setCell (show w.heap.size ≤ w.heap.size + 1 by omega) _).setCell (show w.heap.size ≤ w.heap.size + 1 by omega) _).setCell (show w.heap.size ≤ w.heap.size + 1 by omega) _).setCell (show w.heap.size ≤ w.heap.size + 1 by omega) _).setCell (show w.heap.size ≤ w.heap.size + 1 by omega) _).setCell (show w.heap.size ≤ w.heap.size + 1 by omega) _).setCell (show w.heap.size ≤ w.heap.size + 1 by omega) _).setCell (show w.heap.size ≤ w.heap.size + 1 by omega) _).setCell (show w.heap.size ≤ w.heap.size + 1 by omega) _).setCell (show w.heap.size ≤ w.heap.size + 1 by omega) _).setCell (show w.heap.size ≤ w.heap.size + 1 by omega) _)⟩)
  ·have ds : (st != 1) = true := by rw [bne_iff_ne]; exact hst
   rw [hvE_state he (fun h => hst h.1)] at HQ
   clear hst he
   go_enter Tryz.func8, Tryz.ntmps8
   go_wp2_with fail
   refine (KE.out _ rfl).mono ?_
   rintro e w1 ⟨rfl, hw⟩
   subst hw
   clear KE
   go_wp2_with fail
   refine (l11Bad_c 8 _).mono ?_
   rintro e wb ⟨rfl, hbb⟩
   replace R := R.stay hbb
   replace BW := Below.step BW hbb
   have t0 := (R.cell 0).trans (show _ = some _ from rfl)
   have t1 := (R.cell 1).trans (show _ = some _ from rfl)
   have t2 := (R.cell 2).trans (show _ = some _ from rfl)
   have t3 := (R.cell 3).trans (show _ = some _ from rfl)
   have t4 := (R.cell 4).trans (show _ = some _ from rfl)
   have t5 := (R.cell 5).trans (show _ = some _ from rfl)
   have t6 := (R.cell 6).trans (show _ = some _ from rfl)
   have t7 := (R.cell 7).trans (show _ = some _ from rfl)
   have t8 := (R.cell 8).trans (show _ = some _ from rfl)
   have t9 := (R.cell 9).trans (show _ = some _ from rfl)
   have t10 := (R.cell 10).trans (show _ = some _ from rfl)
   have t11 := (R.cell 11).trans (show _ = some _ from rfl)
   have t12 := (R.cell 12).trans (show _ = some _ from rfl)
   have t13 := (R.cell 13).trans (show _ = some _ from rfl)
   have ft := R.frozen
   clear R hbb
   go_wp2_with fail
   exact bodyPost_ret (v := .agg #[.int .i64 8, .int .i64 0, .slice none 0 0, .int .i64 0, .slice none 0 0, .int .i64 0, .int .i64 0, .slice none 0 0, .slice none 0 0, .slice none 0 0, .slice none 0 0, .slice none 0 0, .slice none 0 0, .slice none 0 0]) (by simp [results, Tryz.results8, go_sem, t0, t1, t2, t3, t4, t5, t6, t7, t8, t9, t10, t11, t12, t13]) rfl (HQ.out _ _ ⟨[_, _, _, _, _, _, _, _, _, _, _, _, _, _], _, rfl, badE_own _ _ _, ((((((((((((((BW.setCell (show w.heap.size ≤ w.heap.size + 1 by omega) _).setCell (show w.heap.size ≤ w.heap.size + 1 by omega) _).setCell (show w.heap.size ≤ w.heap.size + 1 by omega) _).setCell (show w.heap.size ≤ w.heap.size + 1 by omega) _).setCell (show w.heap.size ≤ w.heap.size + 1 by omega) _).setCell (show w.heap.size ≤ w.heap.size + 1 by omega) _).setCell (show w.heap.size ≤ w.heap.size + 1 by omega) _).setCell (show w.heap.size ≤ w.heap.size + 1 by omega) _).setCell (show w.heap.size ≤ w.heap.size + 1 by omega) _).setCell (show w.heap.size ≤ w.heap.size + 1 by omega) _).setCell (show w.heap.size ≤ w.heap.size + 1 by omega) _).setCell (show w.heap.size ≤ w.heap.size + 1 by omega) _).setCell (show w.heap.size ≤ w.heap.size + 1 by omega) _).setCell (show w.heap.size ≤ w.heap.size + 1 by omega) _)⟩)
 ·have hd : (efC (s, st, mo, l, base, x) != 0) = true := by rw [bne_iff_ne]; exact he
  rw [hvE_bad he] at HQ
  clear he
  generalize efC (s, st, mo, l, base, x) = cc at *
  go_enter Tryz.func8, Tryz.ntmps8
  go_wp2_with fail
  refine (KE.out _ rfl).mono ?_
  rintro e w1 ⟨rfl, hw⟩
  subst hw
  clear KE
  go_wp2_with fail
  refine (l11Bad_c cc _).mono ?_
  rintro e wb ⟨rfl, hbb⟩
  replace R := R.stay hbb
  replace BW := Below.step BW hbb
  have t0 := (R.cell 0).trans (show _ = some _ from rfl)
  have t1 := (R.cell 1).trans (show _ = some _ from rfl)
  have t2 := (R.cell 2).trans (show _ = some _ from rfl)
  have t3 := (R.cell 3).trans (show _ = some _ from rfl)
  have t4 := (R.cell 4).trans (show _ = some _ from rfl)
  have t5 := (R.cell 5).trans (show _ = some _ from rfl)
  have t6 := (R.cell 6).trans (show _ = some _ from rfl)
  have t7 := (R.cell 7).trans (show _ = some _ from rfl)
  have t8 := (R.cell 8).trans (show _ = some _ from rfl)
  have t9 := (R.cell 9).trans (show _ = some _ from rfl)
  have t10 := (R.cell 10).trans (show _ = some _ from rfl)
  have t11 := (R.cell 11).trans (show _ = some _ from rfl)
  have t12 := (R.cell 12).trans (show _ = some _ from rfl)
  have t13 := (R.cell 13).trans (show _ = some _ from rfl)
  have ft := R.frozen
  clear R hbb
  go_wp2_with fail
  exact bodyPost_ret (v := .agg #[.int .i64 cc, .int .i64 0, .slice none 0 0, .int .i64 0, .slice none 0 0, .int .i64 0, .int .i64 0, .slice none 0 0, .slice none 0 0, .slice none 0 0, .slice none 0 0, .slice none 0 0, .slice none 0 0, .slice none 0 0]) (by simp [results, Tryz.results8, go_sem, t0, t1, t2, t3, t4, t5, t6, t7, t8, t9, t10, t11, t12, t13]) rfl (HQ.out _ _ ⟨[_, _, _, _, _, _, _, _, _, _, _, _, _, _], _, rfl, badE_own _ _ _, ((((((((((((((BW.setCell (show w.heap.size ≤ w.heap.size + 1 by omega) _).setCell (show w.heap.size ≤ w.heap.size + 1 by omega) _).setCell (show w.heap.size ≤ w.heap.size + 1 by omega) _).setCell (show w.heap.size ≤ w.heap.size + 1 by omega) _).setCell (show w.heap.size ≤ w.heap.size + 1 by omega) _).setCell (show w.heap.size ≤ w.heap.size + 1 by omega) _).setCell (show w.heap.size ≤ w.heap.size + 1 by omega) _).setCell (show w.heap.size ≤ w.heap.size + 1 by omega) _).setCell (show w.heap.size ≤ w.heap.size + 1 by omega) _).setCell (show w.heap.size ≤ w.heap.size + 1 by omega) _).setCell (show w.heap.size ≤ w.heap.size + 1 by omega) _).setCell (show w.heap.size ≤ w.heap.size + 1 by omega) _).setCell (show w.heap.size ≤ w.heap.size + 1 by omega) _).setCell (show w.heap.size ≤ w.heap.size + 1 by omega) _)⟩)
set_option maxRecDepth 4000 in
set_option maxHeartbeats 20000000 in
theorem specHv_m2 (s : SideD) (st mo : Int) (l : List MsgD) (base : List UInt8) (x : SecretsD) (ms : List MsgD) (p p2 p3 p4 p5 p6 p7 p8 p9 : Option Addr) (q q2 q3 q4 q5 q6 q7 q8 q9 : Nat) (w : World) (hsel : ¬ (uhD 2 (headM ms)).2.2.2 = 0) (h1 : Rd w p q s.2.1) (h2 : Rd w p2 q2 s.2.2.2) (h3 : RdL msgC w p3 q3 l) (h9 : RdL msgC w p9 q9 ms) :
  Calls Tryz.prog 8 #[.agg #[.int .i64 s.1, .slice p s.2.1.length q, .int .i64 s.2.2.1, .slice p2 s.2.2.2.length q2, .int .i64 st, .int .i64 mo, .slice p3 l.length q3, .slice p4 base.length q4, .slice p5 x.1.length q5, .slice p6 x.2.1.length q6, .slice p7 x.2.2.1.length q7, .slice p8 x.2.2.2.length q8], .slice p9 ms.length q9] w fun e w' => ∃ us fp, e = .returned (.agg us.toArray) ∧ endResultC.own w' w.heap.size (hvE (s, st, mo, l, base, x) ms) us fp ∧ Below w.heap.size w w' := by
 suffices H : ∀ Q : Ending → World → Prop, Hid (∀ e w', (∃ us fp, e = .returned (.agg us.toArray) ∧ endResultC.own w' w.heap.size (hvE (s, st, mo, l, base, x) ms) us fp ∧ Below w.heap.size w w') → Q e w') → Calls Tryz.prog 8 #[.agg #[.int .i64 s.1, .slice p s.2.1.length q, .int .i64 s.2.2.1, .slice p2 s.2.2.2.length q2, .int .i64 st, .int .i64 mo, .slice p3 l.length q3, .slice p4 base.length q4, .slice p5 x.1.length q5, .slice p6 x.2.1.length q6, .slice p7 x.2.2.1.length q7, .slice p8 x.2.2.2.length q8], .slice p9 ms.length q9] w Q from H _ (show Hid _ from fun _ _ h => h)
 intro Q HQ
 have HR1 : Hid (Rd w p q s.2.1) := h1
 have HR2 : Hid (Rd w p2 q2 s.2.2.2) := h2
 have HRL : Hid (RdL msgC w p3 q3 l) := h3
 have HRM : Hid (RdL msgC w p9 q9 ms) := h9
 have BW := Below.mk (alloc_below w (.cells #[.int .i64 s.1, .slice p s.2.1.length q, .int .i64 s.2.2.1, .slice p2 s.2.2.2.length q2, .int .i64 st, .int .i64 mo, .slice p3 l.length q3, .slice p4 base.length q4, .slice p5 x.1.length q5, .slice p6 x.2.1.length q6, .slice p7 x.2.2.1.length q7, .slice p8 x.2.2.2.length q8] 36)) (.cells #[.int .i64 0, .int .i64 0, .slice none 0 0, .int .i64 0, .slice none 0 0, .int .i64 0, .int .i64 0, .slice none 0 0, .slice none 0 0, .slice none 0 0, .slice none 0 0, .slice none 0 0, .slice none 0 0, .slice none 0 0] 38)
 have A := (Arr.new w [.int .i64 s.1, .slice p s.2.1.length q, .int .i64 s.2.2.1, .slice p2 s.2.2.2.length q2, .int .i64 st, .int .i64 mo, .slice p3 l.length q3, .slice p4 base.length q4, .slice p5 x.1.length q5, .slice p6 x.2.1.length q6, .slice p7 x.2.2.1.length q7, .slice p8 x.2.2.2.length q8] 36).old _ (.cells #[.int .i64 0, .int .i64 0, .slice none 0 0, .int .i64 0, .slice none 0 0, .int .i64 0, .int .i64 0, .slice none 0 0, .slice none 0 0, .slice none 0 0, .slice none 0 0, .slice none 0 0, .slice none 0 0, .slice none 0 0] 38)
 have R := Arr.new (w.alloc (.cells #[.int .i64 s.1, .slice p s.2.1.length q, .int .i64 s.2.2.1, .slice p2 s.2.2.2.length q2, .int .i64 st, .int .i64 mo, .slice p3 l.length q3, .slice p4 base.length q4, .slice p5 x.1.length q5, .slice p6 x.2.1.length q6, .slice p7 x.2.2.1.length q7, .slice p8 x.2.2.2.length q8] 36)) [.int .i64 0, .int .i64 0, .slice none 0 0, .int .i64 0, .slice none 0 0, .int .i64 0, .int .i64 0, .slice none 0 0, .slice none 0 0, .slice none 0 0, .slice none 0 0, .slice none 0 0, .slice none 0 0, .slice none 0 0] 38
 rw [size_alloc] at R
 have KE : Hid (∀ W, W = (w.alloc (.cells #[.int .i64 s.1, .slice p s.2.1.length q, .int .i64 s.2.2.1, .slice p2 s.2.2.2.length q2, .int .i64 st, .int .i64 mo, .slice p3 l.length q3, .slice p4 base.length q4, .slice p5 x.1.length q5, .slice p6 x.2.1.length q6, .slice p7 x.2.2.1.length q7, .slice p8 x.2.2.2.length q8] 36)).alloc (.cells #[.int .i64 0, .int .i64 0, .slice none 0 0, .int .i64 0, .slice none 0 0, .int .i64 0, .int .i64 0, .slice none 0 0, .slice none 0 0, .slice none 0 0, .slice none 0 0, .slice none 0 0, .slice none 0 0, .slice none 0 0] 38) → Calls Tryz.prog 36 #[.pointer (some ⟨w.heap.size, 0, none⟩)] W fun e w' => e = .returned (.int .i64 (efC (s, st, mo, l, base, x))) ∧ w' = W) := fun W hW => by
  subst hW
  exact l11Fault_c w.heap.size (s, st, mo, l, base, x) p p2 p3 p4 p5 p6 p7 p8 q q2 q3 q4 q5 q6 q7 q8 _ (fun i v hv => (A.cell i).trans hv) (HRL.out.keep BW)
 have hqm1 : ms.length ≤ q9 := h9.1
 have hqm2 : q9 ≤ 2 ^ 63 - 1 := h9.2.1
 clear h1 h2 h3 h9
 by_cases he : efC (s, st, mo, l, base, x) = 0
 ·rw [he] at KE
  have a4 := (A.cell 4).trans (show _ = some _ from rfl)
  have a6 := (A.cell 6).trans (show _ = some _ from rfl)
  by_cases hst : st = 1
  ·have ds : (st != 1) = false := by rw [bne_eq_false_iff_eq]; exact hst
   by_cases hl3 : l.length = 1
   ·have dl : ((l.length : Int) != 1) = false := by rw [bne_eq_false_iff_eq]; omega
    by_cases hm2 : ms.length = 2
    ·subst hst
     obtain ⟨a, rfl⟩ := List.length_eq_one_iff.1 hl3
     obtain ⟨b, c, rfl⟩ := two_of hm2
     rw [show [a].length = 1 from rfl] at A R BW KE a4 a6 ⊢
     rw [show [b, c].length = 2 from rfl] at hqm1 ⊢
     obtain ⟨lb, lo, e9, hc9⟩ := HRM.out.2.2.2 (by simp)
     subst e9
     obtain ⟨us0, hrep0, hcell0⟩ := hc9 0 b rfl
     obtain ⟨pb0, qb0, rfl, rb0⟩ := msg_rep hrep0
     obtain ⟨us1, hrep1, hcell1⟩ := hc9 1 c rfl
     obtain ⟨pcl, qcl, rfl, rc0⟩ := msg_rep hrep1
     have l0 := cell_keep (hcell0 0 _ rfl) BW
     have l1 := cell_keep (hcell0 1 _ rfl) BW
     have l2 := hcell1 0 _ rfl
     have l3 := hcell1 1 _ rfl
     rw [show msgC.n = 2 from rfl] at l2 l3
     simp only [Nat.zero_mul, Nat.one_mul, Nat.add_zero] at l0 l1 l2 l3
     have HRb : Hid (Rd w pb0 qb0 b.2) := rb0
     have HRc : Hid (Rd w pcl qcl c.2) := rc0
     have HL2 : Hid (w.cell? ⟨lb, lo + 2, none⟩ = some (.int .i64 c.1)) := l2
     have HL3 : Hid (w.cell? ⟨lb, lo + 2 + 1, none⟩ = some (.slice pcl c.2.length qcl)) := l3
     have HRB : Hid (RdL msgC w (some ⟨lb, lo, none⟩) q9 [b]) := HRM.out.take 1
     have hq31 : 1 ≤ q3 := HRL.out.1
     have hq32 : q3 ≤ 2 ^ 63 - 1 := HRL.out.2.1
     have HSEL : Hid (¬ (uhD 2 b).2.2.2 = 0) := hsel
     have e4 := a4
     have e6 := a6
     clear hsel hl3 hm2 dl ds hc9 hcell0 hrep0 hcell1 hrep1 rb0 rc0 a4 a6 l2 l3
     go_enter Tryz.func8, Tryz.ntmps8
     go_wp2_with fail
     refine (KE.out _ rfl).mono ?_
     rintro e w1 ⟨rfl, hw⟩
     subst hw
     clear KE
     have hp := ef_parts he
     have HSF : Hid (sfC s = 0) := hp.1
     have HFA : Hid (faultW a.1 a.2.length = 0) := firstF_all hp.2.2.2.2.1 a (List.mem_singleton.2 rfl)
     have HLa : Hid (bulkM [a] ≤ 1000000) := by have h := bulk_small (l := [a]) (fun y hy => by rw [List.mem_singleton.1 hy]; exact HFA.out); simp only [List.length_singleton] at h; show _ ≤ _; omega
     clear hp
     go_wp2_with fail
     refine (specUh_k 2 b _ _ (msg_mk (HRb.out.keep BW))).mono ?_
     rintro e w1 ⟨us, fp, rfl, kh, hb1⟩
     obtain ⟨pr, qr, rfl, -⟩ := helloResult_rep (helloResultC.toRep kh)
     clear kh
     have UC : Hid ((uhD 2 b).1 = uhC 2 b) := rfl
     obtain ⟨h, HH⟩ : ∃ h, Hid (h = (uhD 2 b).2) := ⟨_, rfl⟩
     rw [UC.out, ← HH.out]
     have HRl0 : Hid (w.heap.size + 1 < w1.heap.size) := (R.stay hb1).lt
     have hl := alloc_below w1 (.cells #[.int .i64 (uhC 2 b), .slice pr h.1.length qr, .int .i64 h.2.1, .int .i64 h.2.2] 76)
     have X := Arr.new w1 [.int .i64 (uhC 2 b), .slice pr h.1.length qr, .int .i64 h.2.1, .int .i64 h.2.2] 76
     replace A := (A.stay hb1).stay hl
     replace R := (R.stay hb1).stay hl
     replace BW := Below.step (Below.step BW hb1) hl
     clear hb1 hl e4 e6 l0 l1
     by_cases hu : uhC 2 b = 0
     ·obtain ⟨-, hfb, -, y, -, huy, huc, -⟩ := uh_fault hu
      rw [← HH.out] at huy
      subst huy
      obtain ⟨-, hh1, hh2, -, -⟩ := hf_parts huc
      have HH1 : Hid (1 ≤ h.2.1) := hh1
      have HH2 : Hid (h.2.1 ≤ 65520) := hh2
      have HLb : Hid (bulkM [b] ≤ 1000000) := by have h := bulk_small (l := [b]) (fun y hy => by rw [List.mem_singleton.1 hy]; exact hfb); simp only [List.length_singleton] at h; show _ ≤ _; omega
      have HP2 : Hid ((packAll [a, b]).length ≤ 600) := by
       have h := packAll_small (l := [a, b]) (fun y hy => by
        simp only [List.mem_cons, List.not_mem_nil, or_false] at hy
        rcases hy with rfl | rfl
        ·exact HFA.out
        ·exact hfb)
       simp only [List.length_cons, List.length_nil] at h
       show _ ≤ _
       omega
      have HU : Hid (uhC 2 b = 0) := hu
      have HFB : Hid (faultW b.1 b.2.length = 0) := hfb
      rw [hu] at X A R BW ⊢
      have x0 := (X.cell 0).trans (show _ = some _ from rfl)
      have x2 := (X.cell 2).trans (show _ = some _ from rfl)
      have x3 := (X.cell 3).trans (show _ = some _ from rfl)
      have a2 := (A.cell 2).trans (show _ = some _ from rfl)
      have HCC : Hid (hvC2 s a b c = if h.2.2 = 0 ∨ h.2.2 = s.2.2.1 then cfC (hvK s a b h) [a, b] c else 8) := by show _ = _; rw [hvC2, if_pos hu, HH.out]
      clear hu huc hfb hh1 hh2
      by_cases hz : h.2.2 = 0
      ·exact absurd (by rw [← HH.out]; exact hz) HSEL.out
      ·have dz : (h.2.2 != 0) = true := by rw [bne_iff_ne]; exact hz
       by_cases hq : h.2.2 = s.2.2.1
       ·have HMO : Hid (smode h = 2) := by show _ = _; rw [smode, if_neg hz]
        have HC2 : Hid (hvC2 s a b c = cfC (hvK s a b h) [a, b] c) := by show _ = _; rw [HCC.out, if_pos (.inr hq)]
        have dq : (h.2.2 != s.2.2.1) = false := by rw [bne_eq_false_iff_eq]; exact hq
        clear hz hq HCC
        obtain ⟨S, HS⟩ : ∃ S, Hid (S = hvS s h) := ⟨_, rfl⟩
        have HSE : Hid (S = secN s h.2.1 2) := by show _ = _; rw [HS.out, hvS, HMO.out]
        have HS32 : Hid (S.length = 32) := by show _ = _; rw [HSE.out]; exact secN_len _ _ _
        have HD32 : Hid ((digM [a, b]).length = 32) := digM_len _
        obtain ⟨K, HK⟩ : ∃ K, Hid (K = trafN S sHsB (digM [a, b])) := ⟨_, rfl⟩
        have HKE : Hid (hvK s a b h = K) := by show _ = _; rw [HK.out, HS.out]; rfl
        rw [HKE.out] at HC2
        have KSec : Hid (∀ W, Below w.heap.size w W → AtS W w.heap.size 0 p q p2 q2 s → Calls Tryz.prog 39 #[.pointer (some ⟨w.heap.size, 0, none⟩), .int .i64 h.2.1, .int .i64 2] W fun e w' => ∃ u, e = .returned u ∧ Own w' W.heap.size u S ∧ Below W.heap.size W w') := fun W hW hA => by rw [HSE.out]; exact l11Secret_c w.heap.size 0 s h.2.1 2 p p2 q q2 W hA (HR2.out.keep hW) HSF.out HH1.out HH2.out
        go_wp2_with fail
        refine (KSec.out _ BW ⟨A.cell 0, A.cell 1, A.cell 2, A.cell 3⟩).mono ?_
        rintro e w2 ⟨uS, rfl, kS, hb2⟩
        obtain ⟨ps, qs, rfl, -⟩ := kS.rd
        replace A := A.stay hb2
        replace R := R.stay hb2
        replace BW := Below.step BW hb2
        have KT : Hid (∀ W pd qd, Rd W ps qs S → Rd W pd qd (digM [a, b]) → Calls Tryz.prog 42 #[.slice ps S.length qs, .string ⟨#[115, 32, 104, 115, 32, 116, 114, 97, 102, 102, 105, 99]⟩, .slice pd (digM [a, b]).length qd] W fun e w' => ∃ u, e = .returned u ∧ Own w' W.heap.size u K ∧ Below W.heap.size W w') := fun W pd qd h1 h2 => by
         have h := l7Traffic_c ps pd qs qd S sHsB (digM [a, b]) W h1 h2 (by have := HS32.out; omega) (by decide) (by have := HD32.out; omega)
         rw [← sHs_str, ← HK.out] at h
         exact h
        clear hb2 X x0 x2 x3 a2 KSec
        go_wp2_with fail
        obtain ⟨V, HV⟩ : ∃ V, Hid (V = w2) := ⟨_, rfl⟩
        rw [← HV.out] at A R BW kS ⊢
        clear HV
        have HSlt : Hid (∀ k, (Value.slice ps S.length qs).ownBlock = some k → k < V.heap.size) := fun k hk => kS.lt k hk
        have HVR : Hid (w.heap.size + 2 ≤ V.heap.size) := R.lt
        have e6 := (A.cell 6).trans (show _ = some _ from rfl)
        apply share
        case h =>
         intro JN
         have BB := Below.refl V.heap.size V
         have hne := HW.some V
         have g0 := HW.at (e6)
         refine wp_region_pick [0, 1, 3, 4] 6 2 2 rfl rfl rfl (by kernel_rfl) (by kernel_rfl) (by kernel_rfl) (by kernel_rfl) ?_
         simp only [opsAt, List.getElem?_toArray, List.getElem?_cons_zero, List.getElem?_cons_succ]
         repeat (go_big_quiet_step (fail))
         refine wpQuiet_nil ?_
         clear g0
         refine wpM_only (i := 2) (by kernel_rfl) ?_
         refine mOp_call rfl (by go_simp) 40 _ #[.slice p3 1 q3] (fun w => by go_simp) rfl ?_
         rintro _ ⟨sg, rfl⟩
         refine (l6Copy_c [a] p3 q3 _ (HRL.out.keep (Below.step BW (Below.step BB sg.h))) HLa.out).mono ?_
         rintro e wg1 ⟨va, xa, fa, rfl, ka, hbx⟩
         obtain ⟨ga, ca, pav, qav, rfl, ha1, ha2, -, rfl, rfl, -, -⟩ := ownL_single ka
         have hbg := Below.step sg.h hbx
         refine ⟨_, rfl, ⟨⟨wg1, hbx⟩, rfl⟩, ?_⟩
         have Ka := ka.low ((Below.step BB sg.h)).size
         replace BB := Below.step BB hbg
         clear hbg hbx sg ka ha1 ha2
         replace hne := HW.some wg1
         refine wpM_only (i := 5) (by kernel_rfl) ?_
         refine mOp_call rfl (by go_simp) 40 _ #[.slice (some ⟨lb, lo, none⟩) 1 q9] (fun w => by go_simp) rfl ?_
         rintro _ ⟨sg, rfl⟩
         refine (l6Copy_c [b] (some ⟨lb, lo, none⟩) q9 _ (HRB.out.keep (Below.step BW (Below.step BB sg.h))) HLb.out).mono ?_
         rintro e wg2 ⟨vb, xb, fb, rfl, kb, hbx⟩
         obtain ⟨gb, cb, pbv, qbv, rfl, hb1, hb2, -, rfl, rfl, -, -⟩ := ownL_single kb
         have hbg := Below.step sg.h hbx
         refine ⟨_, rfl, ⟨⟨wg2, hbx⟩, rfl⟩, ?_⟩
         have Kb := kb.low ((Below.step BB sg.h)).size
         have Dab := (show ∀ k, k ∈ (Value.slice pbv b.2.length qbv).ownBlock.toList → k ∉ (Value.slice (some ⟨ga, 0, none⟩) 1 ca).ownBlock.toList ++ (Value.slice pav a.2.length qav).ownBlock.toList from fun k h h2 => by have h1 := (Ka.ins k h2).2; have h4 := (kb.ins k (List.mem_append_right _ h)).1; have h3 := sg.h.size; omega)
         replace Ka := Ka.stay hbg
         replace BB := Below.step BB hbg
         clear hbg hbx sg kb hb1 hb2
         replace hne := HW.some wg2
         refine wpM_end (by kernel_rfl) rfl (by kernel_rfl) (by decide) ?_
         rintro _ ⟨sz, rfl⟩
         simp only [List.drop_succ_cons, List.drop_zero]
         go_simp
         replace Ka := Ka.stay sz.h
         replace Kb := Kb.stay sz.h
         replace BB := Below.step BB sz.h
         clear hne
         generalize sz.w = W at *
         clear sz
         revert Dab
         revert Kb
         revert Ka
         revert BB
         revert qbv
         revert pbv
         revert cb
         revert gb
         revert qav
         revert pav
         revert ca
         revert ga
         revert W
         exact JN.out
        intro W ga ca pav qav gb cb pbv qbv BB Ka Kb Dab
        obtain ⟨hca1, hca2, hga, oa, -⟩ := ownL_parts Ka
        obtain ⟨hcb1, hcb2, hgb, ob, hnew⟩ := ownL_parts Kb
        have hrow : Hid (W.ownsRow V.heap.size 53 2 (.slice (some ⟨ga, 0, none⟩) 1 ca) 1 [.int .i64 a.1, .slice pav a.2.length qav]) := Ka.row
        replace A := A.stay BB
        replace R := R.stay BB
        replace BW := Below.step BW BB
        replace kS := kS.stay BB
        clear e6
        obtain ⟨i0, hi, hz0, hz1, hz2⟩ := info_parts infoMsg
        go_wp2_with (at_builtin; refine Hid.out ?_)
        unfold Hid
        refine wpList_append_lies _ rfl (.tmp 67) (.tmp 70) 33 rfl V.heap.size 53 i0 (.agg #[.int .i64 0, .slice none 0 0]) 2 32 Tryz.underlying33 hi hz0 hz1 hz2 rfl (by decide) (.slice (some ⟨ga, 0, none⟩) 1 ca) 1 [.int .i64 a.1, .slice pav a.2.length qav] rfl hrow.out ⟨gb, 0, none⟩ 1 cb [.int .i64 b.1, .slice pbv b.2.length qbv] rfl rfl hnew (by intro u hu; simp at hu; rcases hu with rfl | rfl <;> rfl) (by decide) (by unfold maxLen; omega) (by omega) BB.size _ rfl ?_
        intro g6 c6 w6 hown6 hgrow6 hat6 hlt6
        clear i0 hi hz0 hz1 hz2
        have HGa : Hid (V.heap.size ≤ ga) := hga
        have OP := Ka.push (a := b) (msg_own_mk (a := b) ob) Dab (k := 2) (v' := .slice (some ⟨g6, 0, none⟩) 2 c6) (g := g6) hown6 rfl hgrow6 rfl hat6
        have HSg : Hid (∀ k, (Value.slice ps S.length qs).ownBlock = some k → k ≠ g6) := fun k hk e => by
         have h1 := HSlt.out k hk
         have h2 := HGa.out
         have h3 := BB.size
         rcases hat6 with h4 | h4
         ·have e' : ga = g6 := Option.some.inj h4
          omega
         ·omega
        replace BW := BW.grown hgrow6 BW.size (fun k hk => by have e : ga = k := Option.some.inj hk; have := HGa.out; have := HVR.out; omega)
        replace A := A.other hgrow6 (fun e => by have e' : ga = w.heap.size := Option.some.inj e; have := HGa.out; have := HVR.out; omega)
        replace R := R.other hgrow6 (fun e => by have e' : ga = w.heap.size + 1 := Option.some.inj e; have := HGa.out; have := HVR.out; omega)
        replace kS := kS.other hgrow6 (fun k hk e => by have e' : ga = k := Option.some.inj e; have h1 := HSlt.out _ hk; have h2 := HGa.out; omega)
        replace OP := OP.low HVR.out
        clear hown6 hgrow6 hat6 hnew hrow Ka Kb oa ob Dab BB hga hgb HGa HSlt HVR hlt6
        clear V
        go_wp2_with fail
        obtain ⟨V, HV⟩ : ∃ V, Hid (V = w6) := ⟨_, rfl⟩
        rw [← HV.out] at A R BW kS OP ⊢
        clear HV
        have RAL : RdL msgC V (some ⟨g6, 0, none⟩) c6 [a, b] := RdL.own OP
        have RS := Rd.own kS
        have l2 := cell_keep HL2.out BW
        have l3 := cell_keep HL3.out BW
        apply share
        case h =>
         intro JN
         have BB := Below.refl V.heap.size V
         have hne := HW.some V
         have g0 := HW.at (l2)
         have g1 := HW.at (l3)
         refine wp_region_pick [0, 1, 4, 5, 6, 7] 9 3 1 rfl rfl rfl (by kernel_rfl) (by kernel_rfl) (by kernel_rfl) (by kernel_rfl) ?_
         simp only [opsAt, List.getElem?_toArray, List.getElem?_cons_zero, List.getElem?_cons_succ]
         repeat (go_big_quiet_step (fail))
         refine wpQuiet_nil ?_
         clear g0 g1
         refine wpM_only (i := 2) (by kernel_rfl) ?_
         refine mOp_call rfl (by go_simp) 43 _ #[.slice (some ⟨g6, 0, none⟩) 2 c6] (fun w => by go_simp) rfl ?_
         rintro _ ⟨sg, rfl⟩
         refine (l11Digest_c [a, b] (some ⟨g6, 0, none⟩) c6 _ (RAL.keep (Below.step BB sg.h)) HP2.out).mono ?_
         rintro e wg1 ⟨ud, rfl, kd, hbx⟩
         obtain ⟨pd, qd, rfl, -⟩ := kd.rd
         have hbg := Below.step sg.h hbx
         refine ⟨_, rfl, ⟨⟨wg1, hbx⟩, rfl⟩, ?_⟩
         have R2 := Rd.own kd
         replace BB := Below.step BB hbg
         clear hbg hbx sg kd
         replace hne := HW.some wg1
         refine wpM_only (i := 3) (by kernel_rfl) ?_
         refine mOp_call rfl (by go_simp) 42 _ #[.slice ps S.length qs, .string ⟨#[115, 32, 104, 115, 32, 116, 114, 97, 102, 102, 105, 99]⟩, .slice pd (digM [a, b]).length qd] (fun w => by go_simp) rfl ?_
         rintro _ ⟨sg, rfl⟩
         refine (KT.out _ pd qd (RS.keep (Below.step BB sg.h)) (R2.keep sg.h)).mono ?_
         rintro e wg2 ⟨ut, rfl, kt, hbx⟩
         obtain ⟨pt, qt, rfl, -⟩ := kt.rd
         have hbg := Below.step sg.h hbx
         refine ⟨_, rfl, ⟨⟨wg2, hbx⟩, rfl⟩, ?_⟩
         have R3 := Rd.own kt
         replace R2 := R2.keep hbg
         replace BB := Below.step BB hbg
         clear hbg hbx sg kt
         replace hne := HW.some wg2
         refine wpM_only (i := 8) (by kernel_rfl) ?_
         refine mOp_call rfl (by go_simp) 41 _ #[.slice pt K.length qt, .slice (some ⟨g6, 0, none⟩) 2 c6, .agg #[.int .i64 c.1, .slice pcl c.2.length qcl]] (fun w => by go_simp) rfl ?_
         rintro _ ⟨sg, rfl⟩
         refine (specCf_c K [a, b] c pt (some ⟨g6, 0, none⟩) pcl qt c6 qcl _ (R3.keep sg.h) (RAL.keep (Below.step BB sg.h)) (HRc.out.keep (Below.step BW (Below.step BB sg.h)))).mono ?_
         rintro e wg3 ⟨rfl, hbx⟩
         have hbg := Below.step sg.h hbx
         refine ⟨_, rfl, ⟨⟨wg3, hbx⟩, rfl⟩, ?_⟩
         replace R2 := R2.keep hbg
         replace R3 := R3.keep hbg
         replace BB := Below.step BB hbg
         clear hbg hbx sg
         replace hne := HW.some wg3
         refine wpM_end (by kernel_rfl) rfl (by kernel_rfl) (by decide) ?_
         rintro _ ⟨sz, rfl⟩
         simp only [List.drop_succ_cons, List.drop_zero]
         go_simp
         replace R2 := R2.keep sz.h
         replace R3 := R3.keep sz.h
         replace BB := Below.step BB sz.h
         clear hne
         generalize sz.w = W at *
         clear sz
         revert R3
         revert R2
         revert BB
         revert qt
         revert pt
         revert qd
         revert pd
         revert W
         exact JN.out
        intro W pd qd pt qt BB R2 R3
        replace A := A.stay BB
        replace R := R.stay BB
        replace BW := Below.step BW BB
        replace kS := kS.stay BB
        replace OP := OP.stay BB
        clear BB l2 l3 RS RAL R2 R3
        clear V
        by_cases hc : cfC K [a, b] c = 0
        ·rw [hc]
         have HFc : Hid (faultW c.1 c.2.length = 0) := (cf_fault hc).1
         have HLc : Hid (bulkM [c] ≤ 1000000) := by have h := bulk_small (l := [c]) (fun y hy => by rw [List.mem_singleton.1 hy]; exact HFc.out); simp only [List.length_singleton] at h; show _ ≤ _; omega
         have HP3 : Hid ((packAll [a, b, c]).length ≤ 600) := by
          have h := packAll_small (l := [a, b, c]) (fun y hy => by
           simp only [List.mem_cons, List.not_mem_nil, or_false] at hy
           rcases hy with rfl | rfl | rfl
           ·exact HFA.out
           ·exact HFB.out
           ·exact HFc.out)
          simp only [List.length_cons, List.length_nil] at h
          show _ ≤ _
          omega
         obtain ⟨Fb, HF⟩ : ∃ F, Hid (F = (hvF s a b c).2) := ⟨_, rfl⟩
         have HFb : Hid (hvF s a b c = (20, Fb)) := by show _ = _; rw [HF.out]; rfl
         have HFS : Hid (hvF s a b c = finM S cHsB [a, b, c]) := by show _ = _; rw [hvF, ← HH.out, HS.out]
         have HF32 : Hid (Fb.length = 32) := by show _ = _; rw [HF.out, HFS.out]; exact finM_len _ _ _
         have HLf : Hid (bulkM [((20 : Int), Fb)] ≤ 1000000) := by
          show _ ≤ _
          rw [bulkM_cons, show bulkM ([] : List MsgD) = 0 from rfl]
          have := HF32.out
          simp only
          omega
         rw [hvE_go (a := a) he rfl rfl, hvE2_ok (by rw [HC2.out]; exact hc), ← HH.out, HMO.out, ← HS.out, HFb.out] at HQ
         clear hc HC2
         have RLd : RdL msgC w (some ⟨lb, lo + 2, none⟩) (q9 - 1) [c] := by
          have h := HRM.out.drop 1 (by simp)
          rw [show msgC.n = 2 from rfl] at h
          exact h
         have HRLd : Hid (RdL msgC w (some ⟨lb, lo + 2, none⟩) (q9 - 1) [c]) := RLd
         clear RLd
         go_wp2_with fail
         refine (l6Copy_c [c] (some ⟨lb, lo + 2, none⟩) (q9 - 1) _ (HRLd.out.keep BW) HLc.out).mono ?_
         rintro e w3 ⟨vc, xc, fc, rfl, kc, hb3⟩
         obtain ⟨gc, cc3, pcv, qcv, rfl, hcc1, hcc2, hgc, rfl, rfl, oc, hnewc⟩ := ownL_single kc
         have HOlt : Hid (∀ k, k ∈ (Value.slice (some ⟨g6, 0, none⟩) 2 c6).ownBlock.toList ++ _ → k < W.heap.size) := fun k hk => (OP.ins k hk).2
         have HSlt : Hid (∀ k, (Value.slice ps S.length qs).ownBlock = some k → k < W.heap.size) := fun k hk => kS.lt k hk
         have HOge : Hid (∀ k, (Value.slice pcv c.2.length qcv).ownBlock = some k → W.heap.size ≤ k) := fun k hk => oc.ge k hk
         have HWR : Hid (w.heap.size + 2 ≤ W.heap.size) := R.lt
         have HW3 : Hid (W.heap.size ≤ w3.heap.size) := hb3.size
         have HG6 : Hid (w.heap.size + 2 ≤ g6) := (OP.ins g6 (List.mem_append_left _ (mem_opt.2 rfl))).1
         replace oc := oc.lower HWR.out
         replace A := A.stay hb3
         replace R := R.stay hb3
         replace BW := Below.step BW hb3
         replace kS := kS.stay hb3
         replace OP := OP.stay hb3
         have hrow : Hid (w3.ownsRow (w.heap.size + 2) 53 2 (.slice (some ⟨g6, 0, none⟩) 2 c6) 2 ([.int .i64 a.1, .slice pav a.2.length qav] ++ [.int .i64 b.1, .slice pbv b.2.length qbv])) := OP.row
         have hc61 : 2 ≤ c6 := (RdL.own OP).1
         have hc62 : c6 ≤ 2 ^ 63 - 1 := (RdL.own OP).2.1
         clear kc hb3
         obtain ⟨i0, hi, hz0, hz1, hz2⟩ := info_parts infoMsg
         go_wp2_with (at_builtin; refine Hid.out ?_)
         unfold Hid
         refine wpList_append_lies _ rfl (.tmp 85) (.tmp 88) 33 rfl (w.heap.size + 2) 53 i0 (.agg #[.int .i64 0, .slice none 0 0]) 2 32 Tryz.underlying33 hi hz0 hz1 hz2 rfl (by decide) (.slice (some ⟨g6, 0, none⟩) 2 c6) 2 ([.int .i64 a.1, .slice pav a.2.length qav] ++ [.int .i64 b.1, .slice pbv b.2.length qbv]) rfl hrow.out ⟨gc, 0, none⟩ 1 cc3 [.int .i64 c.1, .slice pcv c.2.length qcv] rfl rfl hnewc (by intro u hu; simp at hu; rcases hu with rfl | rfl <;> rfl) (by decide) (by unfold maxLen; omega) (by omega) R.lt _ rfl ?_
         intro g7 c7 w7 hown6 hgrow6 hat6 hlt6
         clear i0 hi hz0 hz1 hz2
         have OP7 := OP.push (a := c) (msg_own_mk (a := c) oc) (fun j hj hj2 => by have h1 := HOge.out j (mem_opt.1 hj); have h2 := HOlt.out j hj2; omega) (k := 3) (v' := .slice (some ⟨g7, 0, none⟩) 3 c7) (g := g7) hown6 rfl hgrow6 rfl hat6
         have HSg7 : Hid (∀ k, (Value.slice ps S.length qs).ownBlock = some k → k ≠ g7) := fun k hk e => by
          have h1 := HSlt.out k hk
          have h2 := HSg.out k hk
          have h3 := HW3.out
          rcases hat6 with h4 | h4
          ·have e' : g6 = g7 := Option.some.inj h4
           omega
          ·omega
         replace BW := BW.grown hgrow6 BW.size (fun k hk => by have e : g6 = k := Option.some.inj hk; have := HG6.out; omega)
         replace A := A.other hgrow6 (fun e => by have e' : g6 = w.heap.size := Option.some.inj e; have := HG6.out; omega)
         replace R := R.other hgrow6 (fun e => by have e' : g6 = w.heap.size + 1 := Option.some.inj e; have := HG6.out; omega)
         replace kS := kS.other hgrow6 (fun k hk e => by have e' : g6 = k := Option.some.inj e; exact HSg.out k hk e'.symm)
         have HG7 : Hid (w.heap.size + 2 ≤ g7) := (OP7.ins g7 (List.mem_append_left _ (mem_opt.2 rfl))).1
         clear hown6 hgrow6 hat6 hnewc hrow OP oc HOlt HSlt HOge HWR HW3 HG6 HSg hlt6
         have KF := l11Finished_c S cHsB [a, b, c] ps (some ⟨g7, 0, none⟩) qs c7 w7 (Rd.own kS) (RdL.own OP7) HS32.out (by decide) HP3.out (by simp)
         rw [← cHs_str, show (finM S cHsB [a, b, c]).2 = Fb by rw [← HFS.out, HF.out], show [a, b, c].length = 3 from rfl] at KF
         clear hgc
         clear W
         go_wp2_with fail
         refine KF.mono ?_
         rintro e w8 ⟨uf, rfl, kf, hb8⟩
         obtain ⟨pf, qf, rfl, -⟩ := kf.rd
         have HOlt : Hid (∀ k, k ∈ (Value.slice (some ⟨g7, 0, none⟩) 3 c7).ownBlock.toList ++ _ → k < w7.heap.size) := fun k hk => (OP7.ins k hk).2
         have HSlt : Hid (∀ k, (Value.slice ps S.length qs).ownBlock = some k → k < w7.heap.size) := fun k hk => kS.lt k hk
         have HFge : Hid (∀ k, (Value.slice pf Fb.length qf).ownBlock = some k → w7.heap.size ≤ k) := fun k hk => kf.ge k hk
         have HFlt : Hid (∀ k, (Value.slice pf Fb.length qf).ownBlock = some k → k < w8.heap.size) := fun k hk => kf.lt k hk
         have HW8 : Hid (w7.heap.size ≤ w8.heap.size) := hb8.size
         have HWR : Hid (w.heap.size + 2 ≤ w7.heap.size) := R.lt
         have hl8 := Below.mk (alloc_below w8 (.cells #[.int .i64 20, .slice pf Fb.length qf] 53)) (.cells #[.int .i64 20, .slice pf Fb.length qf] 53)
         have F := (Arr.new w8 [.int .i64 20, .slice pf Fb.length qf] 53).old _ (.cells #[.int .i64 20, .slice pf Fb.length qf] 53)
         have Nw := Arr.new (w8.alloc (.cells #[.int .i64 20, .slice pf Fb.length qf] 53)) [.int .i64 20, .slice pf Fb.length qf] 53
         rw [size_alloc] at Nw
         have hnew8 := Nw.cells
         have hb9 := Below.step hb8 hl8
         replace kf := (kf.lower HWR.out).stay hl8
         replace A := A.stay hb9
         replace R := R.stay hb9
         replace BW := Below.step BW hb9
         replace kS := kS.stay hb9
         replace OP7 := OP7.stay hb9
         have hrow : Hid (((w8.alloc (.cells #[.int .i64 20, .slice pf Fb.length qf] 53)).alloc (.cells #[.int .i64 20, .slice pf Fb.length qf] 53)).ownsRow (w.heap.size + 2) 53 2 (.slice (some ⟨g7, 0, none⟩) 3 c7) 3 ([.int .i64 a.1, .slice pav a.2.length qav] ++ [.int .i64 b.1, .slice pbv b.2.length qbv] ++ [.int .i64 c.1, .slice pcv c.2.length qcv])) := OP7.row
         have hc71 : 3 ≤ c7 := (RdL.own OP7).1
         have hc72 : c7 ≤ 2 ^ 63 - 1 := (RdL.own OP7).2.1
         clear KF hb8 hl8 hb9 Nw
         obtain ⟨i0, hi, hz0, hz1, hz2⟩ := info_parts infoMsg
         go_wp2_with (at_builtin; refine Hid.out ?_)
         unfold Hid
         refine wpList_append_lies _ rfl (.tmp 93) (.tmp 95) 33 rfl (w.heap.size + 2) 53 i0 (.agg #[.int .i64 0, .slice none 0 0]) 2 32 Tryz.underlying33 hi hz0 hz1 hz2 rfl (by decide) (.slice (some ⟨g7, 0, none⟩) 3 c7) 3 ([.int .i64 a.1, .slice pav a.2.length qav] ++ [.int .i64 b.1, .slice pbv b.2.length qbv] ++ [.int .i64 c.1, .slice pcv c.2.length qcv]) rfl hrow.out ⟨w8.heap.size + 1, 0, none⟩ 1 1 [.int .i64 20, .slice pf Fb.length qf] rfl rfl hnew8 (by intro u hu; simp at hu; rcases hu with rfl | rfl <;> rfl) (by decide) (by unfold maxLen; omega) (by omega) R.lt _ rfl ?_
         intro g8 c8 w9 hown6 hgrow6 hat6 hlt6
         clear i0 hi hz0 hz1 hz2
         have OP9 := OP7.push (a := ((20 : Int), Fb)) (msg_own_mk (a := ((20 : Int), Fb)) kf) (fun j hj hj2 => by have h1 := HFge.out j (mem_opt.1 hj); have h2 := HOlt.out j hj2; omega) (k := 4) (v' := .slice (some ⟨g8, 0, none⟩) 4 c8) (g := g8) hown6 rfl hgrow6 rfl hat6
         replace BW := BW.grown hgrow6 BW.size (fun k hk => by have e : g7 = k := Option.some.inj hk; have := HG7.out; omega)
         replace A := A.other hgrow6 (fun e => by have e' : g7 = w.heap.size := Option.some.inj e; have := HG7.out; omega)
         replace R := R.other hgrow6 (fun e => by have e' : g7 = w.heap.size + 1 := Option.some.inj e; have := HG7.out; omega)
         have HG7l : Hid (g7 < w7.heap.size) := HOlt.out g7 (List.mem_append_left _ (mem_opt.2 rfl))
         replace F := F.other hgrow6 (fun e => by have e' : g7 = w8.heap.size := Option.some.inj e; have := HG7l.out; have := HW8.out; omega)
         replace kS := kS.other hgrow6 (fun k hk e => by have e' : g7 = k := Option.some.inj e; exact HSg7.out k hk e'.symm)
         replace kf := kf.other hgrow6 (fun k hk e => by have e' : g7 = k := Option.some.inj e; have h1 := HFge.out k hk; have h2 := HG7l.out; omega)
         clear hown6 hgrow6 hat6 hnew8 hrow OP7 HOlt HSlt HFge HFlt HW8 HWR HG7 HG7l HSg7 hlt6
         go_wp2_with fail
         obtain ⟨V, HV⟩ : ∃ V, Hid (V = w9) := ⟨_, rfl⟩
         rw [← HV.out] at A R BW kS OP9 F kf ⊢
         clear HV
         have HVR : Hid (w.heap.size + 2 ≤ V.heap.size) := R.lt
         have RAL : RdL msgC V (some ⟨g8, 0, none⟩) c8 [a, b, c, ((20 : Int), Fb)] := RdL.own OP9
         have RS := Rd.own kS
         have HRf : Hid (Rd V pf qf Fb) := Rd.own kf
         have hc81 : 4 ≤ c8 := RAL.1
         have hc82 : c8 ≤ 2 ^ 63 - 1 := RAL.2.1
         have c0 := (A.cell 0).trans (show _ = some _ from rfl)
         have c1 := (A.cell 1).trans (show _ = some _ from rfl)
         have c2 := (A.cell 2).trans (show _ = some _ from rfl)
         have c3 := (A.cell 3).trans (show _ = some _ from rfl)
         have c4 := (F.cell 0).trans (show _ = some _ from rfl)
         have c5 := (F.cell 1).trans (show _ = some _ from rfl)
         have HOP : Hid (OwnL 53 msgC V (w.heap.size + 2) (.slice (some ⟨g8, 0, none⟩) 4 c8) [a, b, c, ((20 : Int), Fb)] _ _) := OP9
         clear OP9 kS kf F A
         apply share
         case h =>
          intro JN
          have BB := Below.refl V.heap.size V
          have hne := HW.some V
          have g0 := HW.at (c0)
          have g1 := HW.at (c1)
          have g2 := HW.at (c2)
          have g3 := HW.at (c3)
          have g4 := HW.at (c4)
          have g5 := HW.at (c5)
          refine wp_region_pick [0, 1, 2, 3, 5, 7] 11 5 1 rfl rfl rfl (by kernel_rfl) (by kernel_rfl) (by kernel_rfl) (by kernel_rfl) ?_
          simp only [opsAt, List.getElem?_toArray, List.getElem?_cons_zero, List.getElem?_cons_succ]
          repeat (go_big_quiet_step (fail))
          refine wpQuiet_nil ?_
          clear g0 g1 g2 g3 g4 g5
          refine wpM_two (i := 4) (j := 8) (by kernel_rfl) ?_ ?_
          ·skip
           refine mOp_call rfl (by go_simp) 46 _ #[.slice ps S.length qs] (fun w => by go_simp) rfl ?_
           rintro _ ⟨sg, rfl⟩
           refine (l7Master_c ps qs S _ (RS.keep (Below.step BB sg.h)) (by have := HS32.out; omega)).mono ?_
           rintro e wg1 ⟨um, rfl, km, hbx⟩
           obtain ⟨pm, qm, rfl, -⟩ := km.rd
           have hbg := Below.step sg.h hbx
           refine ⟨_, rfl, ⟨⟨wg1, hbx⟩, rfl⟩, ?_⟩
           have Rm := Rd.own km
           replace BB := Below.step BB hbg
           clear hbg hbx sg km
           replace hne := HW.some wg1
           refine wpM_two (i := 6) (j := 8) (by kernel_rfl) ?_ ?_
           ·skip
            refine mOp_call rfl (by go_simp) 45 _ #[.agg #[.int .i64 s.1, .slice p s.2.1.length q, .int .i64 s.2.2.1, .slice p2 s.2.2.2.length q2], .int .i64 2, .slice pm (masterN S).length qm, .slice (some ⟨g8, 0, none⟩) 4 c8] (fun w => by go_simp) rfl ?_
            rintro _ ⟨sg, rfl⟩
            refine (l11Done_c s 2 (masterN S) [a, b, c, ((20 : Int), Fb)] p p2 pm (some ⟨g8, 0, none⟩) q q2 qm c8 _ (HR1.out.keep (Below.step BW (Below.step BB sg.h))) (HR2.out.keep (Below.step BW (Below.step BB sg.h))) (Rm.keep sg.h) (RAL.keep (Below.step BB sg.h)) HSF.out (by rw [masterN_len]; decide) (by simp) HP3.out).mono ?_
            rintro e wg2 ⟨u7, v7, ub, x1, x2, x3, x4, fs, fx, rfl, ks, kb, kx, d1, d2, d3, hbx⟩
            obtain ⟨pu, qu, pv, qv, es, -, -⟩ := side_rep (sideC.toRep ks)
            simp only [List.cons.injEq, and_true, true_and] at es
            obtain ⟨rfl, rfl⟩ := es
            obtain ⟨pb, qb, rfl, -⟩ := kb.rd
            obtain ⟨y1, z1, y2, z2, y3, z3, y4, z4, ex, -, -, -, -⟩ := secrets_rep (secretsC.toRep kx)
            simp only [List.cons.injEq, and_true] at ex
            obtain ⟨rfl, rfl, rfl, rfl⟩ := ex
            have hbg := Below.step sg.h hbx
            refine ⟨_, rfl, ⟨⟨wg2, hbx⟩, rfl⟩, ?_⟩
            have Ks := sideC.low ks ((Below.step BB sg.h)).size
            have Kb := kb.lower ((Below.step BB sg.h)).size
            have Kx := secretsC.low kx ((Below.step BB sg.h)).size
            have D1 := d1
            have D2 := d2
            have D3 := d3
            replace Rm := Rm.keep hbg
            replace BB := Below.step BB hbg
            clear hbg hbx sg ks kb kx d1 d2 d3
            replace hne := HW.some wg2
            refine wpM_only (i := 8) (by kernel_rfl) ?_
            refine mOp_make rfl (by go_simp) ?_
            rintro _ ⟨sg, rfl⟩
            refine ⟨.slice (some ⟨sg.w.heap.size, 0, none⟩) 1 1, sg.w.alloc (.cells #[.int .i64 20, .slice pf Fb.length qf] 53), by go_simp, ⟨⟨_, alloc_below _ _⟩, rfl⟩, ?_⟩
            have hbg := Below.step sg.h (alloc_below sg.w (.cells #[.int .i64 20, .slice pf Fb.length qf] 53))
            have Kl := Arr.new sg.w [.int .i64 20, .slice pf Fb.length qf] 53
            replace Rm := Rm.keep hbg
            replace Ks := sideC.stay Ks hbg
            replace Kb := Kb.stay hbg
            replace Kx := secretsC.stay Kx hbg
            replace BB := Below.step BB hbg
            clear hbg
            replace hne := HW.some (sg.w.alloc (.cells #[.int .i64 20, .slice pf Fb.length qf] 53))
            generalize hW : (sg.w.alloc (.cells #[.int .i64 20, .slice pf Fb.length qf] 53)) = wg3 at *
            clear hW
            generalize sg.w.heap.size = gs at *
            clear sg
            refine wpM_only (i := 9) (by kernel_rfl) ?_
            refine mOp_call rfl (by go_simp) 40 _ #[.slice (some ⟨gs, 0, none⟩) 1 1] (fun w => by go_simp) rfl ?_
            rintro _ ⟨sg, rfl⟩
            refine (l6Copy_c [((20 : Int), Fb)] _ _ _ (rdL_oneM (Kl.stay sg.h) (HRf.out.keep (Below.step BB sg.h))) HLf.out).mono ?_
            rintro e wg4 ⟨vd, xd, fd, rfl, kd, hbx⟩
            obtain ⟨gd, cd, pdv, qdv, rfl, hd1, hd2, -, rfl, rfl, -, -⟩ := ownL_single kd
            have hbg := Below.step sg.h hbx
            refine ⟨_, rfl, ⟨⟨wg4, hbx⟩, rfl⟩, ?_⟩
            have Kd := kd.low ((Below.step BB sg.h)).size
            have Dsd := (show ∀ k, k ∈ fs → k ∉ (Value.slice (some ⟨gd, 0, none⟩) 1 cd).ownBlock.toList ++ (Value.slice pdv ((20 : Int), Fb).2.length qdv).ownBlock.toList from fun k h h2 => by have h1 := (sideC.ins Ks k h).2; have h4 := (kd.ins k h2).1; have h3 := sg.h.size; omega)
            have Dbd := (show ∀ k, k ∈ (Value.slice pb (masterN S).length qb).ownBlock.toList → k ∉ (Value.slice (some ⟨gd, 0, none⟩) 1 cd).ownBlock.toList ++ (Value.slice pdv ((20 : Int), Fb).2.length qdv).ownBlock.toList from fun k h h2 => by have h1 := Kb.lt _ (mem_opt.1 h); have h4 := (kd.ins k h2).1; have h3 := sg.h.size; omega)
            have Dxd := (show ∀ k, k ∈ fx → k ∉ (Value.slice (some ⟨gd, 0, none⟩) 1 cd).ownBlock.toList ++ (Value.slice pdv ((20 : Int), Fb).2.length qdv).ownBlock.toList from fun k h h2 => by have h1 := (secretsC.ins Kx k h).2; have h4 := (kd.ins k h2).1; have h3 := sg.h.size; omega)
            replace Rm := Rm.keep hbg
            replace Ks := sideC.stay Ks hbg
            replace Kb := Kb.stay hbg
            replace Kx := secretsC.stay Kx hbg
            replace Kl := Kl.stay hbg
            replace BB := Below.step BB hbg
            clear hbg hbx sg kd hd1 hd2
            replace hne := HW.some wg4
            refine wpM_more [10] 1 0 rfl (by kernel_rfl) (by kernel_rfl) (by kernel_rfl) (by kernel_rfl) ?_
            simp only [opsAt, List.getElem?_toArray, List.getElem?_cons_zero, List.getElem?_cons_succ]
            go_simp
            repeat (go_big_quiet_step (fail))
            refine wpQuiet_nil ?_
            refine wpM_end (by kernel_rfl) rfl (by kernel_rfl) (by decide) ?_
            rintro _ ⟨sz, rfl⟩
            simp only [List.drop_succ_cons, List.drop_zero]
            go_simp
            replace Rm := Rm.keep sz.h
            replace Ks := sideC.stay Ks sz.h
            replace Kb := Kb.stay sz.h
            replace Kx := secretsC.stay Kx sz.h
            replace Kl := Kl.stay sz.h
            replace Kd := Kd.stay sz.h
            replace BB := Below.step BB sz.h
            clear hne
            generalize sz.w = W at *
            clear sz
            revert Dxd
            revert Dbd
            revert Dsd
            revert Kd
            revert Kl
            revert D3
            revert D2
            revert D1
            revert Kx
            revert Kb
            revert Ks
            revert Rm
            revert BB
            revert qdv
            revert pdv
            revert cd
            revert gd
            revert gs
            revert z4
            revert y4
            revert z3
            revert y3
            revert z2
            revert y2
            revert z1
            revert y1
            revert qb
            revert pb
            revert qv
            revert pv
            revert qu
            revert pu
            revert fx
            revert fs
            revert qm
            revert pm
            revert W
            exact JN.out
           ·skip
            refine mOp_make rfl (by go_simp) ?_
            rintro _ ⟨sg, rfl⟩
            refine ⟨.slice (some ⟨sg.w.heap.size, 0, none⟩) 1 1, sg.w.alloc (.cells #[.int .i64 20, .slice pf Fb.length qf] 53), by go_simp, ⟨⟨_, alloc_below _ _⟩, rfl⟩, ?_⟩
            have hbg := Below.step sg.h (alloc_below sg.w (.cells #[.int .i64 20, .slice pf Fb.length qf] 53))
            have Kl := Arr.new sg.w [.int .i64 20, .slice pf Fb.length qf] 53
            replace Rm := Rm.keep hbg
            replace BB := Below.step BB hbg
            clear hbg
            replace hne := HW.some (sg.w.alloc (.cells #[.int .i64 20, .slice pf Fb.length qf] 53))
            generalize hW : (sg.w.alloc (.cells #[.int .i64 20, .slice pf Fb.length qf] 53)) = wg5 at *
            clear hW
            generalize sg.w.heap.size = gs at *
            clear sg
            refine wpM_only (i := 6) (by kernel_rfl) ?_
            refine mOp_call rfl (by go_simp) 45 _ #[.agg #[.int .i64 s.1, .slice p s.2.1.length q, .int .i64 s.2.2.1, .slice p2 s.2.2.2.length q2], .int .i64 2, .slice pm (masterN S).length qm, .slice (some ⟨g8, 0, none⟩) 4 c8] (fun w => by go_simp) rfl ?_
            rintro _ ⟨sg, rfl⟩
            refine (l11Done_c s 2 (masterN S) [a, b, c, ((20 : Int), Fb)] p p2 pm (some ⟨g8, 0, none⟩) q q2 qm c8 _ (HR1.out.keep (Below.step BW (Below.step BB sg.h))) (HR2.out.keep (Below.step BW (Below.step BB sg.h))) (Rm.keep sg.h) (RAL.keep (Below.step BB sg.h)) HSF.out (by rw [masterN_len]; decide) (by simp) HP3.out).mono ?_
            rintro e wg6 ⟨u7, v7, ub, x1, x2, x3, x4, fs, fx, rfl, ks, kb, kx, d1, d2, d3, hbx⟩
            obtain ⟨pu, qu, pv, qv, es, -, -⟩ := side_rep (sideC.toRep ks)
            simp only [List.cons.injEq, and_true, true_and] at es
            obtain ⟨rfl, rfl⟩ := es
            obtain ⟨pb, qb, rfl, -⟩ := kb.rd
            obtain ⟨y1, z1, y2, z2, y3, z3, y4, z4, ex, -, -, -, -⟩ := secrets_rep (secretsC.toRep kx)
            simp only [List.cons.injEq, and_true] at ex
            obtain ⟨rfl, rfl, rfl, rfl⟩ := ex
            have hbg := Below.step sg.h hbx
            refine ⟨_, rfl, ⟨⟨wg6, hbx⟩, rfl⟩, ?_⟩
            have Ks := sideC.low ks ((Below.step BB sg.h)).size
            have Kb := kb.lower ((Below.step BB sg.h)).size
            have Kx := secretsC.low kx ((Below.step BB sg.h)).size
            have D1 := d1
            have D2 := d2
            have D3 := d3
            replace Rm := Rm.keep hbg
            replace Kl := Kl.stay hbg
            replace BB := Below.step BB hbg
            clear hbg hbx sg ks kb kx d1 d2 d3
            replace hne := HW.some wg6
            refine wpM_only (i := 9) (by kernel_rfl) ?_
            refine mOp_call rfl (by go_simp) 40 _ #[.slice (some ⟨gs, 0, none⟩) 1 1] (fun w => by go_simp) rfl ?_
            rintro _ ⟨sg, rfl⟩
            refine (l6Copy_c [((20 : Int), Fb)] _ _ _ (rdL_oneM (Kl.stay sg.h) (HRf.out.keep (Below.step BB sg.h))) HLf.out).mono ?_
            rintro e wg7 ⟨vd, xd, fd, rfl, kd, hbx⟩
            obtain ⟨gd, cd, pdv, qdv, rfl, hd1, hd2, -, rfl, rfl, -, -⟩ := ownL_single kd
            have hbg := Below.step sg.h hbx
            refine ⟨_, rfl, ⟨⟨wg7, hbx⟩, rfl⟩, ?_⟩
            have Kd := kd.low ((Below.step BB sg.h)).size
            have Dsd := (show ∀ k, k ∈ fs → k ∉ (Value.slice (some ⟨gd, 0, none⟩) 1 cd).ownBlock.toList ++ (Value.slice pdv ((20 : Int), Fb).2.length qdv).ownBlock.toList from fun k h h2 => by have h1 := (sideC.ins Ks k h).2; have h4 := (kd.ins k h2).1; have h3 := sg.h.size; omega)
            have Dbd := (show ∀ k, k ∈ (Value.slice pb (masterN S).length qb).ownBlock.toList → k ∉ (Value.slice (some ⟨gd, 0, none⟩) 1 cd).ownBlock.toList ++ (Value.slice pdv ((20 : Int), Fb).2.length qdv).ownBlock.toList from fun k h h2 => by have h1 := Kb.lt _ (mem_opt.1 h); have h4 := (kd.ins k h2).1; have h3 := sg.h.size; omega)
            have Dxd := (show ∀ k, k ∈ fx → k ∉ (Value.slice (some ⟨gd, 0, none⟩) 1 cd).ownBlock.toList ++ (Value.slice pdv ((20 : Int), Fb).2.length qdv).ownBlock.toList from fun k h h2 => by have h1 := (secretsC.ins Kx k h).2; have h4 := (kd.ins k h2).1; have h3 := sg.h.size; omega)
            replace Rm := Rm.keep hbg
            replace Kl := Kl.stay hbg
            replace Ks := sideC.stay Ks hbg
            replace Kb := Kb.stay hbg
            replace Kx := secretsC.stay Kx hbg
            replace BB := Below.step BB hbg
            clear hbg hbx sg kd hd1 hd2
            replace hne := HW.some wg7
            refine wpM_more [10] 1 0 rfl (by kernel_rfl) (by kernel_rfl) (by kernel_rfl) (by kernel_rfl) ?_
            simp only [opsAt, List.getElem?_toArray, List.getElem?_cons_zero, List.getElem?_cons_succ]
            go_simp
            repeat (go_big_quiet_step (fail))
            refine wpQuiet_nil ?_
            refine wpM_end (by kernel_rfl) rfl (by kernel_rfl) (by decide) ?_
            rintro _ ⟨sz, rfl⟩
            simp only [List.drop_succ_cons, List.drop_zero]
            go_simp
            replace Rm := Rm.keep sz.h
            replace Kl := Kl.stay sz.h
            replace Ks := sideC.stay Ks sz.h
            replace Kb := Kb.stay sz.h
            replace Kx := secretsC.stay Kx sz.h
            replace Kd := Kd.stay sz.h
            replace BB := Below.step BB sz.h
            clear hne
            generalize sz.w = W at *
            clear sz
            revert Dxd
            revert Dbd
            revert Dsd
            revert Kd
            revert Kl
            revert D3
            revert D2
            revert D1
            revert Kx
            revert Kb
            revert Ks
            revert Rm
            revert BB
            revert qdv
            revert pdv
            revert cd
            revert gd
            revert gs
            revert z4
            revert y4
            revert z3
            revert y3
            revert z2
            revert y2
            revert z1
            revert y1
            revert qb
            revert pb
            revert qv
            revert pv
            revert qu
            revert pu
            revert fx
            revert fs
            revert qm
            revert pm
            revert W
            exact JN.out
          ·skip
           refine mOp_make rfl (by go_simp) ?_
           rintro _ ⟨sg, rfl⟩
           refine ⟨.slice (some ⟨sg.w.heap.size, 0, none⟩) 1 1, sg.w.alloc (.cells #[.int .i64 20, .slice pf Fb.length qf] 53), by go_simp, ⟨⟨_, alloc_below _ _⟩, rfl⟩, ?_⟩
           have hbg := Below.step sg.h (alloc_below sg.w (.cells #[.int .i64 20, .slice pf Fb.length qf] 53))
           have Kl := Arr.new sg.w [.int .i64 20, .slice pf Fb.length qf] 53
           replace BB := Below.step BB hbg
           clear hbg
           replace hne := HW.some (sg.w.alloc (.cells #[.int .i64 20, .slice pf Fb.length qf] 53))
           generalize hW : (sg.w.alloc (.cells #[.int .i64 20, .slice pf Fb.length qf] 53)) = wg8 at *
           clear hW
           generalize sg.w.heap.size = gs at *
           clear sg
           refine wpM_only (i := 4) (by kernel_rfl) ?_
           refine mOp_call rfl (by go_simp) 46 _ #[.slice ps S.length qs] (fun w => by go_simp) rfl ?_
           rintro _ ⟨sg, rfl⟩
           refine (l7Master_c ps qs S _ (RS.keep (Below.step BB sg.h)) (by have := HS32.out; omega)).mono ?_
           rintro e wg9 ⟨um, rfl, km, hbx⟩
           obtain ⟨pm, qm, rfl, -⟩ := km.rd
           have hbg := Below.step sg.h hbx
           refine ⟨_, rfl, ⟨⟨wg9, hbx⟩, rfl⟩, ?_⟩
           have Rm := Rd.own km
           replace Kl := Kl.stay hbg
           replace BB := Below.step BB hbg
           clear hbg hbx sg km
           replace hne := HW.some wg9
           refine wpM_only (i := 6) (by kernel_rfl) ?_
           refine mOp_call rfl (by go_simp) 45 _ #[.agg #[.int .i64 s.1, .slice p s.2.1.length q, .int .i64 s.2.2.1, .slice p2 s.2.2.2.length q2], .int .i64 2, .slice pm (masterN S).length qm, .slice (some ⟨g8, 0, none⟩) 4 c8] (fun w => by go_simp) rfl ?_
           rintro _ ⟨sg, rfl⟩
           refine (l11Done_c s 2 (masterN S) [a, b, c, ((20 : Int), Fb)] p p2 pm (some ⟨g8, 0, none⟩) q q2 qm c8 _ (HR1.out.keep (Below.step BW (Below.step BB sg.h))) (HR2.out.keep (Below.step BW (Below.step BB sg.h))) (Rm.keep sg.h) (RAL.keep (Below.step BB sg.h)) HSF.out (by rw [masterN_len]; decide) (by simp) HP3.out).mono ?_
           rintro e wg10 ⟨u7, v7, ub, x1, x2, x3, x4, fs, fx, rfl, ks, kb, kx, d1, d2, d3, hbx⟩
           obtain ⟨pu, qu, pv, qv, es, -, -⟩ := side_rep (sideC.toRep ks)
           simp only [List.cons.injEq, and_true, true_and] at es
           obtain ⟨rfl, rfl⟩ := es
           obtain ⟨pb, qb, rfl, -⟩ := kb.rd
           obtain ⟨y1, z1, y2, z2, y3, z3, y4, z4, ex, -, -, -, -⟩ := secrets_rep (secretsC.toRep kx)
           simp only [List.cons.injEq, and_true] at ex
           obtain ⟨rfl, rfl, rfl, rfl⟩ := ex
           have hbg := Below.step sg.h hbx
           refine ⟨_, rfl, ⟨⟨wg10, hbx⟩, rfl⟩, ?_⟩
           have Ks := sideC.low ks ((Below.step BB sg.h)).size
           have Kb := kb.lower ((Below.step BB sg.h)).size
           have Kx := secretsC.low kx ((Below.step BB sg.h)).size
           have D1 := d1
           have D2 := d2
           have D3 := d3
           replace Kl := Kl.stay hbg
           replace Rm := Rm.keep hbg
           replace BB := Below.step BB hbg
           clear hbg hbx sg ks kb kx d1 d2 d3
           replace hne := HW.some wg10
           refine wpM_only (i := 9) (by kernel_rfl) ?_
           refine mOp_call rfl (by go_simp) 40 _ #[.slice (some ⟨gs, 0, none⟩) 1 1] (fun w => by go_simp) rfl ?_
           rintro _ ⟨sg, rfl⟩
           refine (l6Copy_c [((20 : Int), Fb)] _ _ _ (rdL_oneM (Kl.stay sg.h) (HRf.out.keep (Below.step BB sg.h))) HLf.out).mono ?_
           rintro e wg11 ⟨vd, xd, fd, rfl, kd, hbx⟩
           obtain ⟨gd, cd, pdv, qdv, rfl, hd1, hd2, -, rfl, rfl, -, -⟩ := ownL_single kd
           have hbg := Below.step sg.h hbx
           refine ⟨_, rfl, ⟨⟨wg11, hbx⟩, rfl⟩, ?_⟩
           have Kd := kd.low ((Below.step BB sg.h)).size
           have Dsd := (show ∀ k, k ∈ fs → k ∉ (Value.slice (some ⟨gd, 0, none⟩) 1 cd).ownBlock.toList ++ (Value.slice pdv ((20 : Int), Fb).2.length qdv).ownBlock.toList from fun k h h2 => by have h1 := (sideC.ins Ks k h).2; have h4 := (kd.ins k h2).1; have h3 := sg.h.size; omega)
           have Dbd := (show ∀ k, k ∈ (Value.slice pb (masterN S).length qb).ownBlock.toList → k ∉ (Value.slice (some ⟨gd, 0, none⟩) 1 cd).ownBlock.toList ++ (Value.slice pdv ((20 : Int), Fb).2.length qdv).ownBlock.toList from fun k h h2 => by have h1 := Kb.lt _ (mem_opt.1 h); have h4 := (kd.ins k h2).1; have h3 := sg.h.size; omega)
           have Dxd := (show ∀ k, k ∈ fx → k ∉ (Value.slice (some ⟨gd, 0, none⟩) 1 cd).ownBlock.toList ++ (Value.slice pdv ((20 : Int), Fb).2.length qdv).ownBlock.toList from fun k h h2 => by have h1 := (secretsC.ins Kx k h).2; have h4 := (kd.ins k h2).1; have h3 := sg.h.size; omega)
           replace Kl := Kl.stay hbg
           replace Rm := Rm.keep hbg
           replace Ks := sideC.stay Ks hbg
           replace Kb := Kb.stay hbg
           replace Kx := secretsC.stay Kx hbg
           replace BB := Below.step BB hbg
           clear hbg hbx sg kd hd1 hd2
           replace hne := HW.some wg11
           refine wpM_more [10] 1 0 rfl (by kernel_rfl) (by kernel_rfl) (by kernel_rfl) (by kernel_rfl) ?_
           simp only [opsAt, List.getElem?_toArray, List.getElem?_cons_zero, List.getElem?_cons_succ]
           go_simp
           repeat (go_big_quiet_step (fail))
           refine wpQuiet_nil ?_
           refine wpM_end (by kernel_rfl) rfl (by kernel_rfl) (by decide) ?_
           rintro _ ⟨sz, rfl⟩
           simp only [List.drop_succ_cons, List.drop_zero]
           go_simp
           replace Kl := Kl.stay sz.h
           replace Rm := Rm.keep sz.h
           replace Ks := sideC.stay Ks sz.h
           replace Kb := Kb.stay sz.h
           replace Kx := secretsC.stay Kx sz.h
           replace Kd := Kd.stay sz.h
           replace BB := Below.step BB sz.h
           clear hne
           generalize sz.w = W at *
           clear sz
           revert Dxd
           revert Dbd
           revert Dsd
           revert Kd
           revert Kl
           revert D3
           revert D2
           revert D1
           revert Kx
           revert Kb
           revert Ks
           revert Rm
           revert BB
           revert qdv
           revert pdv
           revert cd
           revert gd
           revert gs
           revert z4
           revert y4
           revert z3
           revert y3
           revert z2
           revert y2
           revert z1
           revert y1
           revert qb
           revert pb
           revert qv
           revert pv
           revert qu
           revert pu
           revert fx
           revert fs
           revert qm
           revert pm
           revert W
           exact JN.out
         intro W pm qm fs fx pu qu pv qv pb qb y1 z1 y2 z2 y3 z3 y4 z4 gs gd cd pdv qdv BB Rm Ks Kb Kx D1 D2 D3 Kl Kd Dsd Dbd Dxd
         have KM := HOP.out.stay BB
         have KR : endResultC.own W (w.heap.size + 2) (0, doneE s 2 (masterN S) [a, b, c, ((20 : Int), Fb)], [((20 : Int), Fb)]) _ _ := endR_of (r := (0, doneE s 2 (masterN S) [a, b, c, ((20 : Int), Fb)], [((20 : Int), Fb)])) (end_of (e := doneE s 2 (masterN S) [a, b, c, ((20 : Int), Fb)]) (sideC.low Ks HVR.out) (⟨_, _, _, rfl, KM, rfl⟩ : msgsC.own W (w.heap.size + 2) [a, b, c, ((20 : Int), Fb)] [.slice (some ⟨g8, 0, none⟩) 4 c8] _) (byt_own (Kb.lower HVR.out)) (secretsC.low Kx HVR.out) (fun k h h2 => by
           have h4 := (sideC.ins Ks k h).1
           have h5 := (HOP.out.ins k h2).2
           omega) D1 D2 (fun k h h2 => by
           have h4 := Kb.ge k (mem_opt.1 h2)
           have h5 := (HOP.out.ins k h).2
           omega) (fun k h h2 => by
           have h4 := (secretsC.ins Kx k h2).1
           have h5 := (HOP.out.ins k h).2
           omega) D3) (⟨_, _, _, rfl, Kd.low HVR.out, rfl⟩ : msgsC.own W (w.heap.size + 2) [((20 : Int), Fb)] [.slice (some ⟨gd, 0, none⟩) 1 cd] _) (fun k h h2 => by
           simp only [List.nil_append] at h
           have hz : V.heap.size ≤ k := (Kd.ins k h2).1
           rcases List.mem_append.1 h with h3 | h3
           ·exact Dsd k h3 h2
           ·rcases List.mem_append.1 h3 with h4 | h4
            ·have h7 := (HOP.out.ins k h4).2
             omega
            ·rcases List.mem_append.1 h4 with h5 | h5
             ·exact Dbd k h5 h2
             ·exact Dxd k h5 h2)
         replace R := R.stay BB
         replace BW := Below.step BW BB
         have t0 := (R.cell 0).trans (show _ = some _ from rfl)
         have t1 := (R.cell 1).trans (show _ = some _ from rfl)
         have t2 := (R.cell 2).trans (show _ = some _ from rfl)
         have t3 := (R.cell 3).trans (show _ = some _ from rfl)
         have t4 := (R.cell 4).trans (show _ = some _ from rfl)
         have t5 := (R.cell 5).trans (show _ = some _ from rfl)
         have t6 := (R.cell 6).trans (show _ = some _ from rfl)
         have t7 := (R.cell 7).trans (show _ = some _ from rfl)
         have t8 := (R.cell 8).trans (show _ = some _ from rfl)
         have t9 := (R.cell 9).trans (show _ = some _ from rfl)
         have t10 := (R.cell 10).trans (show _ = some _ from rfl)
         have t11 := (R.cell 11).trans (show _ = some _ from rfl)
         have t12 := (R.cell 12).trans (show _ = some _ from rfl)
         have t13 := (R.cell 13).trans (show _ = some _ from rfl)
         have ft := R.frozen
         clear R BB c0 c1 c2 c3 c4 c5 KM Ks Kb Kx Kd Kl Rm D1 D2 D3 Dsd Dbd Dxd RAL RS
         go_wp2_with fail
         exact bodyPost_ret (v := .agg #[.int .i64 0, .int .i64 s.1, .slice pu s.2.1.length qu, .int .i64 s.2.2.1, .slice pv s.2.2.2.length qv, .int .i64 3, .int .i64 2, .slice (some ⟨g8, 0, none⟩) 4 c8, .slice pb (masterN S).length qb, .slice y1 (secsN (masterN S) (digM ([a, b, c, ((20 : Int), Fb)].take 3))).1.length z1, .slice y2 (secsN (masterN S) (digM ([a, b, c, ((20 : Int), Fb)].take 3))).2.1.length z2, .slice y3 (secsN (masterN S) (digM ([a, b, c, ((20 : Int), Fb)].take 3))).2.2.1.length z3, .slice y4 (secsN (masterN S) (digM ([a, b, c, ((20 : Int), Fb)].take 3))).2.2.2.length z4, .slice (some ⟨gd, 0, none⟩) 1 cd]) (by simp [results, Tryz.results8, go_sem, t0, t1, t2, t3, t4, t5, t6, t7, t8, t9, t10, t11, t12, t13]) rfl (HQ.out _ _ ⟨[_, _, _, _, _, _, _, _, _, _, _, _, _, _], _, rfl, endResultC.low (endResultC.set (endResultC.set (endResultC.set (endResultC.set (endResultC.set (endResultC.set (endResultC.set (endResultC.set (endResultC.set (endResultC.set (endResultC.set (endResultC.set (endResultC.set (endResultC.set KR (show w.heap.size + 1 < w.heap.size + 2 by omega) _) (show w.heap.size + 1 < w.heap.size + 2 by omega) _) (show w.heap.size + 1 < w.heap.size + 2 by omega) _) (show w.heap.size + 1 < w.heap.size + 2 by omega) _) (show w.heap.size + 1 < w.heap.size + 2 by omega) _) (show w.heap.size + 1 < w.heap.size + 2 by omega) _) (show w.heap.size + 1 < w.heap.size + 2 by omega) _) (show w.heap.size + 1 < w.heap.size + 2 by omega) _) (show w.heap.size + 1 < w.heap.size + 2 by omega) _) (show w.heap.size + 1 < w.heap.size + 2 by omega) _) (show w.heap.size + 1 < w.heap.size + 2 by omega) _) (show w.heap.size + 1 < w.heap.size + 2 by omega) _) (show w.heap.size + 1 < w.heap.size + 2 by omega) _) (show w.heap.size + 1 < w.heap.size + 2 by omega) _) (by omega), ((((((((((((((BW.setCell (show w.heap.size ≤ w.heap.size + 1 by omega) _).setCell (show w.heap.size ≤ w.heap.size + 1 by omega) _).setCell (show w.heap.size ≤ w.heap.size + 1 by omega) _).setCell (show w.heap.size ≤ w.heap.size + 1 by omega) _).setCell (show w.heap.size ≤ w.heap.size + 1 by omega) _).setCell (show w.heap.size ≤ w.heap.size + 1 by omega) _).setCell (show w.heap.size ≤ w.heap.size + 1 by omega) _).setCell (show w.heap.size ≤ w.heap.size + 1 by omega) _).setCell (show w.heap.size ≤ w.heap.size + 1 by omega) _).setCell (show w.heap.size ≤ w.heap.size + 1 by omega) _).setCell (show w.heap.size ≤ w.heap.size + 1 by omega) _).setCell (show w.heap.size ≤ w.heap.size + 1 by omega) _).setCell (show w.heap.size ≤ w.heap.size + 1 by omega) _).setCell (show w.heap.size ≤ w.heap.size + 1 by omega) _)⟩)
        ·have hd : (cfC K [a, b] c != 0) = true := by rw [bne_iff_ne]; exact hc
         rw [hvE_go (a := a) he rfl rfl, hvE2_bad (by rw [HC2.out]; exact hc), HC2.out] at HQ
         clear hc HC2
         generalize cfC K [a, b] c = cc at *
         go_wp2_with fail
         refine (l11Bad_c cc _).mono ?_
         rintro e wb ⟨rfl, hbb⟩
         replace R := R.stay hbb
         replace BW := Below.step BW hbb
         have t0 := (R.cell 0).trans (show _ = some _ from rfl)
         have t1 := (R.cell 1).trans (show _ = some _ from rfl)
         have t2 := (R.cell 2).trans (show _ = some _ from rfl)
         have t3 := (R.cell 3).trans (show _ = some _ from rfl)
         have t4 := (R.cell 4).trans (show _ = some _ from rfl)
         have t5 := (R.cell 5).trans (show _ = some _ from rfl)
         have t6 := (R.cell 6).trans (show _ = some _ from rfl)
         have t7 := (R.cell 7).trans (show _ = some _ from rfl)
         have t8 := (R.cell 8).trans (show _ = some _ from rfl)
         have t9 := (R.cell 9).trans (show _ = some _ from rfl)
         have t10 := (R.cell 10).trans (show _ = some _ from rfl)
         have t11 := (R.cell 11).trans (show _ = some _ from rfl)
         have t12 := (R.cell 12).trans (show _ = some _ from rfl)
         have t13 := (R.cell 13).trans (show _ = some _ from rfl)
         have ft := R.frozen
         clear R hbb
         go_wp2_with fail
         exact bodyPost_ret (v := .agg #[.int .i64 cc, .int .i64 0, .slice none 0 0, .int .i64 0, .slice none 0 0, .int .i64 0, .int .i64 0, .slice none 0 0, .slice none 0 0, .slice none 0 0, .slice none 0 0, .slice none 0 0, .slice none 0 0, .slice none 0 0]) (by simp [results, Tryz.results8, go_sem, t0, t1, t2, t3, t4, t5, t6, t7, t8, t9, t10, t11, t12, t13]) rfl (HQ.out _ _ ⟨[_, _, _, _, _, _, _, _, _, _, _, _, _, _], _, rfl, badE_own _ _ _, ((((((((((((((BW.setCell (show w.heap.size ≤ w.heap.size + 1 by omega) _).setCell (show w.heap.size ≤ w.heap.size + 1 by omega) _).setCell (show w.heap.size ≤ w.heap.size + 1 by omega) _).setCell (show w.heap.size ≤ w.heap.size + 1 by omega) _).setCell (show w.heap.size ≤ w.heap.size + 1 by omega) _).setCell (show w.heap.size ≤ w.heap.size + 1 by omega) _).setCell (show w.heap.size ≤ w.heap.size + 1 by omega) _).setCell (show w.heap.size ≤ w.heap.size + 1 by omega) _).setCell (show w.heap.size ≤ w.heap.size + 1 by omega) _).setCell (show w.heap.size ≤ w.heap.size + 1 by omega) _).setCell (show w.heap.size ≤ w.heap.size + 1 by omega) _).setCell (show w.heap.size ≤ w.heap.size + 1 by omega) _).setCell (show w.heap.size ≤ w.heap.size + 1 by omega) _).setCell (show w.heap.size ≤ w.heap.size + 1 by omega) _)⟩)
       ·have dq : (h.2.2 != s.2.2.1) = true := by rw [bne_iff_ne]; exact hq
        have e1 : hvC2 s a b c = 8 := by rw [HCC.out, if_neg (fun x => x.elim hz hq)]
        rw [hvE_go (a := a) he rfl rfl, hvE2_bad (by rw [e1]; decide), e1] at HQ
        clear hz hq HCC e1
        go_wp2_with fail
        refine (l11Bad_c 8 _).mono ?_
        rintro e wb ⟨rfl, hbb⟩
        replace R := R.stay hbb
        replace BW := Below.step BW hbb
        have t0 := (R.cell 0).trans (show _ = some _ from rfl)
        have t1 := (R.cell 1).trans (show _ = some _ from rfl)
        have t2 := (R.cell 2).trans (show _ = some _ from rfl)
        have t3 := (R.cell 3).trans (show _ = some _ from rfl)
        have t4 := (R.cell 4).trans (show _ = some _ from rfl)
        have t5 := (R.cell 5).trans (show _ = some _ from rfl)
        have t6 := (R.cell 6).trans (show _ = some _ from rfl)
        have t7 := (R.cell 7).trans (show _ = some _ from rfl)
        have t8 := (R.cell 8).trans (show _ = some _ from rfl)
        have t9 := (R.cell 9).trans (show _ = some _ from rfl)
        have t10 := (R.cell 10).trans (show _ = some _ from rfl)
        have t11 := (R.cell 11).trans (show _ = some _ from rfl)
        have t12 := (R.cell 12).trans (show _ = some _ from rfl)
        have t13 := (R.cell 13).trans (show _ = some _ from rfl)
        have ft := R.frozen
        clear R hbb
        go_wp2_with fail
        exact bodyPost_ret (v := .agg #[.int .i64 8, .int .i64 0, .slice none 0 0, .int .i64 0, .slice none 0 0, .int .i64 0, .int .i64 0, .slice none 0 0, .slice none 0 0, .slice none 0 0, .slice none 0 0, .slice none 0 0, .slice none 0 0, .slice none 0 0]) (by simp [results, Tryz.results8, go_sem, t0, t1, t2, t3, t4, t5, t6, t7, t8, t9, t10, t11, t12, t13]) rfl (HQ.out _ _ ⟨[_, _, _, _, _, _, _, _, _, _, _, _, _, _], _, rfl, badE_own _ _ _, ((((((((((((((BW.setCell (show w.heap.size ≤ w.heap.size + 1 by omega) _).setCell (show w.heap.size ≤ w.heap.size + 1 by omega) _).setCell (show w.heap.size ≤ w.heap.size + 1 by omega) _).setCell (show w.heap.size ≤ w.heap.size + 1 by omega) _).setCell (show w.heap.size ≤ w.heap.size + 1 by omega) _).setCell (show w.heap.size ≤ w.heap.size + 1 by omega) _).setCell (show w.heap.size ≤ w.heap.size + 1 by omega) _).setCell (show w.heap.size ≤ w.heap.size + 1 by omega) _).setCell (show w.heap.size ≤ w.heap.size + 1 by omega) _).setCell (show w.heap.size ≤ w.heap.size + 1 by omega) _).setCell (show w.heap.size ≤ w.heap.size + 1 by omega) _).setCell (show w.heap.size ≤ w.heap.size + 1 by omega) _).setCell (show w.heap.size ≤ w.heap.size + 1 by omega) _).setCell (show w.heap.size ≤ w.heap.size + 1 by omega) _)⟩)
     ·have hd : (uhC 2 b != 0) = true := by rw [bne_iff_ne]; exact hu
      have e1 : hvC2 s a b c = uhC 2 b := by rw [hvC2, if_neg hu]
      rw [hvE_go (a := a) he rfl rfl, hvE2_bad (by rw [e1]; exact hu), e1] at HQ
      clear hu HH UC e1
      generalize uhC 2 b = cc at *
      have x0 := (X.cell 0).trans (show _ = some _ from rfl)
      go_wp2_with fail
      refine (l11Bad_c cc _).mono ?_
      rintro e wb ⟨rfl, hbb⟩
      replace R := R.stay hbb
      replace BW := Below.step BW hbb
      have t0 := (R.cell 0).trans (show _ = some _ from rfl)
      have t1 := (R.cell 1).trans (show _ = some _ from rfl)
      have t2 := (R.cell 2).trans (show _ = some _ from rfl)
      have t3 := (R.cell 3).trans (show _ = some _ from rfl)
      have t4 := (R.cell 4).trans (show _ = some _ from rfl)
      have t5 := (R.cell 5).trans (show _ = some _ from rfl)
      have t6 := (R.cell 6).trans (show _ = some _ from rfl)
      have t7 := (R.cell 7).trans (show _ = some _ from rfl)
      have t8 := (R.cell 8).trans (show _ = some _ from rfl)
      have t9 := (R.cell 9).trans (show _ = some _ from rfl)
      have t10 := (R.cell 10).trans (show _ = some _ from rfl)
      have t11 := (R.cell 11).trans (show _ = some _ from rfl)
      have t12 := (R.cell 12).trans (show _ = some _ from rfl)
      have t13 := (R.cell 13).trans (show _ = some _ from rfl)
      have ft := R.frozen
      clear R hbb
      go_wp2_with fail
      exact bodyPost_ret (v := .agg #[.int .i64 cc, .int .i64 0, .slice none 0 0, .int .i64 0, .slice none 0 0, .int .i64 0, .int .i64 0, .slice none 0 0, .slice none 0 0, .slice none 0 0, .slice none 0 0, .slice none 0 0, .slice none 0 0, .slice none 0 0]) (by simp [results, Tryz.results8, go_sem, t0, t1, t2, t3, t4, t5, t6, t7, t8, t9, t10, t11, t12, t13]) rfl (HQ.out _ _ ⟨[_, _, _, _, _, _, _, _, _, _, _, _, _, _], _, rfl, badE_own _ _ _, ((((((((((((((BW.setCell (show w.heap.size ≤ w.heap.size + 1 by omega) _).setCell (show w.heap.size ≤ w.heap.size + 1 by omega) _).setCell (show w.heap.size ≤ w.heap.size + 1 by omega) _).setCell (show w.heap.size ≤ w.heap.size + 1 by omega) _).setCell (show w.heap.size ≤ w.heap.size + 1 by omega) _).setCell (show w.heap.size ≤ w.heap.size + 1 by omega) _).setCell (show w.heap.size ≤ w.heap.size + 1 by omega) _).setCell (show w.heap.size ≤ w.heap.size + 1 by omega) _).setCell (show w.heap.size ≤ w.heap.size + 1 by omega) _).setCell (show w.heap.size ≤ w.heap.size + 1 by omega) _).setCell (show w.heap.size ≤ w.heap.size + 1 by omega) _).setCell (show w.heap.size ≤ w.heap.size + 1 by omega) _).setCell (show w.heap.size ≤ w.heap.size + 1 by omega) _).setCell (show w.heap.size ≤ w.heap.size + 1 by omega) _)⟩)
    ·have dm : ((ms.length : Int) != 2) = true := by rw [bne_iff_ne]; omega
     rw [hvE_form he hst hl3 hm2] at HQ
     clear hst hl3 hm2 he
     go_enter Tryz.func8, Tryz.ntmps8
     go_wp2_with fail
     refine (KE.out _ rfl).mono ?_
     rintro e w1 ⟨rfl, hw⟩
     subst hw
     clear KE
     go_wp2_with fail
     refine (l11Bad_c 1 _).mono ?_
     rintro e wb ⟨rfl, hbb⟩
     replace R := R.stay hbb
     replace BW := Below.step BW hbb
     have t0 := (R.cell 0).trans (show _ = some _ from rfl)
     have t1 := (R.cell 1).trans (show _ = some _ from rfl)
     have t2 := (R.cell 2).trans (show _ = some _ from rfl)
     have t3 := (R.cell 3).trans (show _ = some _ from rfl)
     have t4 := (R.cell 4).trans (show _ = some _ from rfl)
     have t5 := (R.cell 5).trans (show _ = some _ from rfl)
     have t6 := (R.cell 6).trans (show _ = some _ from rfl)
     have t7 := (R.cell 7).trans (show _ = some _ from rfl)
     have t8 := (R.cell 8).trans (show _ = some _ from rfl)
     have t9 := (R.cell 9).trans (show _ = some _ from rfl)
     have t10 := (R.cell 10).trans (show _ = some _ from rfl)
     have t11 := (R.cell 11).trans (show _ = some _ from rfl)
     have t12 := (R.cell 12).trans (show _ = some _ from rfl)
     have t13 := (R.cell 13).trans (show _ = some _ from rfl)
     have ft := R.frozen
     clear R hbb
     go_wp2_with fail
     exact bodyPost_ret (v := .agg #[.int .i64 1, .int .i64 0, .slice none 0 0, .int .i64 0, .slice none 0 0, .int .i64 0, .int .i64 0, .slice none 0 0, .slice none 0 0, .slice none 0 0, .slice none 0 0, .slice none 0 0, .slice none 0 0, .slice none 0 0]) (by simp [results, Tryz.results8, go_sem, t0, t1, t2, t3, t4, t5, t6, t7, t8, t9, t10, t11, t12, t13]) rfl (HQ.out _ _ ⟨[_, _, _, _, _, _, _, _, _, _, _, _, _, _], _, rfl, badE_own _ _ _, ((((((((((((((BW.setCell (show w.heap.size ≤ w.heap.size + 1 by omega) _).setCell (show w.heap.size ≤ w.heap.size + 1 by omega) _).setCell (show w.heap.size ≤ w.heap.size + 1 by omega) _).setCell (show w.heap.size ≤ w.heap.size + 1 by omega) _).setCell (show w.heap.size ≤ w.heap.size + 1 by omega) _).setCell (show w.heap.size ≤ w.heap.size + 1 by omega) _).setCell (show w.heap.size ≤ w.heap.size + 1 by omega) _).setCell (show w.heap.size ≤ w.heap.size + 1 by omega) _).setCell (show w.heap.size ≤ w.heap.size + 1 by omega) _).setCell (show w.heap.size ≤ w.heap.size + 1 by omega) _).setCell (show w.heap.size ≤ w.heap.size + 1 by omega) _).setCell (show w.heap.size ≤ w.heap.size + 1 by omega) _).setCell (show w.heap.size ≤ w.heap.size + 1 by omega) _).setCell (show w.heap.size ≤ w.heap.size + 1 by omega) _)⟩)
   ·have dl : ((l.length : Int) != 1) = true := by rw [bne_iff_ne]; omega
    rw [hvE_state he (fun h => hl3 h.2)] at HQ
    clear hst hl3 he
    go_enter Tryz.func8, Tryz.ntmps8
    go_wp2_with fail
    refine (KE.out _ rfl).mono ?_
    rintro e w1 ⟨rfl, hw⟩
    subst hw
    clear KE
    go_wp2_with fail
    refine (l11Bad_c 8 _).mono ?_
    rintro e wb ⟨rfl, hbb⟩
    replace R := R.stay hbb
    replace BW := Below.step BW hbb
    have t0 := (R.cell 0).trans (show _ = some _ from rfl)
    have t1 := (R.cell 1).trans (show _ = some _ from rfl)
    have t2 := (R.cell 2).trans (show _ = some _ from rfl)
    have t3 := (R.cell 3).trans (show _ = some _ from rfl)
    have t4 := (R.cell 4).trans (show _ = some _ from rfl)
    have t5 := (R.cell 5).trans (show _ = some _ from rfl)
    have t6 := (R.cell 6).trans (show _ = some _ from rfl)
    have t7 := (R.cell 7).trans (show _ = some _ from rfl)
    have t8 := (R.cell 8).trans (show _ = some _ from rfl)
    have t9 := (R.cell 9).trans (show _ = some _ from rfl)
    have t10 := (R.cell 10).trans (show _ = some _ from rfl)
    have t11 := (R.cell 11).trans (show _ = some _ from rfl)
    have t12 := (R.cell 12).trans (show _ = some _ from rfl)
    have t13 := (R.cell 13).trans (show _ = some _ from rfl)
    have ft := R.frozen
    clear R hbb
    go_wp2_with fail
    exact bodyPost_ret (v := .agg #[.int .i64 8, .int .i64 0, .slice none 0 0, .int .i64 0, .slice none 0 0, .int .i64 0, .int .i64 0, .slice none 0 0, .slice none 0 0, .slice none 0 0, .slice none 0 0, .slice none 0 0, .slice none 0 0, .slice none 0 0]) (by simp [results, Tryz.results8, go_sem, t0, t1, t2, t3, t4, t5, t6, t7, t8, t9, t10, t11, t12, t13]) rfl (HQ.out _ _ ⟨[_, _, _, _, _, _, _, _, _, _, _, _, _, _], _, rfl, badE_own _ _ _, ((((((((((((((BW.setCell (show w.heap.size ≤ w.heap.size + 1 by omega) _).setCell (show w.heap.size ≤ w.heap.size + 1 by omega) _).setCell (show w.heap.size ≤ w.heap.size + 1 by omega) _).setCell (show w.heap.size ≤ w.heap.size + 1 by omega) _).setCell (show w.heap.size ≤ w.heap.size + 1 by omega) _).setCell (show w.heap.size ≤ w.heap.size + 1 by omega) _).setCell (show w.heap.size ≤ w.heap.size + 1 by omega) _).setCell (show w.heap.size ≤ w.heap.size + 1 by omega) _).setCell (show w.heap.size ≤ w.heap.size + 1 by omega) _).setCell (show w.heap.size ≤ w.heap.size + 1 by omega) _).setCell (show w.heap.size ≤ w.heap.size + 1 by omega) _).setCell (show w.heap.size ≤ w.heap.size + 1 by omega) _).setCell (show w.heap.size ≤ w.heap.size + 1 by omega) _).setCell (show w.heap.size ≤ w.heap.size + 1 by omega) _)⟩)
  ·have ds : (st != 1) = true := by rw [bne_iff_ne]; exact hst
   rw [hvE_state he (fun h => hst h.1)] at HQ
   clear hst he
   go_enter Tryz.func8, Tryz.ntmps8
   go_wp2_with fail
   refine (KE.out _ rfl).mono ?_
   rintro e w1 ⟨rfl, hw⟩
   subst hw
   clear KE
   go_wp2_with fail
   refine (l11Bad_c 8 _).mono ?_
   rintro e wb ⟨rfl, hbb⟩
   replace R := R.stay hbb
   replace BW := Below.step BW hbb
   have t0 := (R.cell 0).trans (show _ = some _ from rfl)
   have t1 := (R.cell 1).trans (show _ = some _ from rfl)
   have t2 := (R.cell 2).trans (show _ = some _ from rfl)
   have t3 := (R.cell 3).trans (show _ = some _ from rfl)
   have t4 := (R.cell 4).trans (show _ = some _ from rfl)
   have t5 := (R.cell 5).trans (show _ = some _ from rfl)
   have t6 := (R.cell 6).trans (show _ = some _ from rfl)
   have t7 := (R.cell 7).trans (show _ = some _ from rfl)
   have t8 := (R.cell 8).trans (show _ = some _ from rfl)
   have t9 := (R.cell 9).trans (show _ = some _ from rfl)
   have t10 := (R.cell 10).trans (show _ = some _ from rfl)
   have t11 := (R.cell 11).trans (show _ = some _ from rfl)
   have t12 := (R.cell 12).trans (show _ = some _ from rfl)
   have t13 := (R.cell 13).trans (show _ = some _ from rfl)
   have ft := R.frozen
   clear R hbb
   go_wp2_with fail
   exact bodyPost_ret (v := .agg #[.int .i64 8, .int .i64 0, .slice none 0 0, .int .i64 0, .slice none 0 0, .int .i64 0, .int .i64 0, .slice none 0 0, .slice none 0 0, .slice none 0 0, .slice none 0 0, .slice none 0 0, .slice none 0 0, .slice none 0 0]) (by simp [results, Tryz.results8, go_sem, t0, t1, t2, t3, t4, t5, t6, t7, t8, t9, t10, t11, t12, t13]) rfl (HQ.out _ _ ⟨[_, _, _, _, _, _, _, _, _, _, _, _, _, _], _, rfl, badE_own _ _ _, ((((((((((((((BW.setCell (show w.heap.size ≤ w.heap.size + 1 by omega) _).setCell (show w.heap.size ≤ w.heap.size + 1 by omega) _).setCell (show w.heap.size ≤ w.heap.size + 1 by omega) _).setCell (show w.heap.size ≤ w.heap.size + 1 by omega) _).setCell (show w.heap.size ≤ w.heap.size + 1 by omega) _).setCell (show w.heap.size ≤ w.heap.size + 1 by omega) _).setCell (show w.heap.size ≤ w.heap.size + 1 by omega) _).setCell (show w.heap.size ≤ w.heap.size + 1 by omega) _).setCell (show w.heap.size ≤ w.heap.size + 1 by omega) _).setCell (show w.heap.size ≤ w.heap.size + 1 by omega) _).setCell (show w.heap.size ≤ w.heap.size + 1 by omega) _).setCell (show w.heap.size ≤ w.heap.size + 1 by omega) _).setCell (show w.heap.size ≤ w.heap.size + 1 by omega) _).setCell (show w.heap.size ≤ w.heap.size + 1 by omega) _)⟩)
 ·have hd : (efC (s, st, mo, l, base, x) != 0) = true := by rw [bne_iff_ne]; exact he
  rw [hvE_bad he] at HQ
  clear he
  generalize efC (s, st, mo, l, base, x) = cc at *
  go_enter Tryz.func8, Tryz.ntmps8
  go_wp2_with fail
  refine (KE.out _ rfl).mono ?_
  rintro e w1 ⟨rfl, hw⟩
  subst hw
  clear KE
  go_wp2_with fail
  refine (l11Bad_c cc _).mono ?_
  rintro e wb ⟨rfl, hbb⟩
  replace R := R.stay hbb
  replace BW := Below.step BW hbb
  have t0 := (R.cell 0).trans (show _ = some _ from rfl)
  have t1 := (R.cell 1).trans (show _ = some _ from rfl)
  have t2 := (R.cell 2).trans (show _ = some _ from rfl)
  have t3 := (R.cell 3).trans (show _ = some _ from rfl)
  have t4 := (R.cell 4).trans (show _ = some _ from rfl)
  have t5 := (R.cell 5).trans (show _ = some _ from rfl)
  have t6 := (R.cell 6).trans (show _ = some _ from rfl)
  have t7 := (R.cell 7).trans (show _ = some _ from rfl)
  have t8 := (R.cell 8).trans (show _ = some _ from rfl)
  have t9 := (R.cell 9).trans (show _ = some _ from rfl)
  have t10 := (R.cell 10).trans (show _ = some _ from rfl)
  have t11 := (R.cell 11).trans (show _ = some _ from rfl)
  have t12 := (R.cell 12).trans (show _ = some _ from rfl)
  have t13 := (R.cell 13).trans (show _ = some _ from rfl)
  have ft := R.frozen
  clear R hbb
  go_wp2_with fail
  exact bodyPost_ret (v := .agg #[.int .i64 cc, .int .i64 0, .slice none 0 0, .int .i64 0, .slice none 0 0, .int .i64 0, .int .i64 0, .slice none 0 0, .slice none 0 0, .slice none 0 0, .slice none 0 0, .slice none 0 0, .slice none 0 0, .slice none 0 0]) (by simp [results, Tryz.results8, go_sem, t0, t1, t2, t3, t4, t5, t6, t7, t8, t9, t10, t11, t12, t13]) rfl (HQ.out _ _ ⟨[_, _, _, _, _, _, _, _, _, _, _, _, _, _], _, rfl, badE_own _ _ _, ((((((((((((((BW.setCell (show w.heap.size ≤ w.heap.size + 1 by omega) _).setCell (show w.heap.size ≤ w.heap.size + 1 by omega) _).setCell (show w.heap.size ≤ w.heap.size + 1 by omega) _).setCell (show w.heap.size ≤ w.heap.size + 1 by omega) _).setCell (show w.heap.size ≤ w.heap.size + 1 by omega) _).setCell (show w.heap.size ≤ w.heap.size + 1 by omega) _).setCell (show w.heap.size ≤ w.heap.size + 1 by omega) _).setCell (show w.heap.size ≤ w.heap.size + 1 by omega) _).setCell (show w.heap.size ≤ w.heap.size + 1 by omega) _).setCell (show w.heap.size ≤ w.heap.size + 1 by omega) _).setCell (show w.heap.size ≤ w.heap.size + 1 by omega) _).setCell (show w.heap.size ≤ w.heap.size + 1 by omega) _).setCell (show w.heap.size ≤ w.heap.size + 1 by omega) _).setCell (show w.heap.size ≤ w.heap.size + 1 by omega) _)⟩)
theorem specHv_c (s : SideD) (st mo : Int) (l : List MsgD) (base : List UInt8) (x : SecretsD) (ms : List MsgD) (p p2 p3 p4 p5 p6 p7 p8 p9 : Option Addr) (q q2 q3 q4 q5 q6 q7 q8 q9 : Nat) (w : World) (h1 : Rd w p q s.2.1) (h2 : Rd w p2 q2 s.2.2.2) (h3 : RdL msgC w p3 q3 l) (h9 : RdL msgC w p9 q9 ms) :
  Calls Tryz.prog 8 #[.agg #[.int .i64 s.1, .slice p s.2.1.length q, .int .i64 s.2.2.1, .slice p2 s.2.2.2.length q2, .int .i64 st, .int .i64 mo, .slice p3 l.length q3, .slice p4 base.length q4, .slice p5 x.1.length q5, .slice p6 x.2.1.length q6, .slice p7 x.2.2.1.length q7, .slice p8 x.2.2.2.length q8], .slice p9 ms.length q9] w fun e w' => ∃ us fp, e = .returned (.agg us.toArray) ∧ endResultC.own w' w.heap.size (hvE (s, st, mo, l, base, x) ms) us fp ∧ Below w.heap.size w w' := by
 by_cases h : (uhD 2 (headM ms)).2.2.2 = 0
 ·exact specHv_m1 s st mo l base x ms p p2 p3 p4 p5 p6 p7 p8 p9 q q2 q3 q4 q5 q6 q7 q8 q9 w h h1 h2 h3 h9
 ·exact specHv_m2 s st mo l base x ms p p2 p3 p4 p5 p6 p7 p8 p9 q q2 q3 q4 q5 q6 q7 q8 q9 w h h1 h2 h3 h9
theorem specHv_k (e : EndD) (l : List MsgD) (us : List Value) (v : Value) (w : World) (r : endC.rep w e us) (r2 : msgsC.rep w l [v]) :
  Calls Tryz.prog 8 #[.agg us.toArray, v] w fun x w' => ∃ us fp, x = .returned (.agg us.toArray) ∧ endResultC.own w' w.heap.size (hvE e l) us fp ∧ Below w.heap.size w w' := by
 obtain ⟨p1, q1, p2, q2, p3, q3, p4, q4, p5, q5, p6, q6, p7, q7, p8, q8, rfl, r1, r2', r3, -, -, -, -, -⟩ := end_rep r
 obtain ⟨p9, q9, e9, r9⟩ := r2
 simp only [List.cons.injEq, and_true] at e9
 subst e9
 exact specHv_c e.1 e.2.1 e.2.2.1 e.2.2.2.1 e.2.2.2.2.1 e.2.2.2.2.2 l p1 p2 p3 p4 p5 p6 p7 p8 p9 q1 q2 q3 q4 q5 q6 q7 q8 q9 w r1 r2' r3 r9
end Go.Proofs.YtiabacnmmojfjabGreatDoor
