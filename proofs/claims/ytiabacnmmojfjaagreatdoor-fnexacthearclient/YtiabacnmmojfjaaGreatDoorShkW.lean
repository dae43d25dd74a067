/- HearClient of the specification, at every argument (written by tools/shk_w.py). What was there stays. -/
import Derived.Test.YtiabacnmmojfjaaGreatDoorShkU
import Derived.Test.YtiabacnmmojfjaaGreatDoorJoint23
import Derived.Test.YtiabacnmmojfjaaGreatDoorJoint22
import Derived.Test.YtiabacnmmojfjaaGreatDoorJoint4
namespace Go.Proofs.YtiabacnmmojfjaaGreatDoor
open Go.ChangeShapes Go.WideShapes Go.ChangeAt Go.RowKit
theorem ownL_two {w : World} {B g q1 q2 : Nat} {k1 k2 : Int} {p1 p2 : Option Addr} {b1 b2 : List UInt8} (A : Arr w g 46 [.int .i64 k1, .slice p1 b1.length q1, .int .i64 k2, .slice p2 b2.length q2]) (hg : B ≤ g) (o1 : Own w B (.slice p1 b1.length q1) b1) (o2 : Own w B (.slice p2 b2.length q2) b2)
    (h12 : ∀ k, k ∈ (Value.slice p1 b1.length q1).ownBlock.toList → k ∉ (Value.slice p2 b2.length q2).ownBlock.toList) (h1 : g ∉ (Value.slice p1 b1.length q1).ownBlock.toList) (h2 : g ∉ (Value.slice p2 b2.length q2).ownBlock.toList) :
    OwnL 46 msgC w B (.slice (some ⟨g, 0, none⟩) 2 2) [(k1, b1), (k2, b2)] [.int .i64 k1, .slice p1 b1.length q1, .int .i64 k2, .slice p2 b2.length q2] ((Value.slice p1 b1.length q1).ownBlock.toList ++ (Value.slice p2 b2.length q2).ownBlock.toList) :=
  ownL_arr (l := [(k1, b1), (k2, b2)]) A hg ⟨_, _, _, _, rfl, rfl, msg_own_mk (a := (k1, b1)) o1, _, [], _, [], rfl, by simp, msg_own_mk (a := (k2, b2)) o2, rfl, rfl⟩ (List.nodup_append.2 ⟨nodup_opt _, nodup_opt _, fun x hx y hy e => h12 x hx (e ▸ hy)⟩) (fun h => by
    rcases List.mem_append.1 h with h3 | h3
    · exact h1 h3
    · exact h2 h3) (by simp)
set_option maxRecDepth 4000 in
set_option maxHeartbeats 4000000 in
theorem specHc_k (s : SideD) (m : MsgD) (us vs : List Value) (w : World) (r : sideC.rep w s us) (r2 : msgC.rep w m vs) :
    Calls Tryz.prog 22 #[.agg us.toArray, .agg vs.toArray] w fun e w' => ∃ us fp, e = .returned (.agg us.toArray) ∧ endResultC.own w' w.heap.size (hcE s m) us fp ∧ Below w.heap.size w w' := by
  obtain ⟨p, q, p2, q2, rfl, r1, r3⟩ := side_rep r
  obtain ⟨p3, q3, rfl, rm⟩ := msg_rep r2
  clear r r2
  suffices H : ∀ Q : Ending → World → Prop, Hid (∀ e w', (∃ us fp, e = .returned (.agg us.toArray) ∧ endResultC.own w' w.heap.size (hcE s m) us fp ∧ Below w.heap.size w w') → Q e w') → Calls Tryz.prog 22 #[.agg #[.int .i64 s.1, .slice p s.2.1.length q, .int .i64 s.2.2.1, .slice p2 s.2.2.2.length q2], .agg #[.int .i64 m.1, .slice p3 m.2.length q3]] w Q from H _ (show Hid _ from fun _ _ h => h)
  intro Q HQ
  have HR1 : Hid (Rd w p q s.2.1) := r1
  have HR2 : Hid (Rd w p2 q2 s.2.2.2) := r3
  have HRM : Hid (Rd w p3 q3 m.2) := rm
  clear r1 r3 rm
  have BW := Below.mk (Below.mk (alloc_below w (.cells #[.int .i64 s.1, .slice p s.2.1.length q, .int .i64 s.2.2.1, .slice p2 s.2.2.2.length q2] 25)) (.cells #[.int .i64 m.1, .slice p3 m.2.length q3] 46)) (.cells #[.int .i64 0, .int .i64 0, .slice none 0 0, .int .i64 0, .slice none 0 0, .int .i64 0, .int .i64 0, .slice none 0 0, .slice none 0 0, .slice none 0 0, .slice none 0 0, .slice none 0 0, .slice none 0 0, .slice none 0 0] 43)
  have A := ((Arr.new w [.int .i64 s.1, .slice p s.2.1.length q, .int .i64 s.2.2.1, .slice p2 s.2.2.2.length q2] 25).old _ (.cells #[.int .i64 m.1, .slice p3 m.2.length q3] 46)).old _ (.cells #[.int .i64 0, .int .i64 0, .slice none 0 0, .int .i64 0, .slice none 0 0, .int .i64 0, .int .i64 0, .slice none 0 0, .slice none 0 0, .slice none 0 0, .slice none 0 0, .slice none 0 0, .slice none 0 0, .slice none 0 0] 43)
  have N := (Arr.new (w.alloc (.cells #[.int .i64 s.1, .slice p s.2.1.length q, .int .i64 s.2.2.1, .slice p2 s.2.2.2.length q2] 25)) [.int .i64 m.1, .slice p3 m.2.length q3] 46).old _ (.cells #[.int .i64 0, .int .i64 0, .slice none 0 0, .int .i64 0, .slice none 0 0, .int .i64 0, .int .i64 0, .slice none 0 0, .slice none 0 0, .slice none 0 0, .slice none 0 0, .slice none 0 0, .slice none 0 0, .slice none 0 0] 43)
  have R := Arr.new ((w.alloc (.cells #[.int .i64 s.1, .slice p s.2.1.length q, .int .i64 s.2.2.1, .slice p2 s.2.2.2.length q2] 25)).alloc (.cells #[.int .i64 m.1, .slice p3 m.2.length q3] 46)) [.int .i64 0, .int .i64 0, .slice none 0 0, .int .i64 0, .slice none 0 0, .int .i64 0, .int .i64 0, .slice none 0 0, .slice none 0 0, .slice none 0 0, .slice none 0 0, .slice none 0 0, .slice none 0 0, .slice none 0 0] 43
  rw [size_alloc] at N
  rw [size_alloc, size_alloc] at R
  have KS := l11Side_c w.heap.size 0 s p p2 q q2 _ ⟨A.cell 0, A.cell 1, A.cell 2, A.cell 3⟩
  by_cases hs : sfC s = 0
  · have hp := sf_parts hs
    rw [hs] at KS
    have HC0 : Hid (hcC s m = uhC 1 m) := by show _ = _; rw [hcC, if_pos hs]
    have HSF : Hid (sfC s = 0) := hs
    have HL1 : Hid (s.2.1.length ≤ 1000000) := by show _ ≤ _; rw [hp.2.2.2.2.1]; decide
    have HL2 : Hid (s.2.2.2.length ≤ 1000000) := by show _ ≤ _; rw [hp.2.2.2.2.2]; unfold keyW; split <;> decide
    clear hs hp
    go_enter Tryz.func22, Tryz.ntmps22
    go_wp2_with fail
    refine KS.mono ?_
    rintro e w1 ⟨rfl, hw⟩
    subst hw
    have m0 := (N.cell 0).trans (show _ = some _ from rfl)
    have m1 := (N.cell 1).trans (show _ = some _ from rfl)
    clear KS
    go_wp2_with fail
    refine (specUh_k 1 m _ _ (msgC.keep (msg_mk HRM.out) BW)).mono ?_
    rintro e w1 ⟨us, fp, rfl, kh, hb1⟩
    obtain ⟨pr, qr, rfl, -⟩ := helloResult_rep (helloResultC.toRep kh)
    clear kh
    have UC : Hid ((uhD 1 m).1 = uhC 1 m) := rfl
    obtain ⟨h, HH⟩ : ∃ h, Hid (h = (uhD 1 m).2) := ⟨_, rfl⟩
    rw [UC.out, ← HH.out]
    have hl := alloc_below w1 (.cells #[.int .i64 (uhC 1 m), .slice pr h.1.length qr, .int .i64 h.2.1, .int .i64 h.2.2] 92)
    have X := Arr.new w1 [.int .i64 (uhC 1 m), .slice pr h.1.length qr, .int .i64 h.2.1, .int .i64 h.2.2] 92
    replace A := (A.stay hb1).stay hl
    replace N := (N.stay hb1).stay hl
    have HRl0 : Hid (w.heap.size + 2 < w1.heap.size) := (R.stay hb1).lt
    replace R := (R.stay hb1).stay hl
    replace BW := Below.step (Below.step BW hb1) hl
    clear hb1 hl m0 m1
    by_cases hu : uhC 1 m = 0
    · have HE := hcE_ok (s := s) (m := m) (by rw [HC0.out]; exact hu)
      obtain ⟨-, huf, -, x, -, hux, huc, -⟩ := uh_fault hu
      rw [← HH.out] at hux
      subst hux
      obtain ⟨-, hh1, hh2, hh3, hh4⟩ := hf_parts huc
      have H160 : Hid (m.2.length ≤ 160) := (faultW_zero huf).2
      have HFM : Hid (faultW m.1 m.2.length = 0) := huf
      rw [hu] at X BW A N R ⊢
      rw [HE, ← HH.out] at HQ
      obtain ⟨mode, HMO⟩ : ∃ x, Hid (x = modeN h s) := ⟨_, rfl⟩
      obtain ⟨psk, HPS⟩ : ∃ x, Hid (x = pskN2 h s) := ⟨_, rfl⟩
      rw [← HMO.out, ← HPS.out] at HQ
      have HPK : Hid (0 ≤ psk ∧ psk ≤ 9) := by show _ ∧ _; rw [HPS.out]; exact pskN2_ok HSF.out
      obtain ⟨S, HS⟩ : ∃ S, Hid (S = hcS s h) := ⟨_, rfl⟩
      have HSE : Hid (S = secN s h.2.1 mode) := by show _ = _; rw [HS.out, HMO.out]; rfl
      have HS32 : Hid (S.length = 32) := by show _ = _; rw [HSE.out]; exact secN_len _ _ _
      obtain ⟨B, HB⟩ : ∃ B, Hid (B = (helM s 2 psk).2) := ⟨_, rfl⟩
      have HBM : Hid (helM s 2 psk = (2, B)) := by show _ = _; rw [HB.out]; rfl
      have HB14 : Hid (B.length = 14) := by show _ = _; rw [HB.out]; exact helM_len HSF.out HPK.out.1 HPK.out.2
      obtain ⟨Fb, HF⟩ : ∃ F, Hid (F = (hcF s m h).2) := ⟨_, rfl⟩
      have HFb : Hid (hcF s m h = (20, Fb)) := by show _ = _; rw [HF.out]; rfl
      have HFS : Hid (hcF s m h = finM S sHsB [m, (2, B)]) := by show _ = _; rw [hcF, ← HPS.out, HBM.out, HS.out]
      have HF32 : Hid (Fb.length = 32) := by show _ = _; rw [HF.out, HFS.out]; exact finM_len _ _ _
      rw [HBM.out, HFb.out, ← HS.out] at HQ
      have KSec : Hid (∀ W, Below w.heap.size w W → AtS W w.heap.size 0 p q p2 q2 s → Calls Tryz.prog 64 #[.pointer (some ⟨w.heap.size, 0, none⟩), .int .i64 h.2.1, .int .i64 mode] W fun e w' => ∃ u, e = .returned u ∧ Own w' W.heap.size u S ∧ Below W.heap.size W w') := fun W hW hA => by rw [HSE.out]; exact l11Secret_c w.heap.size 0 s h.2.1 mode p p2 q q2 W hA (HR2.out.keep hW) HSF.out hh1 hh2
      have KH : Hid (∀ W, Below w.heap.size w W → AtS W w.heap.size 0 p q p2 q2 s → Calls Tryz.prog 84 #[.pointer (some ⟨w.heap.size, 0, none⟩), .int .i64 2, .int .i64 psk] W fun e w' => ∃ u, e = .returned (.agg #[.int .i64 2, u]) ∧ Own w' W.heap.size u B ∧ Below W.heap.size W w') := fun W hW hA => by rw [HB.out]; exact l11Hello_c w.heap.size 0 s 2 psk p p2 q q2 W hA (HR1.out.keep hW) HSF.out HPK.out.1 HPK.out.2
      have KC : Hid (∀ W, Below w.heap.size w W → Calls Tryz.prog 85 #[.agg #[.int .i64 s.1, .slice p s.2.1.length q, .int .i64 s.2.2.1, .slice p2 s.2.2.2.length q2]] W fun e w' => ∃ u v fp, e = .returned (.agg #[.int .i64 s.1, u, .int .i64 s.2.2.1, v]) ∧ sideC.own w' W.heap.size s [.int .i64 s.1, u, .int .i64 s.2.2.1, v] fp ∧ Below W.heap.size W w') := fun W hW => l11CopySide_c s p p2 q q2 W (HR1.out.keep hW) (HR2.out.keep hW) HL1.out HL2.out
      have HP3 : Hid ((packAll [m, (2, B)]).length ≤ 600) := by
        show _ ≤ _
        rw [packAll_cons, packAll_one, List.length_append, packW_len, packW_len]
        have := H160.out
        have := HB14.out
        simp only
        omega
      have HLB : Hid (bulkM [((2 : Int), B), ((20 : Int), Fb)] ≤ 1000000) := by
        show _ ≤ _
        rw [bulkM_cons, bulkM_cons, show bulkM ([] : List MsgD) = 0 from rfl]
        have := HF32.out
        have := HB14.out
        simp only
        omega
      have a0 := (A.cell 0).trans (show _ = some _ from rfl)
      have a2 := (A.cell 2).trans (show _ = some _ from rfl)
      have x2 := (X.cell 2).trans (show _ = some _ from rfl)
      have x3 := (X.cell 3).trans (show _ = some _ from rfl)
      have HB3 : Hid (pskB h s = (decide (h.2.2 ≠ 0) && decide (h.2.2 = s.2.2.1))) := rfl
      have dz : (h.2.2 != 0) = decide (h.2.2 ≠ 0) := by
        by_cases hx : h.2.2 = 0
        · rw [decide_eq_false (fun e => e hx), bne_eq_false_iff_eq]; exact hx
        · rw [decide_eq_true hx, bne_iff_ne]; exact hx
      have de : (h.2.2 == s.2.2.1) = decide (h.2.2 = s.2.2.1) := by
        by_cases hx : h.2.2 = s.2.2.1
        · rw [decide_eq_true hx, beq_iff_eq]; exact hx
        · rw [decide_eq_false hx, beq_eq_false_iff_ne]; exact hx
      have HRlt : Hid (w.heap.size + 2 < w1.heap.size) := HRl0.out
      clear hu HE huf huc hh3 hh4
      cases ez : decide (h.2.2 ≠ 0)
      · rw [ez] at dz HB3
        have e1 : mode = 1 := by rw [HMO.out, modeN, HB3.out]; rfl
        have e2 : psk = 0 := by rw [HPS.out, pskN2, HB3.out]; rfl
        clear ez HB3 HPS HMO de
        subst e1 e2
        go_wp2_with fail
        refine (KSec.out _ BW ⟨A.cell 0, A.cell 1, A.cell 2, A.cell 3⟩).mono ?_
        rintro e w2 ⟨uS, rfl, kS, hb2⟩
        obtain ⟨ps, qs, rfl, -⟩ := kS.rd
        replace A := A.stay hb2
        replace N := N.stay hb2
        replace R := R.stay hb2
        replace BW := Below.step BW hb2
        have hz2 : Hid (w.heap.size + 3 ≤ w1.heap.size) := Nat.succ_le_of_lt HRlt.out
        replace kS := kS.lower (show w.heap.size + 3 ≤ _ by have h := hz2.out; rw [size_alloc]; omega)
        clear hb2 X x2 x3 a0 a2
        go_wp2_with fail
        obtain ⟨V, HV⟩ : ∃ V, Hid (V = w2) := ⟨_, rfl⟩
        rw [← HV.out] at A N R BW kS ⊢
        clear HV
        have HAS : Hid (AtS V w.heap.size 0 p q p2 q2 s) := ⟨A.cell 0, A.cell 1, A.cell 2, A.cell 3⟩
        have m0 := (N.cell 0).trans (show _ = some _ from rfl)
        have m1 := (N.cell 1).trans (show _ = some _ from rfl)
        apply share
        case h =>
          intro JN
          have BB := Below.refl V.heap.size V
          have hne := HW.some V
          have g0 := HW.at (m0)
          have g1 := HW.at (m1)
          refine wp_region_pick [0, 1, 2, 3, 6] 9 4 1 rfl rfl rfl (by kernel_rfl) (by kernel_rfl) (by kernel_rfl) (by kernel_rfl) ?_
          simp only [opsAt, List.getElem?_toArray, List.getElem?_cons_zero, List.getElem?_cons_succ]
          repeat (go_big_quiet_step (fail))
          refine wpQuiet_nil ?_
          clear g0 g1
          refine wpM_only (i := 4) (by kernel_rfl) ?_
          refine mOp_call rfl (by go_simp) 77 _ #[.slice p3 m.2.length q3] (fun w => by go_simp) rfl ?_
          rintro _ ⟨sg, rfl⟩
          refine (l1Copy_c p3 q3 m.2 _ (HRM.out.keep (Below.step BW (Below.step BB sg.h))) (by have := H160.out; omega)).mono ?_
          rintro e wg1 ⟨ua, rfl, ka, hbx⟩
          obtain ⟨pa, qa, rfl, -⟩ := ka.rd
          have hbg := Below.step sg.h hbx
          refine ⟨_, rfl, ⟨⟨wg1, hbx⟩, rfl⟩, ?_⟩
          have Ka := ka.lower ((Below.step BB sg.h)).size
          replace BB := Below.step BB hbg
          clear hbg hbx sg ka
          replace hne := HW.some wg1
          refine wpM_more [5] 3 2 rfl (by kernel_rfl) (by kernel_rfl) (by kernel_rfl) (by kernel_rfl) ?_
          simp only [opsAt, List.getElem?_toArray, List.getElem?_cons_zero, List.getElem?_cons_succ]
          go_simp
          repeat (go_big_quiet_step (fail))
          refine wpQuiet_nil ?_
          refine wpM_only (i := 7) (by kernel_rfl) ?_
          refine mOp_call rfl (by go_simp) 84 _ #[.pointer (some ⟨w.heap.size, 0, none⟩), .int .i64 2, .int .i64 0] (fun w => by go_simp) rfl ?_
          rintro _ ⟨sg, rfl⟩
          refine (KH.out _ (Below.step BW (Below.step BB sg.h)) (HAS.out.keep (Below.step BB sg.h))).mono ?_
          rintro e wg2 ⟨ub, rfl, kb, hbx⟩
          obtain ⟨pb, qb, rfl, -⟩ := kb.rd
          have hbg := Below.step sg.h hbx
          refine ⟨_, rfl, ⟨⟨wg2, hbx⟩, rfl⟩, ?_⟩
          have Kb := kb.lower ((Below.step BB sg.h)).size
          have Dab := (show ∀ k, k ∈ (Value.slice pa m.2.length qa).ownBlock.toList → k ∉ (Value.slice pb B.length qb).ownBlock.toList from fun k h h2 => by have h1 := Ka.lt _ (mem_opt.1 h); have h4 := kb.ge _ (mem_opt.1 h2); have h3 := sg.h.size; omega)
          replace Ka := Ka.stay hbg
          replace BB := Below.step BB hbg
          clear hbg hbx sg kb
          replace hne := HW.some wg2
          refine wpM_only (i := 8) (by kernel_rfl) ?_
          refine mOp_make rfl (by go_simp) ?_
          rintro _ ⟨sg, rfl⟩
          refine ⟨.slice (some ⟨sg.w.heap.size, 0, none⟩) 2 2, sg.w.alloc (.cells #[.int .i64 m.1, .slice pa m.2.length qa, .int .i64 2, .slice pb B.length qb] 46), by go_simp, ⟨⟨_, alloc_below _ _⟩, rfl⟩, ?_⟩
          have hbg := Below.step sg.h (alloc_below sg.w (.cells #[.int .i64 m.1, .slice pa m.2.length qa, .int .i64 2, .slice pb B.length qb] 46))
          have Kl := Arr.new sg.w [.int .i64 m.1, .slice pa m.2.length qa, .int .i64 2, .slice pb B.length qb] 46
          have Gl := ((Below.step BB sg.h)).size
          have Dal := (show sg.w.heap.size ∉ (Value.slice pa m.2.length qa).ownBlock.toList from fun h => by have h1 := Ka.lt _ (mem_opt.1 h); have h3 := sg.h.size; omega)
          have Dbl := (show sg.w.heap.size ∉ (Value.slice pb B.length qb).ownBlock.toList from fun h => by have h1 := Kb.lt _ (mem_opt.1 h); have h3 := sg.h.size; omega)
          replace Ka := Ka.stay hbg
          replace Kb := Kb.stay hbg
          replace BB := Below.step BB hbg
          clear hbg
          replace hne := HW.some (sg.w.alloc (.cells #[.int .i64 m.1, .slice pa m.2.length qa, .int .i64 2, .slice pb B.length qb] 46))
          generalize hW : (sg.w.alloc (.cells #[.int .i64 m.1, .slice pa m.2.length qa, .int .i64 2, .slice pb B.length qb] 46)) = wg3 at *
          clear hW
          generalize sg.w.heap.size = gl at *
          clear sg
          refine wpM_end (by kernel_rfl) rfl (by kernel_rfl) (by decide) ?_
          rintro _ ⟨sz, rfl⟩
          simp only [List.drop_succ_cons, List.drop_zero]
          go_simp
          replace Ka := Ka.stay sz.h
          replace Kb := Kb.stay sz.h
          replace Kl := Kl.stay sz.h
          replace Gl := show V.heap.size ≤ gl from Gl
          replace BB := Below.step BB sz.h
          clear hne
          generalize sz.w = W at *
          clear sz
          revert Dbl
          revert Dal
          revert Dab
          revert Gl
          revert Kl
          revert Kb
          revert Ka
          revert BB
          revert gl
          revert qb
          revert pb
          revert qa
          revert pa
          revert W
          exact JN.out
        intro W pa qa pb qb gl BB Ka Kb Kl Gl Dab Dal Dbl
        have OL := ownL_two Kl Gl Ka Kb Dab Dal Dbl
        have HSlt : Hid (∀ k, (Value.slice ps S.length qs).ownBlock = some k → k < V.heap.size) := fun k hk => kS.lt k hk
        have HVR : Hid (w.heap.size + 3 ≤ V.heap.size) := R.lt
        replace kS := kS.stay BB
        replace A := A.stay BB
        replace R := R.stay BB
        replace BW := Below.step BW BB
        have KF := l11Finished_c S sHsB [m, (2, B)] ps (some ⟨gl, 0, none⟩) qs 2 W (Rd.own kS) (RdL.own OL) HS32.out (by decide) HP3.out (by simp)
        rw [← sHs_str, show (finM S sHsB [m, (2, B)]).2 = Fb by rw [← HFS.out, HF.out]] at KF
        have HVW : Hid (V.heap.size ≤ W.heap.size) := BB.size
        clear Ka Kb Kl Dab Dal Dbl N m0 m1 BB
        go_wp2_with fail
        refine KF.mono ?_
        rintro e w3 ⟨uf, rfl, kf, hb3⟩
        obtain ⟨pf, qf, rfl, -⟩ := kf.rd
        have hl3 := alloc_below w3 (.cells #[.int .i64 20, .slice pf Fb.length qf] 46)
        have hnew : ∀ j u, [Value.int .i64 20, .slice pf Fb.length qf][j]? = some u → (w3.alloc (.cells #[.int .i64 20, .slice pf Fb.length qf] 46)).cell? ((⟨w3.heap.size, 0, none⟩ : Addr).add j) = some u := fun j u hj => (Arr.new w3 [.int .i64 20, .slice pf Fb.length qf] 46).cells j u hj
        have hb4 := Below.step hb3 hl3
        have OL4 := OL.stay hb4
        have HFge : Hid (∀ k, (Value.slice pf Fb.length qf).ownBlock = some k → W.heap.size ≤ k) := fun k hk => kf.ge k hk
        replace kf := (kf.lower HVW.out).stay hl3
        have HOlt : Hid (∀ k, k ∈ (Value.slice (some ⟨gl, 0, none⟩) 2 2).ownBlock.toList ++ ((Value.slice pa m.2.length qa).ownBlock.toList ++ (Value.slice pb B.length qb).ownBlock.toList) → k < W.heap.size) := fun k hk => (OL.ins k hk).2
        replace kS := kS.stay hb4
        replace A := A.stay hb4
        replace R := R.stay hb4
        replace BW := Below.step BW hb4
        have HV4 : Hid (V.heap.size ≤ (w3.alloc (.cells #[.int .i64 20, .slice pf Fb.length qf] 46)).heap.size) := Nat.le_trans HVW.out hb4.size
        have hrow4 : Hid ((w3.alloc (.cells #[.int .i64 20, .slice pf Fb.length qf] 46)).ownsRow V.heap.size 46 2 (.slice (some ⟨gl, 0, none⟩) 2 2) 2 [.int .i64 m.1, .slice pa m.2.length qa, .int .i64 2, .slice pb B.length qb]) := OL4.row
        obtain ⟨i0, hi, hz0, hz1, hz2'⟩ := info_parts infoMsg
        clear OL KF hb3 hl3 hb4
        go_wp2_with (at_builtin; refine wpList_append_lies _ rfl (.tmp 52) (.tmp 56) 28 rfl V.heap.size 46 i0 (.agg #[.int .i64 0, .slice none 0 0]) 2 32 Tryz.underlying28 hi hz0 hz1 hz2' rfl (by decide) (.slice (some ⟨gl, 0, none⟩) 2 2) 2 [.int .i64 m.1, .slice pa m.2.length qa, .int .i64 2, .slice pb B.length qb] rfl hrow4.out ⟨w3.heap.size, 0, none⟩ 1 1 [.int .i64 20, .slice pf Fb.length qf] rfl rfl hnew (by intro u hu; simp at hu; rcases hu with rfl | rfl <;> rfl) (by decide) (by unfold maxLen; omega) (by omega) HV4.out _ rfl ?_; intro g6 c6 w6 hown6 hgrow6 hat6 hlt6)
        have OP := OL4.push (a := ((20 : Int), Fb)) (msg_own_mk (a := ((20 : Int), Fb)) kf) (fun j hj hj2 => by
          have h1 := HFge.out j (mem_opt.1 hj)
          have h2 := HOlt.out j hj2
          omega) (k := 3) (v' := .slice (some ⟨g6, 0, none⟩) 3 c6) (g := g6) hown6 rfl hgrow6 rfl hat6
        have hgl : Hid (V.heap.size ≤ gl) := Gl
        replace BW := BW.grown hgrow6 BW.size (fun k hk => by have e : gl = k := Option.some.inj hk; have := hgl.out; have := HVR.out; omega)
        replace A := A.other hgrow6 (fun e => by have e' : gl = w.heap.size := Option.some.inj e; have := hgl.out; have := HVR.out; omega)
        replace R := R.other hgrow6 (fun e => by have e' : gl = w.heap.size + 1 + 1 := Option.some.inj e; have := hgl.out; have := HVR.out; omega)
        replace kS := kS.other hgrow6 (fun k hk e => by have e' : gl = k := Option.some.inj e; have h1 := HSlt.out _ hk; have h2 := hgl.out; omega)
        have h3c : 3 ≤ c6 := (RdL.own OP).1
        have hc6 : c6 ≤ 2 ^ 63 - 1 := (RdL.own OP).2.1
        have RLd : RdL msgC w6 (some ⟨g6, 2, none⟩) (c6 - 1) [((2 : Int), B), ((20 : Int), Fb)] := by
          have h := (RdL.own OP).drop 1 (by simp)
          rw [show msgC.n = 2 from rfl] at h
          exact h
        have HZV : Hid (w.heap.size + 3 ≤ V.heap.size) := HVR.out
        clear hown6 hgrow6 hat6 hnew hrow4 kf OL4 Gl
        obtain ⟨OB, HOB⟩ : ∃ x, Hid (x = V.heap.size) := ⟨_, rfl⟩
        rw [← HOB.out] at OP HZV
        clear HVR HVW HV4 HSlt hgl HOlt HOB HAS hz2
        clear V
        obtain ⟨V, HV⟩ : ∃ V, Hid (V = w6) := ⟨_, rfl⟩
        rw [← HV.out] at OP BW A R kS RLd ⊢
        clear HV
        have HRS : Hid (Rd V ps qs S) := Rd.own kS
        have KLc : Hid (∀ W, Below V.heap.size V W → Calls Tryz.prog 65 #[.slice (some ⟨g6, 2, none⟩) 2 (c6 - 1)] W fun e w' => ∃ v xs fp, e = .returned v ∧ OwnL 46 msgC w' W.heap.size v [((2 : Int), B), ((20 : Int), Fb)] xs fp ∧ Below W.heap.size W w') := fun W hW => l6Copy_c [((2 : Int), B), ((20 : Int), Fb)] _ _ W (RLd.keep hW) HLB.out
        have c0 := (A.cell 0).trans (show _ = some _ from rfl)
        have c1 := (A.cell 1).trans (show _ = some _ from rfl)
        have c2 := (A.cell 2).trans (show _ = some _ from rfl)
        have c3 := (A.cell 3).trans (show _ = some _ from rfl)
        have HOP : Hid (OwnL 46 msgC V OB (.slice (some ⟨g6, 0, none⟩) 3 c6) [m, ((2 : Int), B), ((20 : Int), Fb)] _ _) := OP
        clear OP kS A RLd
        apply share
        case h =>
          intro JN
          have BB := Below.refl V.heap.size V
          have hne := HW.some V
          have g0 := HW.at (c0)
          have g1 := HW.at (c1)
          have g2 := HW.at (c2)
          have g3 := HW.at (c3)
          refine wp_region_pick [0, 2, 3, 4, 7, 8] 11 5 1 rfl rfl rfl (by kernel_rfl) (by kernel_rfl) (by kernel_rfl) (by kernel_rfl) ?_
          simp only [opsAt, List.getElem?_toArray, List.getElem?_cons_zero, List.getElem?_cons_succ]
          repeat (go_big_quiet_step (fail))
          refine wpQuiet_nil ?_
          clear g0 g1 g2 g3
          refine wpM_only (i := 1) (by kernel_rfl) ?_
          refine mOp_call rfl (by go_simp) 85 _ #[.agg #[.int .i64 s.1, .slice p s.2.1.length q, .int .i64 s.2.2.1, .slice p2 s.2.2.2.length q2]] (fun w => by go_simp) rfl ?_
          rintro _ ⟨sg, rfl⟩
          refine (KC.out _ (Below.step BW (Below.step BB sg.h))).mono ?_
          rintro e wg1 ⟨us, vs, fs, rfl, ks, hbx⟩
          obtain ⟨pu, qu, pv, qv, es, -, -⟩ := side_rep (sideC.toRep ks)
          simp only [List.cons.injEq, and_true, true_and] at es
          obtain ⟨rfl, rfl⟩ := es
          have hbg := Below.step sg.h hbx
          refine ⟨_, rfl, ⟨⟨wg1, hbx⟩, rfl⟩, ?_⟩
          have Ks := sideC.low ks ((Below.step BB sg.h)).size
          replace BB := Below.step BB hbg
          clear hbg hbx sg ks
          replace hne := HW.some wg1
          refine wpM_only (i := 5) (by kernel_rfl) ?_
          refine mOp_call rfl (by go_simp) 71 _ #[.slice ps S.length qs] (fun w => by go_simp) rfl ?_
          rintro _ ⟨sg, rfl⟩
          refine (l7Master_c ps qs S _ (HRS.out.keep (Below.step BB sg.h)) (by have := HS32.out; omega)).mono ?_
          rintro e wg2 ⟨um, rfl, km, hbx⟩
          obtain ⟨pm, qm, rfl, -⟩ := km.rd
          have hbg := Below.step sg.h hbx
          refine ⟨_, rfl, ⟨⟨wg2, hbx⟩, rfl⟩, ?_⟩
          have Km := km.lower ((Below.step BB sg.h)).size
          have Dsm := (show ∀ k, k ∈ fs → k ∉ (Value.slice pm (masterN S).length qm).ownBlock.toList from fun k h h2 => by have h1 := (sideC.ins Ks k h).2; have h4 := km.ge _ (mem_opt.1 h2); have h3 := sg.h.size; omega)
          replace Ks := sideC.stay Ks hbg
          replace BB := Below.step BB hbg
          clear hbg hbx sg km
          replace hne := HW.some wg2
          refine wpM_more [6] 3 2 rfl (by kernel_rfl) (by kernel_rfl) (by kernel_rfl) (by kernel_rfl) ?_
          simp only [opsAt, List.getElem?_toArray, List.getElem?_cons_zero, List.getElem?_cons_succ]
          go_simp
          repeat (go_big_quiet_step (fail))
          refine wpQuiet_nil ?_
          refine wpM_only (i := 9) (by kernel_rfl) ?_
          refine mOp_call rfl (by go_simp) 65 _ #[.slice (some ⟨g6, 2, none⟩) 2 (c6 - 1)] (fun w => by go_simp) rfl ?_
          rintro _ ⟨sg, rfl⟩
          refine (KLc.out _ (Below.step BB sg.h)).mono ?_
          rintro e wg3 ⟨vc, xs, fc, rfl, kc, hbx⟩
          obtain ⟨pc, qc, rfl, -⟩ := kc.rd
          have hbg := Below.step sg.h hbx
          refine ⟨_, rfl, ⟨⟨wg3, hbx⟩, rfl⟩, ?_⟩
          have Kc := kc.low ((Below.step BB sg.h)).size
          have Dsd := (show ∀ k, k ∈ fs → k ∉ (Value.slice pc [((2 : Int), B), ((20 : Int), Fb)].length qc).ownBlock.toList ++ fc from fun k h h2 => by have h1 := (sideC.ins Ks k h).2; have h4 := (kc.ins k h2).1; have h3 := sg.h.size; omega)
          have Dmd := (show ∀ k, k ∈ (Value.slice pm (masterN S).length qm).ownBlock.toList → k ∉ (Value.slice pc [((2 : Int), B), ((20 : Int), Fb)].length qc).ownBlock.toList ++ fc from fun k h h2 => by have h1 := Km.lt _ (mem_opt.1 h); have h4 := (kc.ins k h2).1; have h3 := sg.h.size; omega)
          replace Ks := sideC.stay Ks hbg
          replace Km := Km.stay hbg
          replace BB := Below.step BB hbg
          clear hbg hbx sg kc
          replace hne := HW.some wg3
          refine wpM_more [10] 1 0 rfl (by kernel_rfl) (by kernel_rfl) (by kernel_rfl) (by kernel_rfl) ?_
          simp only [opsAt, List.getElem?_toArray, List.getElem?_cons_zero, List.getElem?_cons_succ]
          go_simp
          repeat (go_big_quiet_step (fail))
          refine wpQuiet_nil ?_
          refine wpM_end (by kernel_rfl) rfl (by kernel_rfl) (by decide) ?_
          rintro _ ⟨sz, rfl⟩
          simp only [List.drop_succ_cons, List.drop_zero]
          go_simp
          replace Ks := sideC.stay Ks sz.h
          replace Km := Km.stay sz.h
          replace Kc := Kc.stay sz.h
          replace BB := Below.step BB sz.h
          clear hne
          generalize sz.w = W at *
          clear sz
          revert Dmd
          revert Dsd
          revert Dsm
          revert Kc
          revert Km
          revert Ks
          revert BB
          revert qc
          revert pc
          revert fc
          revert xs
          revert qm
          revert pm
          revert qv
          revert pv
          revert qu
          revert pu
          revert fs
          revert W
          exact JN.out
        intro W fs pu qu pv qv pm qm xs fc pc qc BB Ks Km Kc Dsm Dsd Dmd
        have hVR : Hid (w.heap.size + 3 ≤ V.heap.size) := R.lt
        have KM := HOP.out.stay BB
        have KR : endResultC.own W (w.heap.size + 3) (0, (s, 2, 1, [m, ((2 : Int), B), ((20 : Int), Fb)], masterN S, zeroX), [((2 : Int), B), ((20 : Int), Fb)]) _ _ := endR_of (r := (0, (s, 2, 1, [m, ((2 : Int), B), ((20 : Int), Fb)], masterN S, zeroX), [((2 : Int), B), ((20 : Int), Fb)])) (end_of (e := (s, 2, 1, [m, ((2 : Int), B), ((20 : Int), Fb)], masterN S, zeroX)) (sideC.low Ks hVR.out) (⟨_, _, _, rfl, KM.low HZV.out, rfl⟩ : msgsC.own W (w.heap.size + 3) [m, ((2 : Int), B), ((20 : Int), Fb)] [.slice (some ⟨g6, 0, none⟩) 3 c6] _) (byt_own (Km.lower hVR.out)) (zeroX_own _ _) (fun k h h2 => by
            have h4 := (sideC.ins Ks k h).1
            have h5 := (HOP.out.ins k h2).2
            omega) Dsm (fun _ _ h => by cases h) (fun k h h2 => by
            have h4 := Km.ge k (mem_opt.1 h2)
            have h5 := (HOP.out.ins k h).2
            omega) (fun _ _ h => by cases h) (fun _ _ h => by cases h)) (⟨_, _, _, rfl, Kc.low hVR.out, rfl⟩ : msgsC.own W (w.heap.size + 3) [((2 : Int), B), ((20 : Int), Fb)] [.slice pc [((2 : Int), B), ((20 : Int), Fb)].length qc] _) (fun k h h2 => by
            simp only [List.nil_append, List.append_nil, List.mem_append] at h
            rcases h with h3 | h3 | h3
            · exact Dsd k h3 h2
            · have h4 := (Kc.ins k h2).1
              have h5 := (HOP.out.ins k (by simp only [List.mem_append]; exact h3)).2
              omega
            · exact Dmd k h3 h2)
        replace R := R.stay BB
        replace BW := Below.step BW BB
        have t0 := (R.cell 0).trans (show _ = some _ from rfl)
        have t1 := (R.cell 1).trans (show _ = some _ from rfl)
        have t2 := (R.cell 2).trans (show _ = some _ from rfl)
        have t3 := (R.cell 3).trans (show _ = some _ from rfl)
        have t4 := (R.cell 4).trans (show _ = some _ from rfl)
        have t5 := (R.cell 5).trans (show _ = some _ from rfl)
        have t6 := (R.cell 6).trans (show _ = some _ from rfl)
        have t7 := (R.cell 7).trans (show _ = some _ from rfl)
        have t8 := (R.cell 8).trans (show _ = some _ from rfl)
        have t9 := (R.cell 9).trans (show _ = some _ from rfl)
        have t10 := (R.cell 10).trans (show _ = some _ from rfl)
        have t11 := (R.cell 11).trans (show _ = some _ from rfl)
        have t12 := (R.cell 12).trans (show _ = some _ from rfl)
        have t13 := (R.cell 13).trans (show _ = some _ from rfl)
        have ft := R.frozen
        clear R BB c0 c1 c2 c3 KM Ks Kc Km Dsm Dsd Dmd
        go_wp2_with fail
        exact bodyPost_ret (v := .agg #[.int .i64 0, .int .i64 s.1, .slice pu s.2.1.length qu, .int .i64 s.2.2.1, .slice pv s.2.2.2.length qv, .int .i64 2, .int .i64 1, .slice (some ⟨g6, 0, none⟩) 3 c6, .slice pm (masterN S).length qm, .slice none 0 0, .slice none 0 0, .slice none 0 0, .slice none 0 0, .slice pc 2 qc]) (by simp [results, Tryz.results22, go_sem, t0, t1, t2, t3, t4, t5, t6, t7, t8, t9, t10, t11, t12, t13]) rfl (HQ.out _ _ ⟨[_, _, _, _, _, _, _, _, _, _, _, _, _, _], _, rfl, endResultC.low (endResultC.set (endResultC.set (endResultC.set (endResultC.set (endResultC.set (endResultC.set (endResultC.set (endResultC.set (endResultC.set (endResultC.set (endResultC.set (endResultC.set (endResultC.set (endResultC.set KR (show w.heap.size + 2 < w.heap.size + 3 by omega) _) (show w.heap.size + 2 < w.heap.size + 3 by omega) _) (show w.heap.size + 2 < w.heap.size + 3 by omega) _) (show w.heap.size + 2 < w.heap.size + 3 by omega) _) (show w.heap.size + 2 < w.heap.size + 3 by omega) _) (show w.heap.size + 2 < w.heap.size + 3 by omega) _) (show w.heap.size + 2 < w.heap.size + 3 by omega) _) (show w.heap.size + 2 < w.heap.size + 3 by omega) _) (show w.heap.size + 2 < w.heap.size + 3 by omega) _) (show w.heap.size + 2 < w.heap.size + 3 by omega) _) (show w.heap.size + 2 < w.heap.size + 3 by omega) _) (show w.heap.size + 2 < w.heap.size + 3 by omega) _) (show w.heap.size + 2 < w.heap.size + 3 by omega) _) (show w.heap.size + 2 < w.heap.size + 3 by omega) _) (by omega), ((((((((((((((BW.setCell (show w.heap.size ≤ w.heap.size + 2 by omega) _).setCell (show w.heap.size ≤ w.heap.size + 2 by omega) _).setCell (show w.heap.size ≤ w.heap.size + 2 by omega) _).setCell (show w.heap.size ≤ w.heap.size + 2 by omega) _).setCell (show w.heap.size ≤ w.heap.size + 2 by omega) _).setCell (show w.heap.size ≤ w.heap.size + 2 by omega) _).setCell (show w.heap.size ≤ w.heap.size + 2 by omega) _).setCell (show w.heap.size ≤ w.heap.size + 2 by omega) _).setCell (show w.heap.size ≤ w.heap.size + 2 by omega) _).setCell (show w.heap.size ≤ w.heap.size + 2 by omega) _).setCell (show w.heap.size ≤ w.heap.size + 2 by omega) _).setCell (show w.heap.size ≤ w.heap.size + 2 by omega) _).setCell (show w.heap.size ≤ w.heap.size + 2 by omega) _).setCell (show w.heap.size ≤ w.heap.size + 2 by omega) _)⟩)
      · cases ee : decide (h.2.2 = s.2.2.1)
        · rw [ez] at dz
          rw [ee] at de
          rw [ez, ee] at HB3
          have e1 : mode = 1 := by rw [HMO.out, modeN, HB3.out]; rfl
          have e2 : psk = 0 := by rw [HPS.out, pskN2, HB3.out]; rfl
          clear ez ee HB3 HPS HMO
          subst e1 e2
          go_wp2_with fail
          refine (KSec.out _ BW ⟨A.cell 0, A.cell 1, A.cell 2, A.cell 3⟩).mono ?_
          rintro e w2 ⟨uS, rfl, kS, hb2⟩
          obtain ⟨ps, qs, rfl, -⟩ := kS.rd
          replace A := A.stay hb2
          replace N := N.stay hb2
          replace R := R.stay hb2
          replace BW := Below.step BW hb2
          have hz2 : Hid (w.heap.size + 3 ≤ w1.heap.size) := Nat.succ_le_of_lt HRlt.out
          replace kS := kS.lower (show w.heap.size + 3 ≤ _ by have h := hz2.out; rw [size_alloc]; omega)
          clear hb2 X x2 x3 a0 a2
          go_wp2_with fail
          obtain ⟨V, HV⟩ : ∃ V, Hid (V = w2) := ⟨_, rfl⟩
          rw [← HV.out] at A N R BW kS ⊢
          clear HV
          have HAS : Hid (AtS V w.heap.size 0 p q p2 q2 s) := ⟨A.cell 0, A.cell 1, A.cell 2, A.cell 3⟩
          have m0 := (N.cell 0).trans (show _ = some _ from rfl)
          have m1 := (N.cell 1).trans (show _ = some _ from rfl)
          apply share
          case h =>
            intro JN
            have BB := Below.refl V.heap.size V
            have hne := HW.some V
            have g0 := HW.at (m0)
            have g1 := HW.at (m1)
            refine wp_region_pick [0, 1, 2, 3, 6] 9 4 1 rfl rfl rfl (by kernel_rfl) (by kernel_rfl) (by kernel_rfl) (by kernel_rfl) ?_
            simp only [opsAt, List.getElem?_toArray, List.getElem?_cons_zero, List.getElem?_cons_succ]
            repeat (go_big_quiet_step (fail))
            refine wpQuiet_nil ?_
            clear g0 g1
            refine wpM_only (i := 4) (by kernel_rfl) ?_
            refine mOp_call rfl (by go_simp) 77 _ #[.slice p3 m.2.length q3] (fun w => by go_simp) rfl ?_
            rintro _ ⟨sg, rfl⟩
            refine (l1Copy_c p3 q3 m.2 _ (HRM.out.keep (Below.step BW (Below.step BB sg.h))) (by have := H160.out; omega)).mono ?_
            rintro e wg1 ⟨ua, rfl, ka, hbx⟩
            obtain ⟨pa, qa, rfl, -⟩ := ka.rd
            have hbg := Below.step sg.h hbx
            refine ⟨_, rfl, ⟨⟨wg1, hbx⟩, rfl⟩, ?_⟩
            have Ka := ka.lower ((Below.step BB sg.h)).size
            replace BB := Below.step BB hbg
            clear hbg hbx sg ka
            replace hne := HW.some wg1
            refine wpM_more [5] 3 2 rfl (by kernel_rfl) (by kernel_rfl) (by kernel_rfl) (by kernel_rfl) ?_
            simp only [opsAt, List.getElem?_toArray, List.getElem?_cons_zero, List.getElem?_cons_succ]
            go_simp
            repeat (go_big_quiet_step (fail))
            refine wpQuiet_nil ?_
            refine wpM_only (i := 7) (by kernel_rfl) ?_
            refine mOp_call rfl (by go_simp) 84 _ #[.pointer (some ⟨w.heap.size, 0, none⟩), .int .i64 2, .int .i64 0] (fun w => by go_simp) rfl ?_
            rintro _ ⟨sg, rfl⟩
            refine (KH.out _ (Below.step BW (Below.step BB sg.h)) (HAS.out.keep (Below.step BB sg.h))).mono ?_
            rintro e wg2 ⟨ub, rfl, kb, hbx⟩
            obtain ⟨pb, qb, rfl, -⟩ := kb.rd
            have hbg := Below.step sg.h hbx
            refine ⟨_, rfl, ⟨⟨wg2, hbx⟩, rfl⟩, ?_⟩
            have Kb := kb.lower ((Below.step BB sg.h)).size
            have Dab := (show ∀ k, k ∈ (Value.slice pa m.2.length qa).ownBlock.toList → k ∉ (Value.slice pb B.length qb).ownBlock.toList from fun k h h2 => by have h1 := Ka.lt _ (mem_opt.1 h); have h4 := kb.ge _ (mem_opt.1 h2); have h3 := sg.h.size; omega)
            replace Ka := Ka.stay hbg
            replace BB := Below.step BB hbg
            clear hbg hbx sg kb
            replace hne := HW.some wg2
            refine wpM_only (i := 8) (by kernel_rfl) ?_
            refine mOp_make rfl (by go_simp) ?_
            rintro _ ⟨sg, rfl⟩
            refine ⟨.slice (some ⟨sg.w.heap.size, 0, none⟩) 2 2, sg.w.alloc (.cells #[.int .i64 m.1, .slice pa m.2.length qa, .int .i64 2, .slice pb B.length qb] 46), by go_simp, ⟨⟨_, alloc_below _ _⟩, rfl⟩, ?_⟩
            have hbg := Below.step sg.h (alloc_below sg.w (.cells #[.int .i64 m.1, .slice pa m.2.length qa, .int .i64 2, .slice pb B.length qb] 46))
            have Kl := Arr.new sg.w [.int .i64 m.1, .slice pa m.2.length qa, .int .i64 2, .slice pb B.length qb] 46
            have Gl := ((Below.step BB sg.h)).size
            have Dal := (show sg.w.heap.size ∉ (Value.slice pa m.2.length qa).ownBlock.toList from fun h => by have h1 := Ka.lt _ (mem_opt.1 h); have h3 := sg.h.size; omega)
            have Dbl := (show sg.w.heap.size ∉ (Value.slice pb B.length qb).ownBlock.toList from fun h => by have h1 := Kb.lt _ (mem_opt.1 h); have h3 := sg.h.size; omega)
            replace Ka := Ka.stay hbg
            replace Kb := Kb.stay hbg
            replace BB := Below.step BB hbg
            clear hbg
            replace hne := HW.some (sg.w.alloc (.cells #[.int .i64 m.1, .slice pa m.2.length qa, .int .i64 2, .slice pb B.length qb] 46))
            generalize hW : (sg.w.alloc (.cells #[.int .i64 m.1, .slice pa m.2.length qa, .int .i64 2, .slice pb B.length qb] 46)) = wg3 at *
            clear hW
            generalize sg.w.heap.size = gl at *
            clear sg
            refine wpM_end (by kernel_rfl) rfl (by kernel_rfl) (by decide) ?_
            rintro _ ⟨sz, rfl⟩
            simp only [List.drop_succ_cons, List.drop_zero]
            go_simp
            replace Ka := Ka.stay sz.h
            replace Kb := Kb.stay sz.h
            replace Kl := Kl.stay sz.h
            replace Gl := show V.heap.size ≤ gl from Gl
            replace BB := Below.step BB sz.h
            clear hne
            generalize sz.w = W at *
            clear sz
            revert Dbl
            revert Dal
            revert Dab
            revert Gl
            revert Kl
            revert Kb
            revert Ka
            revert BB
            revert gl
            revert qb
            revert pb
            revert qa
            revert pa
            revert W
            exact JN.out
          intro W pa qa pb qb gl BB Ka Kb Kl Gl Dab Dal Dbl
          have OL := ownL_two Kl Gl Ka Kb Dab Dal Dbl
          have HSlt : Hid (∀ k, (Value.slice ps S.length qs).ownBlock = some k → k < V.heap.size) := fun k hk => kS.lt k hk
          have HVR : Hid (w.heap.size + 3 ≤ V.heap.size) := R.lt
          replace kS := kS.stay BB
          replace A := A.stay BB
          replace R := R.stay BB
          replace BW := Below.step BW BB
          have KF := l11Finished_c S sHsB [m, (2, B)] ps (some ⟨gl, 0, none⟩) qs 2 W (Rd.own kS) (RdL.own OL) HS32.out (by decide) HP3.out (by simp)
          rw [← sHs_str, show (finM S sHsB [m, (2, B)]).2 = Fb by rw [← HFS.out, HF.out]] at KF
          have HVW : Hid (V.heap.size ≤ W.heap.size) := BB.size
          clear Ka Kb Kl Dab Dal Dbl N m0 m1 BB
          go_wp2_with fail
          refine KF.mono ?_
          rintro e w3 ⟨uf, rfl, kf, hb3⟩
          obtain ⟨pf, qf, rfl, -⟩ := kf.rd
          have hl3 := alloc_below w3 (.cells #[.int .i64 20, .slice pf Fb.length qf] 46)
          have hnew : ∀ j u, [Value.int .i64 20, .slice pf Fb.length qf][j]? = some u → (w3.alloc (.cells #[.int .i64 20, .slice pf Fb.length qf] 46)).cell? ((⟨w3.heap.size, 0, none⟩ : Addr).add j) = some u := fun j u hj => (Arr.new w3 [.int .i64 20, .slice pf Fb.length qf] 46).cells j u hj
          have hb4 := Below.step hb3 hl3
          have OL4 := OL.stay hb4
          have HFge : Hid (∀ k, (Value.slice pf Fb.length qf).ownBlock = some k → W.heap.size ≤ k) := fun k hk => kf.ge k hk
          replace kf := (kf.lower HVW.out).stay hl3
          have HOlt : Hid (∀ k, k ∈ (Value.slice (some ⟨gl, 0, none⟩) 2 2).ownBlock.toList ++ ((Value.slice pa m.2.length qa).ownBlock.toList ++ (Value.slice pb B.length qb).ownBlock.toList) → k < W.heap.size) := fun k hk => (OL.ins k hk).2
          replace kS := kS.stay hb4
          replace A := A.stay hb4
          replace R := R.stay hb4
          replace BW := Below.step BW hb4
          have HV4 : Hid (V.heap.size ≤ (w3.alloc (.cells #[.int .i64 20, .slice pf Fb.length qf] 46)).heap.size) := Nat.le_trans HVW.out hb4.size
          have hrow4 : Hid ((w3.alloc (.cells #[.int .i64 20, .slice pf Fb.length qf] 46)).ownsRow V.heap.size 46 2 (.slice (some ⟨gl, 0, none⟩) 2 2) 2 [.int .i64 m.1, .slice pa m.2.length qa, .int .i64 2, .slice pb B.length qb]) := OL4.row
          obtain ⟨i0, hi, hz0, hz1, hz2'⟩ := info_parts infoMsg
          clear OL KF hb3 hl3 hb4
          go_wp2_with (at_builtin; refine wpList_append_lies _ rfl (.tmp 52) (.tmp 56) 28 rfl V.heap.size 46 i0 (.agg #[.int .i64 0, .slice none 0 0]) 2 32 Tryz.underlying28 hi hz0 hz1 hz2' rfl (by decide) (.slice (some ⟨gl, 0, none⟩) 2 2) 2 [.int .i64 m.1, .slice pa m.2.length qa, .int .i64 2, .slice pb B.length qb] rfl hrow4.out ⟨w3.heap.size, 0, none⟩ 1 1 [.int .i64 20, .slice pf Fb.length qf] rfl rfl hnew (by intro u hu; simp at hu; rcases hu with rfl | rfl <;> rfl) (by decide) (by unfold maxLen; omega) (by omega) HV4.out _ rfl ?_; intro g6 c6 w6 hown6 hgrow6 hat6 hlt6)
          have OP := OL4.push (a := ((20 : Int), Fb)) (msg_own_mk (a := ((20 : Int), Fb)) kf) (fun j hj hj2 => by
            have h1 := HFge.out j (mem_opt.1 hj)
            have h2 := HOlt.out j hj2
            omega) (k := 3) (v' := .slice (some ⟨g6, 0, none⟩) 3 c6) (g := g6) hown6 rfl hgrow6 rfl hat6
          have hgl : Hid (V.heap.size ≤ gl) := Gl
          replace BW := BW.grown hgrow6 BW.size (fun k hk => by have e : gl = k := Option.some.inj hk; have := hgl.out; have := HVR.out; omega)
          replace A := A.other hgrow6 (fun e => by have e' : gl = w.heap.size := Option.some.inj e; have := hgl.out; have := HVR.out; omega)
          replace R := R.other hgrow6 (fun e => by have e' : gl = w.heap.size + 1 + 1 := Option.some.inj e; have := hgl.out; have := HVR.out; omega)
          replace kS := kS.other hgrow6 (fun k hk e => by have e' : gl = k := Option.some.inj e; have h1 := HSlt.out _ hk; have h2 := hgl.out; omega)
          have h3c : 3 ≤ c6 := (RdL.own OP).1
          have hc6 : c6 ≤ 2 ^ 63 - 1 := (RdL.own OP).2.1
          have RLd : RdL msgC w6 (some ⟨g6, 2, none⟩) (c6 - 1) [((2 : Int), B), ((20 : Int), Fb)] := by
            have h := (RdL.own OP).drop 1 (by simp)
            rw [show msgC.n = 2 from rfl] at h
            exact h
          have HZV : Hid (w.heap.size + 3 ≤ V.heap.size) := HVR.out
          clear hown6 hgrow6 hat6 hnew hrow4 kf OL4 Gl
          obtain ⟨OB, HOB⟩ : ∃ x, Hid (x = V.heap.size) := ⟨_, rfl⟩
          rw [← HOB.out] at OP HZV
          clear HVR HVW HV4 HSlt hgl HOlt HOB HAS hz2
          clear V
          obtain ⟨V, HV⟩ : ∃ V, Hid (V = w6) := ⟨_, rfl⟩
          rw [← HV.out] at OP BW A R kS RLd ⊢
          clear HV
          have HRS : Hid (Rd V ps qs S) := Rd.own kS
          have KLc : Hid (∀ W, Below V.heap.size V W → Calls Tryz.prog 65 #[.slice (some ⟨g6, 2, none⟩) 2 (c6 - 1)] W fun e w' => ∃ v xs fp, e = .returned v ∧ OwnL 46 msgC w' W.heap.size v [((2 : Int), B), ((20 : Int), Fb)] xs fp ∧ Below W.heap.size W w') := fun W hW => l6Copy_c [((2 : Int), B), ((20 : Int), Fb)] _ _ W (RLd.keep hW) HLB.out
          have c0 := (A.cell 0).trans (show _ = some _ from rfl)
          have c1 := (A.cell 1).trans (show _ = some _ from rfl)
          have c2 := (A.cell 2).trans (show _ = some _ from rfl)
          have c3 := (A.cell 3).trans (show _ = some _ from rfl)
          have HOP : Hid (OwnL 46 msgC V OB (.slice (some ⟨g6, 0, none⟩) 3 c6) [m, ((2 : Int), B), ((20 : Int), Fb)] _ _) := OP
          clear OP kS A RLd
          apply share
          case h =>
            intro JN
            have BB := Below.refl V.heap.size V
            have hne := HW.some V
            have g0 := HW.at (c0)
            have g1 := HW.at (c1)
            have g2 := HW.at (c2)
            have g3 := HW.at (c3)
            refine wp_region_pick [0, 2, 3, 4, 7, 8] 11 5 1 rfl rfl rfl (by kernel_rfl) (by kernel_rfl) (by kernel_rfl) (by kernel_rfl) ?_
            simp only [opsAt, List.getElem?_toArray, List.getElem?_cons_zero, List.getElem?_cons_succ]
            repeat (go_big_quiet_step (fail))
            refine wpQuiet_nil ?_
            clear g0 g1 g2 g3
            refine wpM_only (i := 1) (by kernel_rfl) ?_
            refine mOp_call rfl (by go_simp) 85 _ #[.agg #[.int .i64 s.1, .slice p s.2.1.length q, .int .i64 s.2.2.1, .slice p2 s.2.2.2.length q2]] (fun w => by go_simp) rfl ?_
            rintro _ ⟨sg, rfl⟩
            refine (KC.out _ (Below.step BW (Below.step BB sg.h))).mono ?_
            rintro e wg1 ⟨us, vs, fs, rfl, ks, hbx⟩
            obtain ⟨pu, qu, pv, qv, es, -, -⟩ := side_rep (sideC.toRep ks)
            simp only [List.cons.injEq, and_true, true_and] at es
            obtain ⟨rfl, rfl⟩ := es
            have hbg := Below.step sg.h hbx
            refine ⟨_, rfl, ⟨⟨wg1, hbx⟩, rfl⟩, ?_⟩
            have Ks := sideC.low ks ((Below.step BB sg.h)).size
            replace BB := Below.step BB hbg
            clear hbg hbx sg ks
            replace hne := HW.some wg1
            refine wpM_only (i := 5) (by kernel_rfl) ?_
            refine mOp_call rfl (by go_simp) 71 _ #[.slice ps S.length qs] (fun w => by go_simp) rfl ?_
            rintro _ ⟨sg, rfl⟩
            refine (l7Master_c ps qs S _ (HRS.out.keep (Below.step BB sg.h)) (by have := HS32.out; omega)).mono ?_
            rintro e wg2 ⟨um, rfl, km, hbx⟩
            obtain ⟨pm, qm, rfl, -⟩ := km.rd
            have hbg := Below.step sg.h hbx
            refine ⟨_, rfl, ⟨⟨wg2, hbx⟩, rfl⟩, ?_⟩
            have Km := km.lower ((Below.step BB sg.h)).size
            have Dsm := (show ∀ k, k ∈ fs → k ∉ (Value.slice pm (masterN S).length qm).ownBlock.toList from fun k h h2 => by have h1 := (sideC.ins Ks k h).2; have h4 := km.ge _ (mem_opt.1 h2); have h3 := sg.h.size; omega)
            replace Ks := sideC.stay Ks hbg
            replace BB := Below.step BB hbg
            clear hbg hbx sg km
            replace hne := HW.some wg2
            refine wpM_more [6] 3 2 rfl (by kernel_rfl) (by kernel_rfl) (by kernel_rfl) (by kernel_rfl) ?_
            simp only [opsAt, List.getElem?_toArray, List.getElem?_cons_zero, List.getElem?_cons_succ]
            go_simp
            repeat (go_big_quiet_step (fail))
            refine wpQuiet_nil ?_
            refine wpM_only (i := 9) (by kernel_rfl) ?_
            refine mOp_call rfl (by go_simp) 65 _ #[.slice (some ⟨g6, 2, none⟩) 2 (c6 - 1)] (fun w => by go_simp) rfl ?_
            rintro _ ⟨sg, rfl⟩
            refine (KLc.out _ (Below.step BB sg.h)).mono ?_
            rintro e wg3 ⟨vc, xs, fc, rfl, kc, hbx⟩
            obtain ⟨pc, qc, rfl, -⟩ := kc.rd
            have hbg := Below.step sg.h hbx
            refine ⟨_, rfl, ⟨⟨wg3, hbx⟩, rfl⟩, ?_⟩
            have Kc := kc.low ((Below.step BB sg.h)).size
            have Dsd := (show ∀ k, k ∈ fs → k ∉ (Value.slice pc [((2 : Int), B), ((20 : Int), Fb)].length qc).ownBlock.toList ++ fc from fun k h h2 => by have h1 := (sideC.ins Ks k h).2; have h4 := (kc.ins k h2).1; have h3 := sg.h.size; omega)
            have Dmd := (show ∀ k, k ∈ (Value.slice pm (masterN S).length qm).ownBlock.toList → k ∉ (Value.slice pc [((2 : Int), B), ((20 : Int), Fb)].length qc).ownBlock.toList ++ fc from fun k h h2 => by have h1 := Km.lt _ (mem_opt.1 h); have h4 := (kc.ins k h2).1; have h3 := sg.h.size; omega)
            replace Ks := sideC.stay Ks hbg
            replace Km := Km.stay hbg
            replace BB := Below.step BB hbg
            clear hbg hbx sg kc
            replace hne := HW.some wg3
            refine wpM_more [10] 1 0 rfl (by kernel_rfl) (by kernel_rfl) (by kernel_rfl) (by kernel_rfl) ?_
            simp only [opsAt, List.getElem?_toArray, List.getElem?_cons_zero, List.getElem?_cons_succ]
            go_simp
            repeat (go_big_quiet_step (fail))
            refine wpQuiet_nil ?_
            refine wpM_end (by kernel_rfl) rfl (by kernel_rfl) (by decide) ?_
            rintro _ ⟨sz, rfl⟩
            simp only [List.drop_succ_cons, List.drop_zero]
            go_simp
            replace Ks := sideC.stay Ks sz.h
            replace Km := Km.stay sz.h
            replace Kc := Kc.stay sz.h
            replace BB := Below.step BB sz.h
            clear hne
            generalize sz.w = W at *
            clear sz
            revert Dmd
            revert Dsd
            revert Dsm
            revert Kc
            revert Km
            revert Ks
            revert BB
            revert qc
            revert pc
            revert fc
            revert xs
            revert qm
            revert pm
            revert qv
            revert pv
            revert qu
            revert pu
            revert fs
            revert W
            exact JN.out
          intro W fs pu qu pv qv pm qm xs fc pc qc BB Ks Km Kc Dsm Dsd Dmd
          have hVR : Hid (w.heap.size + 3 ≤ V.heap.size) := R.lt
          have KM := HOP.out.stay BB
          have KR : endResultC.own W (w.heap.size + 3) (0, (s, 2, 1, [m, ((2 : Int), B), ((20 : Int), Fb)], masterN S, zeroX), [((2 : Int), B), ((20 : Int), Fb)]) _ _ := endR_of (r := (0, (s, 2, 1, [m, ((2 : Int), B), ((20 : Int), Fb)], masterN S, zeroX), [((2 : Int), B), ((20 : Int), Fb)])) (end_of (e := (s, 2, 1, [m, ((2 : Int), B), ((20 : Int), Fb)], masterN S, zeroX)) (sideC.low Ks hVR.out) (⟨_, _, _, rfl, KM.low HZV.out, rfl⟩ : msgsC.own W (w.heap.size + 3) [m, ((2 : Int), B), ((20 : Int), Fb)] [.slice (some ⟨g6, 0, none⟩) 3 c6] _) (byt_own (Km.lower hVR.out)) (zeroX_own _ _) (fun k h h2 => by
              have h4 := (sideC.ins Ks k h).1
              have h5 := (HOP.out.ins k h2).2
              omega) Dsm (fun _ _ h => by cases h) (fun k h h2 => by
              have h4 := Km.ge k (mem_opt.1 h2)
              have h5 := (HOP.out.ins k h).2
              omega) (fun _ _ h => by cases h) (fun _ _ h => by cases h)) (⟨_, _, _, rfl, Kc.low hVR.out, rfl⟩ : msgsC.own W (w.heap.size + 3) [((2 : Int), B), ((20 : Int), Fb)] [.slice pc [((2 : Int), B), ((20 : Int), Fb)].length qc] _) (fun k h h2 => by
              simp only [List.nil_append, List.append_nil, List.mem_append] at h
              rcases h with h3 | h3 | h3
              · exact Dsd k h3 h2
              · have h4 := (Kc.ins k h2).1
                have h5 := (HOP.out.ins k (by simp only [List.mem_append]; exact h3)).2
                omega
              · exact Dmd k h3 h2)
          replace R := R.stay BB
          replace BW := Below.step BW BB
          have t0 := (R.cell 0).trans (show _ = some _ from rfl)
          have t1 := (R.cell 1).trans (show _ = some _ from rfl)
          have t2 := (R.cell 2).trans (show _ = some _ from rfl)
          have t3 := (R.cell 3).trans (show _ = some _ from rfl)
          have t4 := (R.cell 4).trans (show _ = some _ from rfl)
          have t5 := (R.cell 5).trans (show _ = some _ from rfl)
          have t6 := (R.cell 6).trans (show _ = some _ from rfl)
          have t7 := (R.cell 7).trans (show _ = some _ from rfl)
          have t8 := (R.cell 8).trans (show _ = some _ from rfl)
          have t9 := (R.cell 9).trans (show _ = some _ from rfl)
          have t10 := (R.cell 10).trans (show _ = some _ from rfl)
          have t11 := (R.cell 11).trans (show _ = some _ from rfl)
          have t12 := (R.cell 12).trans (show _ = some _ from rfl)
          have t13 := (R.cell 13).trans (show _ = some _ from rfl)
          have ft := R.frozen
          clear R BB c0 c1 c2 c3 KM Ks Kc Km Dsm Dsd Dmd
          go_wp2_with fail
          exact bodyPost_ret (v := .agg #[.int .i64 0, .int .i64 s.1, .slice pu s.2.1.length qu, .int .i64 s.2.2.1, .slice pv s.2.2.2.length qv, .int .i64 2, .int .i64 1, .slice (some ⟨g6, 0, none⟩) 3 c6, .slice pm (masterN S).length qm, .slice none 0 0, .slice none 0 0, .slice none 0 0, .slice none 0 0, .slice pc 2 qc]) (by simp [results, Tryz.results22, go_sem, t0, t1, t2, t3, t4, t5, t6, t7, t8, t9, t10, t11, t12, t13]) rfl (HQ.out _ _ ⟨[_, _, _, _, _, _, _, _, _, _, _, _, _, _], _, rfl, endResultC.low (endResultC.set (endResultC.set (endResultC.set (endResultC.set (endResultC.set (endResultC.set (endResultC.set (endResultC.set (endResultC.set (endResultC.set (endResultC.set (endResultC.set (endResultC.set (endResultC.set KR (show w.heap.size + 2 < w.heap.size + 3 by omega) _) (show w.heap.size + 2 < w.heap.size + 3 by omega) _) (show w.heap.size + 2 < w.heap.size + 3 by omega) _) (show w.heap.size + 2 < w.heap.size + 3 by omega) _) (show w.heap.size + 2 < w.heap.size + 3 by omega) _) (show w.heap.size + 2 < w.heap.size + 3 by omega) _) (show w.heap.size + 2 < w.heap.size + 3 by omega) _) (show w.heap.size + 2 < w.heap.size + 3 by omega) _) (show w.heap.size + 2 < w.heap.size + 3 by omega) _) (show w.heap.size + 2 < w.heap.size + 3 by omega) _) (show w.heap.size + 2 < w.heap.size + 3 by omega) _) (show w.heap.size + 2 < w.heap.size + 3 by omega) _) (show w.heap.size + 2 < w.heap.size + 3 by omega) _) (show w.heap.size + 2 < w.heap.size + 3 by omega) _) (by omega), ((((((((((((((BW.setCell (show w.heap.size ≤ w.heap.size + 2 by omega) _).setCell (show w.heap.size ≤ w.heap.size + 2 by omega) _).setCell (show w.heap.size ≤ w.heap.size + 2 by omega) _).setCell (show w.heap.size ≤ w.heap.size + 2 by omega) _).setCell (show w.heap.size ≤ w.heap.size + 2 by omega) _).setCell (show w.heap.size ≤ w.heap.size + 2 by omega) _).setCell (show w.heap.size ≤ w.heap.size + 2 by omega) _).setCell (show w.heap.size ≤ w.heap.size + 2 by omega) _).setCell (show w.heap.size ≤ w.heap.size + 2 by omega) _).setCell (show w.heap.size ≤ w.heap.size + 2 by omega) _).setCell (show w.heap.size ≤ w.heap.size + 2 by omega) _).setCell (show w.heap.size ≤ w.heap.size + 2 by omega) _).setCell (show w.heap.size ≤ w.heap.size + 2 by omega) _).setCell (show w.heap.size ≤ w.heap.size + 2 by omega) _)⟩)
        · rw [ez] at dz
          rw [ee] at de
          rw [ez, ee] at HB3
          have e1 : mode = 2 := by rw [HMO.out, modeN, HB3.out]; rfl
          have e2 : psk = s.2.2.1 := by rw [HPS.out, pskN2, HB3.out]; rfl
          clear ez ee HB3 HPS HMO
          subst e1 e2
          go_wp2_with fail
          refine (KSec.out _ BW ⟨A.cell 0, A.cell 1, A.cell 2, A.cell 3⟩).mono ?_
          rintro e w2 ⟨uS, rfl, kS, hb2⟩
          obtain ⟨ps, qs, rfl, -⟩ := kS.rd
          replace A := A.stay hb2
          replace N := N.stay hb2
          replace R := R.stay hb2
          replace BW := Below.step BW hb2
          have hz2 : Hid (w.heap.size + 3 ≤ w1.heap.size) := Nat.succ_le_of_lt HRlt.out
          replace kS := kS.lower (show w.heap.size + 3 ≤ _ by have h := hz2.out; rw [size_alloc]; omega)
          clear hb2 X x2 x3 a0 a2
          go_wp2_with fail
          obtain ⟨V, HV⟩ : ∃ V, Hid (V = w2) := ⟨_, rfl⟩
          rw [← HV.out] at A N R BW kS ⊢
          clear HV
          have HAS : Hid (AtS V w.heap.size 0 p q p2 q2 s) := ⟨A.cell 0, A.cell 1, A.cell 2, A.cell 3⟩
          have m0 := (N.cell 0).trans (show _ = some _ from rfl)
          have m1 := (N.cell 1).trans (show _ = some _ from rfl)
          apply share
          case h =>
            intro JN
            have BB := Below.refl V.heap.size V
            have hne := HW.some V
            have g0 := HW.at (m0)
            have g1 := HW.at (m1)
            refine wp_region_pick [0, 1, 2, 3, 6] 9 4 1 rfl rfl rfl (by kernel_rfl) (by kernel_rfl) (by kernel_rfl) (by kernel_rfl) ?_
            simp only [opsAt, List.getElem?_toArray, List.getElem?_cons_zero, List.getElem?_cons_succ]
            repeat (go_big_quiet_step (fail))
            refine wpQuiet_nil ?_
            clear g0 g1
            refine wpM_only (i := 4) (by kernel_rfl) ?_
            refine mOp_call rfl (by go_simp) 77 _ #[.slice p3 m.2.length q3] (fun w => by go_simp) rfl ?_
            rintro _ ⟨sg, rfl⟩
            refine (l1Copy_c p3 q3 m.2 _ (HRM.out.keep (Below.step BW (Below.step BB sg.h))) (by have := H160.out; omega)).mono ?_
            rintro e wg1 ⟨ua, rfl, ka, hbx⟩
            obtain ⟨pa, qa, rfl, -⟩ := ka.rd
            have hbg := Below.step sg.h hbx
            refine ⟨_, rfl, ⟨⟨wg1, hbx⟩, rfl⟩, ?_⟩
            have Ka := ka.lower ((Below.step BB sg.h)).size
            replace BB := Below.step BB hbg
            clear hbg hbx sg ka
            replace hne := HW.some wg1
            refine wpM_more [5] 3 2 rfl (by kernel_rfl) (by kernel_rfl) (by kernel_rfl) (by kernel_rfl) ?_
            simp only [opsAt, List.getElem?_toArray, List.getElem?_cons_zero, List.getElem?_cons_succ]
            go_simp
            repeat (go_big_quiet_step (fail))
            refine wpQuiet_nil ?_
            refine wpM_only (i := 7) (by kernel_rfl) ?_
            refine mOp_call rfl (by go_simp) 84 _ #[.pointer (some ⟨w.heap.size, 0, none⟩), .int .i64 2, .int .i64 s.2.2.1] (fun w => by go_simp) rfl ?_
            rintro _ ⟨sg, rfl⟩
            refine (KH.out _ (Below.step BW (Below.step BB sg.h)) (HAS.out.keep (Below.step BB sg.h))).mono ?_
            rintro e wg2 ⟨ub, rfl, kb, hbx⟩
            obtain ⟨pb, qb, rfl, -⟩ := kb.rd
            have hbg := Below.step sg.h hbx
            refine ⟨_, rfl, ⟨⟨wg2, hbx⟩, rfl⟩, ?_⟩
            have Kb := kb.lower ((Below.step BB sg.h)).size
            have Dab := (show ∀ k, k ∈ (Value.slice pa m.2.length qa).ownBlock.toList → k ∉ (Value.slice pb B.length qb).ownBlock.toList from fun k h h2 => by have h1 := Ka.lt _ (mem_opt.1 h); have h4 := kb.ge _ (mem_opt.1 h2); have h3 := sg.h.size; omega)
            replace Ka := Ka.stay hbg
            replace BB := Below.step BB hbg
            clear hbg hbx sg kb
            replace hne := HW.some wg2
            refine wpM_only (i := 8) (by kernel_rfl) ?_
            refine mOp_make rfl (by go_simp) ?_
            rintro _ ⟨sg, rfl⟩
            refine ⟨.slice (some ⟨sg.w.heap.size, 0, none⟩) 2 2, sg.w.alloc (.cells #[.int .i64 m.1, .slice pa m.2.length qa, .int .i64 2, .slice pb B.length qb] 46), by go_simp, ⟨⟨_, alloc_below _ _⟩, rfl⟩, ?_⟩
            have hbg := Below.step sg.h (alloc_below sg.w (.cells #[.int .i64 m.1, .slice pa m.2.length qa, .int .i64 2, .slice pb B.length qb] 46))
            have Kl := Arr.new sg.w [.int .i64 m.1, .slice pa m.2.length qa, .int .i64 2, .slice pb B.length qb] 46
            have Gl := ((Below.step BB sg.h)).size
            have Dal := (show sg.w.heap.size ∉ (Value.slice pa m.2.length qa).ownBlock.toList from fun h => by have h1 := Ka.lt _ (mem_opt.1 h); have h3 := sg.h.size; omega)
            have Dbl := (show sg.w.heap.size ∉ (Value.slice pb B.length qb).ownBlock.toList from fun h => by have h1 := Kb.lt _ (mem_opt.1 h); have h3 := sg.h.size; omega)
            replace Ka := Ka.stay hbg
            replace Kb := Kb.stay hbg
            replace BB := Below.step BB hbg
            clear hbg
            replace hne := HW.some (sg.w.alloc (.cells #[.int .i64 m.1, .slice pa m.2.length qa, .int .i64 2, .slice pb B.length qb] 46))
            generalize hW : (sg.w.alloc (.cells #[.int .i64 m.1, .slice pa m.2.length qa, .int .i64 2, .slice pb B.length qb] 46)) = wg3 at *
            clear hW
            generalize sg.w.heap.size = gl at *
            clear sg
            refine wpM_end (by kernel_rfl) rfl (by kernel_rfl) (by decide) ?_
            rintro _ ⟨sz, rfl⟩
            simp only [List.drop_succ_cons, List.drop_zero]
            go_simp
            replace Ka := Ka.stay sz.h
            replace Kb := Kb.stay sz.h
            replace Kl := Kl.stay sz.h
            replace Gl := show V.heap.size ≤ gl from Gl
            replace BB := Below.step BB sz.h
            clear hne
            generalize sz.w = W at *
            clear sz
            revert Dbl
            revert Dal
            revert Dab
            revert Gl
            revert Kl
            revert Kb
            revert Ka
            revert BB
            revert gl
            revert qb
            revert pb
            revert qa
            revert pa
            revert W
            exact JN.out
          intro W pa qa pb qb gl BB Ka Kb Kl Gl Dab Dal Dbl
          have OL := ownL_two Kl Gl Ka Kb Dab Dal Dbl
          have HSlt : Hid (∀ k, (Value.slice ps S.length qs).ownBlock = some k → k < V.heap.size) := fun k hk => kS.lt k hk
          have HVR : Hid (w.heap.size + 3 ≤ V.heap.size) := R.lt
          replace kS := kS.stay BB
          replace A := A.stay BB
          replace R := R.stay BB
          replace BW := Below.step BW BB
          have KF := l11Finished_c S sHsB [m, (2, B)] ps (some ⟨gl, 0, none⟩) qs 2 W (Rd.own kS) (RdL.own OL) HS32.out (by decide) HP3.out (by simp)
          rw [← sHs_str, show (finM S sHsB [m, (2, B)]).2 = Fb by rw [← HFS.out, HF.out]] at KF
          have HVW : Hid (V.heap.size ≤ W.heap.size) := BB.size
          clear Ka Kb Kl Dab Dal Dbl N m0 m1 BB
          go_wp2_with fail
          refine KF.mono ?_
          rintro e w3 ⟨uf, rfl, kf, hb3⟩
          obtain ⟨pf, qf, rfl, -⟩ := kf.rd
          have hl3 := alloc_below w3 (.cells #[.int .i64 20, .slice pf Fb.length qf] 46)
          have hnew : ∀ j u, [Value.int .i64 20, .slice pf Fb.length qf][j]? = some u → (w3.alloc (.cells #[.int .i64 20, .slice pf Fb.length qf] 46)).cell? ((⟨w3.heap.size, 0, none⟩ : Addr).add j) = some u := fun j u hj => (Arr.new w3 [.int .i64 20, .slice pf Fb.length qf] 46).cells j u hj
          have hb4 := Below.step hb3 hl3
          have OL4 := OL.stay hb4
          have HFge : Hid (∀ k, (Value.slice pf Fb.length qf).ownBlock = some k → W.heap.size ≤ k) := fun k hk => kf.ge k hk
          replace kf := (kf.lower HVW.out).stay hl3
          have HOlt : Hid (∀ k, k ∈ (Value.slice (some ⟨gl, 0, none⟩) 2 2).ownBlock.toList ++ ((Value.slice pa m.2.length qa).ownBlock.toList ++ (Value.slice pb B.length qb).ownBlock.toList) → k < W.heap.size) := fun k hk => (OL.ins k hk).2
          replace kS := kS.stay hb4
          replace A := A.stay hb4
          replace R := R.stay hb4
          replace BW := Below.step BW hb4
          have HV4 : Hid (V.heap.size ≤ (w3.alloc (.cells #[.int .i64 20, .slice pf Fb.length qf] 46)).heap.size) := Nat.le_trans HVW.out hb4.size
          have hrow4 : Hid ((w3.alloc (.cells #[.int .i64 20, .slice pf Fb.length qf] 46)).ownsRow V.heap.size 46 2 (.slice (some ⟨gl, 0, none⟩) 2 2) 2 [.int .i64 m.1, .slice pa m.2.length qa, .int .i64 2, .slice pb B.length qb]) := OL4.row
          obtain ⟨i0, hi, hz0, hz1, hz2'⟩ := info_parts infoMsg
          clear OL KF hb3 hl3 hb4
          go_wp2_with (at_builtin; refine wpList_append_lies _ rfl (.tmp 52) (.tmp 56) 28 rfl V.heap.size 46 i0 (.agg #[.int .i64 0, .slice none 0 0]) 2 32 Tryz.underlying28 hi hz0 hz1 hz2' rfl (by decide) (.slice (some ⟨gl, 0, none⟩) 2 2) 2 [.int .i64 m.1, .slice pa m.2.length qa, .int .i64 2, .slice pb B.length qb] rfl hrow4.out ⟨w3.heap.size, 0, none⟩ 1 1 [.int .i64 20, .slice pf Fb.length qf] rfl rfl hnew (by intro u hu; simp at hu; rcases hu with rfl | rfl <;> rfl) (by decide) (by unfold maxLen; omega) (by omega) HV4.out _ rfl ?_; intro g6 c6 w6 hown6 hgrow6 hat6 hlt6)
          have OP := OL4.push (a := ((20 : Int), Fb)) (msg_own_mk (a := ((20 : Int), Fb)) kf) (fun j hj hj2 => by
            have h1 := HFge.out j (mem_opt.1 hj)
            have h2 := HOlt.out j hj2
            omega) (k := 3) (v' := .slice (some ⟨g6, 0, none⟩) 3 c6) (g := g6) hown6 rfl hgrow6 rfl hat6
          have hgl : Hid (V.heap.size ≤ gl) := Gl
          replace BW := BW.grown hgrow6 BW.size (fun k hk => by have e : gl = k := Option.some.inj hk; have := hgl.out; have := HVR.out; omega)
          replace A := A.other hgrow6 (fun e => by have e' : gl = w.heap.size := Option.some.inj e; have := hgl.out; have := HVR.out; omega)
          replace R := R.other hgrow6 (fun e => by have e' : gl = w.heap.size + 1 + 1 := Option.some.inj e; have := hgl.out; have := HVR.out; omega)
          replace kS := kS.other hgrow6 (fun k hk e => by have e' : gl = k := Option.some.inj e; have h1 := HSlt.out _ hk; have h2 := hgl.out; omega)
          have h3c : 3 ≤ c6 := (RdL.own OP).1
          have hc6 : c6 ≤ 2 ^ 63 - 1 := (RdL.own OP).2.1
          have RLd : RdL msgC w6 (some ⟨g6, 2, none⟩) (c6 - 1) [((2 : Int), B), ((20 : Int), Fb)] := by
            have h := (RdL.own OP).drop 1 (by simp)
            rw [show msgC.n = 2 from rfl] at h
            exact h
          have HZV : Hid (w.heap.size + 3 ≤ V.heap.size) := HVR.out
          clear hown6 hgrow6 hat6 hnew hrow4 kf OL4 Gl
          obtain ⟨OB, HOB⟩ : ∃ x, Hid (x = V.heap.size) := ⟨_, rfl⟩
          rw [← HOB.out] at OP HZV
          clear HVR HVW HV4 HSlt hgl HOlt HOB HAS hz2
          clear V
          obtain ⟨V, HV⟩ : ∃ V, Hid (V = w6) := ⟨_, rfl⟩
          rw [← HV.out] at OP BW A R kS RLd ⊢
          clear HV
          have HRS : Hid (Rd V ps qs S) := Rd.own kS
          have KLc : Hid (∀ W, Below V.heap.size V W → Calls Tryz.prog 65 #[.slice (some ⟨g6, 2, none⟩) 2 (c6 - 1)] W fun e w' => ∃ v xs fp, e = .returned v ∧ OwnL 46 msgC w' W.heap.size v [((2 : Int), B), ((20 : Int), Fb)] xs fp ∧ Below W.heap.size W w') := fun W hW => l6Copy_c [((2 : Int), B), ((20 : Int), Fb)] _ _ W (RLd.keep hW) HLB.out
          have c0 := (A.cell 0).trans (show _ = some _ from rfl)
          have c1 := (A.cell 1).trans (show _ = some _ from rfl)
          have c2 := (A.cell 2).trans (show _ = some _ from rfl)
          have c3 := (A.cell 3).trans (show _ = some _ from rfl)
          have HOP : Hid (OwnL 46 msgC V OB (.slice (some ⟨g6, 0, none⟩) 3 c6) [m, ((2 : Int), B), ((20 : Int), Fb)] _ _) := OP
          clear OP kS A RLd
          apply share
          case h =>
            intro JN
            have BB := Below.refl V.heap.size V
            have hne := HW.some V
            have g0 := HW.at (c0)
            have g1 := HW.at (c1)
            have g2 := HW.at (c2)
            have g3 := HW.at (c3)
            refine wp_region_pick [0, 2, 3, 4, 7, 8] 11 5 1 rfl rfl rfl (by kernel_rfl) (by kernel_rfl) (by kernel_rfl) (by kernel_rfl) ?_
            simp only [opsAt, List.getElem?_toArray, List.getElem?_cons_zero, List.getElem?_cons_succ]
            repeat (go_big_quiet_step (fail))
            refine wpQuiet_nil ?_
            clear g0 g1 g2 g3
            refine wpM_only (i := 1) (by kernel_rfl) ?_
            refine mOp_call rfl (by go_simp) 85 _ #[.agg #[.int .i64 s.1, .slice p s.2.1.length q, .int .i64 s.2.2.1, .slice p2 s.2.2.2.length q2]] (fun w => by go_simp) rfl ?_
            rintro _ ⟨sg, rfl⟩
            refine (KC.out _ (Below.step BW (Below.step BB sg.h))).mono ?_
            rintro e wg1 ⟨us, vs, fs, rfl, ks, hbx⟩
            obtain ⟨pu, qu, pv, qv, es, -, -⟩ := side_rep (sideC.toRep ks)
            simp only [List.cons.injEq, and_true, true_and] at es
            obtain ⟨rfl, rfl⟩ := es
            have hbg := Below.step sg.h hbx
            refine ⟨_, rfl, ⟨⟨wg1, hbx⟩, rfl⟩, ?_⟩
            have Ks := sideC.low ks ((Below.step BB sg.h)).size
            replace BB := Below.step BB hbg
            clear hbg hbx sg ks
            replace hne := HW.some wg1
            refine wpM_only (i := 5) (by kernel_rfl) ?_
            refine mOp_call rfl (by go_simp) 71 _ #[.slice ps S.length qs] (fun w => by go_simp) rfl ?_
            rintro _ ⟨sg, rfl⟩
            refine (l7Master_c ps qs S _ (HRS.out.keep (Below.step BB sg.h)) (by have := HS32.out; omega)).mono ?_
            rintro e wg2 ⟨um, rfl, km, hbx⟩
            obtain ⟨pm, qm, rfl, -⟩ := km.rd
            have hbg := Below.step sg.h hbx
            refine ⟨_, rfl, ⟨⟨wg2, hbx⟩, rfl⟩, ?_⟩
            have Km := km.lower ((Below.step BB sg.h)).size
            have Dsm := (show ∀ k, k ∈ fs → k ∉ (Value.slice pm (masterN S).length qm).ownBlock.toList from fun k h h2 => by have h1 := (sideC.ins Ks k h).2; have h4 := km.ge _ (mem_opt.1 h2); have h3 := sg.h.size; omega)
            replace Ks := sideC.stay Ks hbg
            replace BB := Below.step BB hbg
            clear hbg hbx sg km
            replace hne := HW.some wg2
            refine wpM_more [6] 3 2 rfl (by kernel_rfl) (by kernel_rfl) (by kernel_rfl) (by kernel_rfl) ?_
            simp only [opsAt, List.getElem?_toArray, List.getElem?_cons_zero, List.getElem?_cons_succ]
            go_simp
            repeat (go_big_quiet_step (fail))
            refine wpQuiet_nil ?_
            refine wpM_only (i := 9) (by kernel_rfl) ?_
            refine mOp_call rfl (by go_simp) 65 _ #[.slice (some ⟨g6, 2, none⟩) 2 (c6 - 1)] (fun w => by go_simp) rfl ?_
            rintro _ ⟨sg, rfl⟩
            refine (KLc.out _ (Below.step BB sg.h)).mono ?_
            rintro e wg3 ⟨vc, xs, fc, rfl, kc, hbx⟩
            obtain ⟨pc, qc, rfl, -⟩ := kc.rd
            have hbg := Below.step sg.h hbx
            refine ⟨_, rfl, ⟨⟨wg3, hbx⟩, rfl⟩, ?_⟩
            have Kc := kc.low ((Below.step BB sg.h)).size
            have Dsd := (show ∀ k, k ∈ fs → k ∉ (Value.slice pc [((2 : Int), B), ((20 : Int), Fb)].length qc).ownBlock.toList ++ fc from fun k h h2 => by have h1 := (sideC.ins Ks k h).2; have h4 := (kc.ins k h2).1; have h3 := sg.h.size; omega)
            have Dmd := (show ∀ k, k ∈ (Value.slice pm (masterN S).length qm).ownBlock.toList → k ∉ (Value.slice pc [((2 : Int), B), ((20 : Int), Fb)].length qc).ownBlock.toList ++ fc from fun k h h2 => by have h1 := Km.lt _ (mem_opt.1 h); have h4 := (kc.ins k h2).1; have h3 := sg.h.size; omega)
            replace Ks := sideC.stay Ks hbg
            replace Km := Km.stay hbg
            replace BB := Below.step BB hbg
            clear hbg hbx sg kc
            replace hne := HW.some wg3
            refine wpM_more [10] 1 0 rfl (by kernel_rfl) (by kernel_rfl) (by kernel_rfl) (by kernel_rfl) ?_
            simp only [opsAt, List.getElem?_toArray, List.getElem?_cons_zero, List.getElem?_cons_succ]
            go_simp
            repeat (go_big_quiet_step (fail))
            refine wpQuiet_nil ?_
            refine wpM_end (by kernel_rfl) rfl (by kernel_rfl) (by decide) ?_
            rintro _ ⟨sz, rfl⟩
            simp only [List.drop_succ_cons, List.drop_zero]
            go_simp
            replace Ks := sideC.stay Ks sz.h
            replace Km := Km.stay sz.h
            replace Kc := Kc.stay sz.h
            replace BB := Below.step BB sz.h
            clear hne
            generalize sz.w = W at *
            clear sz
            revert Dmd
            revert Dsd
            revert Dsm
            revert Kc
            revert Km
            revert Ks
            revert BB
            revert qc
            revert pc
            revert fc
            revert xs
            revert qm
            revert pm
            revert qv
            revert pv
            revert qu
            revert pu
            revert fs
            revert W
            exact JN.out
          intro W fs pu qu pv qv pm qm xs fc pc qc BB Ks Km Kc Dsm Dsd Dmd
          have hVR : Hid (w.heap.size + 3 ≤ V.heap.size) := R.lt
          have KM := HOP.out.stay BB
          have KR : endResultC.own W (w.heap.size + 3) (0, (s, 2, 2, [m, ((2 : Int), B), ((20 : Int), Fb)], masterN S, zeroX), [((2 : Int), B), ((20 : Int), Fb)]) _ _ := endR_of (r := (0, (s, 2, 2, [m, ((2 : Int), B), ((20 : Int), Fb)], masterN S, zeroX), [((2 : Int), B), ((20 : Int), Fb)])) (end_of (e := (s, 2, 2, [m, ((2 : Int), B), ((20 : Int), Fb)], masterN S, zeroX)) (sideC.low Ks hVR.out) (⟨_, _, _, rfl, KM.low HZV.out, rfl⟩ : msgsC.own W (w.heap.size + 3) [m, ((2 : Int), B), ((20 : Int), Fb)] [.slice (some ⟨g6, 0, none⟩) 3 c6] _) (byt_own (Km.lower hVR.out)) (zeroX_own _ _) (fun k h h2 => by
              have h4 := (sideC.ins Ks k h).1
              have h5 := (HOP.out.ins k h2).2
              omega) Dsm (fun _ _ h => by cases h) (fun k h h2 => by
              have h4 := Km.ge k (mem_opt.1 h2)
              have h5 := (HOP.out.ins k h).2
              omega) (fun _ _ h => by cases h) (fun _ _ h => by cases h)) (⟨_, _, _, rfl, Kc.low hVR.out, rfl⟩ : msgsC.own W (w.heap.size + 3) [((2 : Int), B), ((20 : Int), Fb)] [.slice pc [((2 : Int), B), ((20 : Int), Fb)].length qc] _) (fun k h h2 => by
              simp only [List.nil_append, List.append_nil, List.mem_append] at h
              rcases h with h3 | h3 | h3
              · exact Dsd k h3 h2
              · have h4 := (Kc.ins k h2).1
                have h5 := (HOP.out.ins k (by simp only [List.mem_append]; exact h3)).2
                omega
              · exact Dmd k h3 h2)
          replace R := R.stay BB
          replace BW := Below.step BW BB
          have t0 := (R.cell 0).trans (show _ = some _ from rfl)
          have t1 := (R.cell 1).trans (show _ = some _ from rfl)
          have t2 := (R.cell 2).trans (show _ = some _ from rfl)
          have t3 := (R.cell 3).trans (show _ = some _ from rfl)
          have t4 := (R.cell 4).trans (show _ = some _ from rfl)
          have t5 := (R.cell 5).trans (show _ = some _ from rfl)
          have t6 := (R.cell 6).trans (show _ = some _ from rfl)
          have t7 := (R.cell 7).trans (show _ = some _ from rfl)
          have t8 := (R.cell 8).trans (show _ = some _ from rfl)
          have t9 := (R.cell 9).trans (show _ = some _ from rfl)
          have t10 := (R.cell 10).trans (show _ = some _ from rfl)
          have t11 := (R.cell 11).trans (show _ = some _ from rfl)
          have t12 := (R.cell 12).trans (show _ = some _ from rfl)
          have t13 := (R.cell 13).trans (show _ = some _ from rfl)
          have ft := R.frozen
          clear R BB c0 c1 c2 c3 KM Ks Kc Km Dsm Dsd Dmd
          go_wp2_with fail
          exact bodyPost_ret (v := .agg #[.int .i64 0, .int .i64 s.1, .slice pu s.2.1.length qu, .int .i64 s.2.2.1, .slice pv s.2.2.2.length qv, .int .i64 2, .int .i64 2, .slice (some ⟨g6, 0, none⟩) 3 c6, .slice pm (masterN S).length qm, .slice none 0 0, .slice none 0 0, .slice none 0 0, .slice none 0 0, .slice pc 2 qc]) (by simp [results, Tryz.results22, go_sem, t0, t1, t2, t3, t4, t5, t6, t7, t8, t9, t10, t11, t12, t13]) rfl (HQ.out _ _ ⟨[_, _, _, _, _, _, _, _, _, _, _, _, _, _], _, rfl, endResultC.low (endResultC.set (endResultC.set (endResultC.set (endResultC.set (endResultC.set (endResultC.set (endResultC.set (endResultC.set (endResultC.set (endResultC.set (endResultC.set (endResultC.set (endResultC.set (endResultC.set KR (show w.heap.size + 2 < w.heap.size + 3 by omega) _) (show w.heap.size + 2 < w.heap.size + 3 by omega) _) (show w.heap.size + 2 < w.heap.size + 3 by omega) _) (show w.heap.size + 2 < w.heap.size + 3 by omega) _) (show w.heap.size + 2 < w.heap.size + 3 by omega) _) (show w.heap.size + 2 < w.heap.size + 3 by omega) _) (show w.heap.size + 2 < w.heap.size + 3 by omega) _) (show w.heap.size + 2 < w.heap.size + 3 by omega) _) (show w.heap.size + 2 < w.heap.size + 3 by omega) _) (show w.heap.size + 2 < w.heap.size + 3 by omega) _) (show w.heap.size + 2 < w.heap.size + 3 by omega) _) (show w.heap.size + 2 < w.heap.size + 3 by omega) _) (show w.heap.size + 2 < w.heap.size + 3 by omega) _) (show w.heap.size + 2 < w.heap.size + 3 by omega) _) (by omega), ((((((((((((((BW.setCell (show w.heap.size ≤ w.heap.size + 2 by omega) _).setCell (show w.heap.size ≤ w.heap.size + 2 by omega) _).setCell (show w.heap.size ≤ w.heap.size + 2 by omega) _).setCell (show w.heap.size ≤ w.heap.size + 2 by omega) _).setCell (show w.heap.size ≤ w.heap.size + 2 by omega) _).setCell (show w.heap.size ≤ w.heap.size + 2 by omega) _).setCell (show w.heap.size ≤ w.heap.size + 2 by omega) _).setCell (show w.heap.size ≤ w.heap.size + 2 by omega) _).setCell (show w.heap.size ≤ w.heap.size + 2 by omega) _).setCell (show w.heap.size ≤ w.heap.size + 2 by omega) _).setCell (show w.heap.size ≤ w.heap.size + 2 by omega) _).setCell (show w.heap.size ≤ w.heap.size + 2 by omega) _).setCell (show w.heap.size ≤ w.heap.size + 2 by omega) _).setCell (show w.heap.size ≤ w.heap.size + 2 by omega) _)⟩)
    · have hd : (uhC 1 m != 0) = true := by rw [bne_iff_ne]; exact hu
      rw [hcE_bad (s := s) (m := m) (by rw [HC0.out]; exact hu), HC0.out] at HQ
      clear hu HH UC HC0
      generalize uhC 1 m = cc at *
      have x0 := (X.cell 0).trans (show _ = some _ from rfl)
      go_wp2_with fail
      refine (l11Bad_c cc _).mono ?_
      rintro e wb ⟨rfl, hbb⟩
      replace R := R.stay hbb
      replace BW := Below.step BW hbb
      have t0 := (R.cell 0).trans (show _ = some _ from rfl)
      have t1 := (R.cell 1).trans (show _ = some _ from rfl)
      have t2 := (R.cell 2).trans (show _ = some _ from rfl)
      have t3 := (R.cell 3).trans (show _ = some _ from rfl)
      have t4 := (R.cell 4).trans (show _ = some _ from rfl)
      have t5 := (R.cell 5).trans (show _ = some _ from rfl)
      have t6 := (R.cell 6).trans (show _ = some _ from rfl)
      have t7 := (R.cell 7).trans (show _ = some _ from rfl)
      have t8 := (R.cell 8).trans (show _ = some _ from rfl)
      have t9 := (R.cell 9).trans (show _ = some _ from rfl)
      have t10 := (R.cell 10).trans (show _ = some _ from rfl)
      have t11 := (R.cell 11).trans (show _ = some _ from rfl)
      have t12 := (R.cell 12).trans (show _ = some _ from rfl)
      have t13 := (R.cell 13).trans (show _ = some _ from rfl)
      have ft := R.frozen
      clear R hbb
      go_wp2_with fail
      exact bodyPost_ret (v := .agg #[.int .i64 cc, .int .i64 0, .slice none 0 0, .int .i64 0, .slice none 0 0, .int .i64 0, .int .i64 0, .slice none 0 0, .slice none 0 0, .slice none 0 0, .slice none 0 0, .slice none 0 0, .slice none 0 0, .slice none 0 0]) (by simp [results, Tryz.results22, go_sem, t0, t1, t2, t3, t4, t5, t6, t7, t8, t9, t10, t11, t12, t13]) rfl (HQ.out _ _ ⟨[_, _, _, _, _, _, _, _, _, _, _, _, _, _], _, rfl, badE_own _ _ _, ((((((((((((((BW.setCell (show w.heap.size ≤ w.heap.size + 2 by omega) _).setCell (show w.heap.size ≤ w.heap.size + 2 by omega) _).setCell (show w.heap.size ≤ w.heap.size + 2 by omega) _).setCell (show w.heap.size ≤ w.heap.size + 2 by omega) _).setCell (show w.heap.size ≤ w.heap.size + 2 by omega) _).setCell (show w.heap.size ≤ w.heap.size + 2 by omega) _).setCell (show w.heap.size ≤ w.heap.size + 2 by omega) _).setCell (show w.heap.size ≤ w.heap.size + 2 by omega) _).setCell (show w.heap.size ≤ w.heap.size + 2 by omega) _).setCell (show w.heap.size ≤ w.heap.size + 2 by omega) _).setCell (show w.heap.size ≤ w.heap.size + 2 by omega) _).setCell (show w.heap.size ≤ w.heap.size + 2 by omega) _).setCell (show w.heap.size ≤ w.heap.size + 2 by omega) _).setCell (show w.heap.size ≤ w.heap.size + 2 by omega) _)⟩)
  · rw [hcE_bad (s := s) (m := m) (by rw [hcC, if_neg hs]; exact hs), show hcC s m = sfC s by rw [hcC, if_neg hs]] at HQ
    have hd : (sfC s != 0) = true := by rw [bne_iff_ne]; exact hs
    clear hs N
    generalize sfC s = cc at *
    go_enter Tryz.func22, Tryz.ntmps22
    go_wp2_with fail
    refine KS.mono ?_
    rintro e w1 ⟨rfl, hw⟩
    subst hw
    clear A KS
    go_wp2_with fail
    refine (l11Bad_c cc _).mono ?_
    rintro e wb ⟨rfl, hbb⟩
    replace R := R.stay hbb
    replace BW := Below.step BW hbb
    have t0 := (R.cell 0).trans (show _ = some _ from rfl)
    have t1 := (R.cell 1).trans (show _ = some _ from rfl)
    have t2 := (R.cell 2).trans (show _ = some _ from rfl)
    have t3 := (R.cell 3).trans (show _ = some _ from rfl)
    have t4 := (R.cell 4).trans (show _ = some _ from rfl)
    have t5 := (R.cell 5).trans (show _ = some _ from rfl)
    have t6 := (R.cell 6).trans (show _ = some _ from rfl)
    have t7 := (R.cell 7).trans (show _ = some _ from rfl)
    have t8 := (R.cell 8).trans (show _ = some _ from rfl)
    have t9 := (R.cell 9).trans (show _ = some _ from rfl)
    have t10 := (R.cell 10).trans (show _ = some _ from rfl)
    have t11 := (R.cell 11).trans (show _ = some _ from rfl)
    have t12 := (R.cell 12).trans (show _ = some _ from rfl)
    have t13 := (R.cell 13).trans (show _ = some _ from rfl)
    have ft := R.frozen
    clear R hbb
    go_wp2_with fail
    exact bodyPost_ret (v := .agg #[.int .i64 cc, .int .i64 0, .slice none 0 0, .int .i64 0, .slice none 0 0, .int .i64 0, .int .i64 0, .slice none 0 0, .slice none 0 0, .slice none 0 0, .slice none 0 0, .slice none 0 0, .slice none 0 0, .slice none 0 0]) (by simp [results, Tryz.results22, go_sem, t0, t1, t2, t3, t4, t5, t6, t7, t8, t9, t10, t11, t12, t13]) rfl (HQ.out _ _ ⟨[_, _, _, _, _, _, _, _, _, _, _, _, _, _], _, rfl, badE_own _ _ _, ((((((((((((((BW.setCell (show w.heap.size ≤ w.heap.size + 2 by omega) _).setCell (show w.heap.size ≤ w.heap.size + 2 by omega) _).setCell (show w.heap.size ≤ w.heap.size + 2 by omega) _).setCell (show w.heap.size ≤ w.heap.size + 2 by omega) _).setCell (show w.heap.size ≤ w.heap.size + 2 by omega) _).setCell (show w.heap.size ≤ w.heap.size + 2 by omega) _).setCell (show w.heap.size ≤ w.heap.size + 2 by omega) _).setCell (show w.heap.size ≤ w.heap.size + 2 by omega) _).setCell (show w.heap.size ≤ w.heap.size + 2 by omega) _).setCell (show w.heap.size ≤ w.heap.size + 2 by omega) _).setCell (show w.heap.size ≤ w.heap.size + 2 by omega) _).setCell (show w.heap.size ≤ w.heap.size + 2 by omega) _).setCell (show w.heap.size ≤ w.heap.size + 2 by omega) _).setCell (show w.heap.size ≤ w.heap.size + 2 by omega) _)⟩)
end Go.Proofs.YtiabacnmmojfjaaGreatDoor
