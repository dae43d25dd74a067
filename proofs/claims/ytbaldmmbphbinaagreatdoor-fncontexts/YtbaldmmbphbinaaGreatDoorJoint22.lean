/- Whether bytes are a context, in the program. -/
import Derived.Test.YtbaldmmbphbinaaGreatDoorJoint17
import Derived.Handy
import Derived.Test.YtbaldmmbphbinaaGreatDoorJoint21
import Derived.Test.YtbaldmmbphbinaaGreatDoorAuthV
import Derived.Test.YtbaldmmbphbinaaGreatDoorJoint16
namespace Go.Proofs.YtbaldmmbphbinaaGreatDoor
open Go.ChangeShapes Go.WideShapes Go.ChangeAt Go.RowKit

theorem isContext_c (p : Option Addr) (q : Nat) (c : List UInt8) (w : World) : Calls Tryz.prog 50 #[.slice p c.length q] w fun e w' => e = .returned (.bool (ctxB c)) ∧ w' = w := by
  unfold ctxB
  by_cases h1 : (1 : Int) ≤ (c.length : Int)
  · by_cases h2 : (c.length : Int) ≤ 20
    · rw [inB_true h1 h2]
      go_enter Tryz.func50, Tryz.ntmps50
      go_wp2
      go_ret
      exact ⟨rfl, rfl⟩
    · rw [inB_false (by omega)]
      go_enter Tryz.func50, Tryz.ntmps50
      go_wp2
      go_ret
      exact ⟨rfl, rfl⟩
  · rw [inB_false (by omega)]
    go_enter Tryz.func50, Tryz.ntmps50
    go_wp2
    go_ret
    exact ⟨rfl, rfl⟩
end Go.Proofs.YtbaldmmbphbinaaGreatDoor

/- What a role is, and what is asked of an exporter and a role, in the program. -/
namespace Go.Proofs.YtbaldmmbphbinaaGreatDoor
open Go.ChangeShapes Go.WideShapes Go.ChangeAt Go.RowKit

theorem isRole_c (r : Int) (w : World) : Calls Tryz.prog 77 #[.int .i64 r] w fun e w' => e = .returned (.bool (roleB r)) ∧ w' = w := by
  by_cases h1 : r = 1
  · have d1 : (r == 1) = true := by rw [beq_iff_eq]; exact h1
    rw [show roleB r = true by simp [roleB, h1]]
    clear h1
    go_enter Tryz.func77, Tryz.ntmps77
    go_wp2
    go_ret
    exact ⟨rfl, rfl⟩
  · have d1 : (r == 1) = false := by rw [beq_eq_false_iff_ne]; exact h1
    by_cases h2 : r = 2
    · have d2 : (r == 2) = true := by rw [beq_iff_eq]; exact h2
      rw [show roleB r = true by simp [roleB, h2]]
      clear h1 h2
      go_enter Tryz.func77, Tryz.ntmps77
      go_wp2
      go_ret
      exact ⟨rfl, rfl⟩
    · have d2 : (r == 2) = false := by rw [beq_eq_false_iff_ne]; exact h2
      rw [show roleB r = false by simp [roleB, h1, h2]]
      clear h1 h2
      go_enter Tryz.func77, Tryz.ntmps77
      go_wp2
      go_ret
      exact ⟨rfl, rfl⟩
theorem authKeyFault_c (p : Option Addr) (q : Nat) (x : List UInt8) (r : Int) (w : World) : Calls Tryz.prog 43 #[.slice p x.length q, .int .i64 r] w fun e w' => e = .returned (.int .i64 (akC x r)) ∧ w' = w := by
  cases h1 : is32 x
  · rw [show akC x r = 1 by simp [akC, h1]]
    go_enter Tryz.func43, Tryz.ntmps43
    go_wp2_with fail
    refine (isKeyR_c p q x w).mono ?_
    rintro e w2 ⟨rfl, hw⟩
    subst w2
    rw [h1]
    go_wp2
    go_ret
    exact ⟨rfl, rfl⟩
  · cases h2 : roleB r
    · rw [show akC x r = 3 by simp [akC, h1, h2]]
      go_enter Tryz.func43, Tryz.ntmps43
      go_wp2_with fail
      refine (isKeyR_c p q x w).mono ?_
      rintro e w2 ⟨rfl, hw⟩
      subst w2
      rw [h1]
      go_wp2_with fail
      refine (isRole_c r w).mono ?_
      rintro e w2 ⟨rfl, hw⟩
      subst w2
      rw [h2]
      go_wp2
      go_ret
      exact ⟨rfl, rfl⟩
    · rw [show akC x r = 0 by simp [akC, h1, h2]]
      go_enter Tryz.func43, Tryz.ntmps43
      go_wp2_with fail
      refine (isKeyR_c p q x w).mono ?_
      rintro e w2 ⟨rfl, hw⟩
      subst w2
      rw [h1]
      go_wp2_with fail
      refine (isRole_c r w).mono ?_
      rintro e w2 ⟨rfl, hw⟩
      subst w2
      rw [h2]
      go_wp2
      go_ret
      exact ⟨rfl, rfl⟩
end Go.Proofs.YtbaldmmbphbinaaGreatDoor

/- Chapter 13 of the program: readAuth, ReadAuth, at every argument. What was there stays. -/
namespace Go.Proofs.YtbaldmmbphbinaaGreatDoor
open Go.ChangeShapes Go.WideShapes Go.ChangeAt Go.RowKit

set_option maxRecDepth 4000 in
set_option maxHeartbeats 16000000 in
theorem readAuth_c (data : List UInt8) (p : Option Addr) (q : Nat) (w : World) (hr : Rd w p q data) :
    Calls Tryz.prog 96 #[.slice p data.length q] w fun e w' => ∃ pa qa pm qm a t, e = .returned (.tuple #[.agg #[.slice pa a.1.length qa, .int .i64 a.2.1.1, .int .i64 a.2.1.2.1, .int .i64 a.2.1.2.2, .int .i64 a.2.2.1, .slice pm a.2.2.2.length qm], .bool t]) ∧ ARead w' w.heap.size data a [.slice pa a.1.length qa, .int .i64 a.2.1.1, .int .i64 a.2.1.2.1, .int .i64 a.2.1.2.2, .int .i64 a.2.2.1, .slice pm a.2.2.2.length qm] t ∧ Below w.heap.size w w' := by
  have BW := alloc_below w (.cells #[.slice none 0 0, .int .i64 0, .int .i64 0, .int .i64 0, .int .i64 0, .slice none 0 0] 70)
  have R := Arr.new w [.slice none 0 0, .int .i64 0, .int .i64 0, .int .i64 0, .int .i64 0, .slice none 0 0] 70
  have hz0 : Hid ((w.alloc (.cells #[.slice none 0 0, .int .i64 0, .int .i64 0, .int .i64 0, .int .i64 0, .slice none 0 0] 70)).heap.size = w.heap.size + 1) := size_alloc _ _
  suffices H : ∀ Q : Ending → World → Prop, Hid (∀ e w', (∃ pa qa pm qm a t, e = .returned (.tuple #[.agg #[.slice pa a.1.length qa, .int .i64 a.2.1.1, .int .i64 a.2.1.2.1, .int .i64 a.2.1.2.2, .int .i64 a.2.2.1, .slice pm a.2.2.2.length qm], .bool t]) ∧ ARead w' w.heap.size data a [.slice pa a.1.length qa, .int .i64 a.2.1.1, .int .i64 a.2.1.2.1, .int .i64 a.2.1.2.2, .int .i64 a.2.2.1, .slice pm a.2.2.2.length qm] t ∧ Below w.heap.size w w') → Q e w') → Calls Tryz.prog 96 #[.slice p data.length q] w Q by exact H _ (fun _ _ h => h)
  intro Q HQ
  have KS := implUB_c data p q _ (hr.keep BW)
  clear hr
  by_cases hc : ubC data = 0
  · obtain ⟨hl, hs⟩ : data.length ≤ 160 ∧ (splitR data 0 []).isSome = true := by
      unfold ubC at hc
      by_cases h : data.length ≤ 160
      · rw [if_pos h] at hc
        cases h2 : (splitR data 0 []).isSome
        · rw [h2] at hc; cases hc
        · exact ⟨h, rfl⟩
      · rw [if_neg h] at hc; cases hc
    obtain ⟨bl, hbl⟩ := Option.isSome_iff_exists.1 hs
    have HU : Hid (raR data = a4 bl) := raR_some hl hbl
    rw [hc, show ubL data = bl by unfold ubL; rw [if_pos hl, hbl]; rfl] at KS
    clear hc hs hbl hl
    by_cases hl4 : bl.length = 4
    · match bl, hl4 with
      | [a, b, c, m], _ =>
        go_enter Tryz.func96, Tryz.ntmps96
        go_wp2_with fail
        refine KS.mono ?_
        rintro e w1 ⟨v, rfl, ⟨xs, fp, ho⟩, hb1⟩
        rw [hz0.out] at ho
        obtain ⟨g, cap, pa, qa, pb, qb, pc, qc, pm, qm, rfl, hcap, hcap2, hBg, l0, l1, l2, l3, oa, rb, oc, om, hnd⟩ := own4 ho
        have hl1 := alloc_below w1 (.cells #[.int .i64 0, .slice (some ⟨g, 0, none⟩) 4 cap] 139)
        have L := Arr.new w1 [.int .i64 0, .slice (some ⟨g, 0, none⟩) 4 cap] 139
        have hb2 := Below.step hb1 hl1
        replace R := R.stay hb2
        replace BW := Below.step BW hb2
        replace l0 := cell_keep l0 hl1
        replace l1 := cell_keep l1 hl1
        replace l2 := cell_keep l2 hl1
        replace l3 := cell_keep l3 hl1
        have hqc1 : c.length ≤ qc := (Rd.own oc).1
        have hqc2 : qc ≤ 2 ^ 63 - 1 := (Rd.own oc).2.1
        have HOA : Hid (Own _ (w.heap.size + 1) (.slice pa a.length qa) a) := oa.stay hl1
        have HOM : Hid (Own _ (w.heap.size + 1) (.slice pm m.length qm) m) := om.stay hl1
        have HND : Hid (((Value.slice pa a.length qa).ownBlock.toList ++ (Value.slice pm m.length qm).ownBlock.toList).Nodup) := hnd
        have HRB : Hid (Rd _ pb qb b) := rb.keep hl1
        have HOC : Hid (Own _ (w.heap.size + 1) (.slice pc c.length qc) c) := oc.stay hl1
        have HZ1 : Hid (w.heap.size + 1 ≤ (w1.alloc (.cells #[.int .i64 0, .slice (some ⟨g, 0, none⟩) 4 cap] 139)).heap.size) := R.lt
        clear hb1 hb2 hl1 KS oa om hnd rb oc ho
        have k0 := (L.cell 0).trans (show _ = some _ from rfl)
        have k1 := (L.cell 1).trans (show _ = some _ from rfl)
        go_wp2_with fail
        generalize hV : w1.alloc (.cells #[.int .i64 0, .slice (some ⟨g, 0, none⟩) 4 cap] 139) = V at *
        clear hV
        go_quiet (fail)
        have hbq : Below V.heap.size V (V.drewN nq) := ⟨rfl, rfl, rfl, Nat.le_refl _, fun _ _ => rfl⟩
        replace R := R.stay hbq
        replace BW := Below.step BW hbq
        replace L := L.stay hbq
        replace l1 := cell_keep l1 hbq
        replace HOA : Hid (Own _ (w.heap.size + 1) (.slice pa a.length qa) a) := HOA.out.stay hbq
        replace HOM : Hid (Own _ (w.heap.size + 1) (.slice pm m.length qm) m) := HOM.out.stay hbq
        replace HOC : Hid (Own _ (w.heap.size + 1) (.slice pc c.length qc) c) := HOC.out.stay hbq
        replace HRB : Hid (Rd _ pb qb b) := HRB.out.keep hbq
        replace k1 := cell_keep k1 hbq
        have hz1 : Hid (w.heap.size + 1 ≤ (V.drewN nq).heap.size) := HZ1.out
        clear hbq l0 l2 l3 k0 HZ1
        generalize V.drewN nq = V1 at *
        go_wp2_with fail
        refine (implUc_c b pb qb V1 HRB.out).mono ?_
        rintro e w2 ⟨rfl, hb2⟩
        obtain ⟨⟨uc, ud⟩, HUC⟩ : ∃ x, Hid (ucD b = x) := ⟨_, rfl⟩
        rw [HUC.out]
        unfold aggC
        simp only
        have hl2 := alloc_below w2 (.cells #[.int .i64 uc, .int .i64 ud.1, .int .i64 ud.2.1, .int .i64 ud.2.2] 142)
        have D := Arr.new w2 [.int .i64 uc, .int .i64 ud.1, .int .i64 ud.2.1, .int .i64 ud.2.2] 142
        have hb3 := Below.step hb2 hl2
        replace R := R.stay hb3
        replace BW := Below.step BW hb3
        replace HOA : Hid (Own _ (w.heap.size + 1) (.slice pa a.length qa) a) := HOA.out.stay hb3
        replace HOM : Hid (Own _ (w.heap.size + 1) (.slice pm m.length qm) m) := HOM.out.stay hb3
        replace HOC : Hid (Own _ (w.heap.size + 1) (.slice pc c.length qc) c) := HOC.out.stay hb3
        have hzd : Hid (w.heap.size + 1 ≤ w2.heap.size) := Nat.le_trans hz1.out hb2.size
        clear hb2 hl2 hb3 HRB l1 L k1
        have d0 := (D.cell 0).trans (show _ = some _ from rfl)
        go_wp2_with fail
        generalize hV2 : w2.alloc (.cells #[.int .i64 uc, .int .i64 ud.1, .int .i64 ud.2.1, .int .i64 ud.2.2] 142) = V2 at *
        clear hV2
        refine (isContext_c pa qa a V2).mono ?_
        rintro e w3 ⟨rfl, hw⟩
        subst w3
        cases hct : ctxB a
        · have HN : Hid (raR data = none) := by show _ = _; rw [HU.out]; exact a4_bad (fun h => by rw [hct] at h; cases h.1)
          have c0 := (R.cell 0).trans (show _ = some _ from rfl)
          have c1 := (R.cell 1).trans (show _ = some _ from rfl)
          have c2 := (R.cell 2).trans (show _ = some _ from rfl)
          have c3 := (R.cell 3).trans (show _ = some _ from rfl)
          have c4 := (R.cell 4).trans (show _ = some _ from rfl)
          have c5 := (R.cell 5).trans (show _ = some _ from rfl)
          have fz := R.frozen
          clear R
          go_wp2_with fail
          exact bodyPost_ret (v := .tuple #[.agg #[.slice none 0 0, .int .i64 0, .int .i64 0, .int .i64 0, .int .i64 0, .slice none 0 0], .bool false]) (by simp [results, Tryz.results96, go_sem, c0, c1, c2, c3, c4, c5]) rfl (HQ.out _ _ ⟨none, 0, none, 0, zeroA, false, rfl, ARead.no HN.out, ((((((BW.setCell (Nat.le_refl _) _).setCell (Nat.le_refl _) _).setCell (Nat.le_refl _) _).setCell (Nat.le_refl _) _).setCell (Nat.le_refl _) _).setCell (Nat.le_refl _) _)⟩)
        · by_cases hu : uc = 0
          · subst hu
            by_cases hc1 : c.length = 1
            · have dc : ((c.length : Int) != 1) = false := by rw [bne_eq_false_iff_eq]; omega
              go_wp2_with fail
              refine (isKeyR_c pm qm m V2).mono ?_
              rintro e w3 ⟨rfl, hw⟩
              subst w3
              cases hm : is32 m
              · have HN : Hid (raR data = none) := by show _ = _; rw [HU.out]; exact a4_bad (fun h => by rw [is32, decide_eq_false_iff_not] at hm; exact hm h.2.2.1)
                have c0 := (R.cell 0).trans (show _ = some _ from rfl)
                have c1 := (R.cell 1).trans (show _ = some _ from rfl)
                have c2 := (R.cell 2).trans (show _ = some _ from rfl)
                have c3 := (R.cell 3).trans (show _ = some _ from rfl)
                have c4 := (R.cell 4).trans (show _ = some _ from rfl)
                have c5 := (R.cell 5).trans (show _ = some _ from rfl)
                have fz := R.frozen
                clear R
                go_wp2_with fail
                exact bodyPost_ret (v := .tuple #[.agg #[.slice none 0 0, .int .i64 0, .int .i64 0, .int .i64 0, .int .i64 0, .slice none 0 0], .bool false]) (by simp [results, Tryz.results96, go_sem, c0, c1, c2, c3, c4, c5]) rfl (HQ.out _ _ ⟨none, 0, none, 0, zeroA, false, rfl, ARead.no HN.out, ((((((BW.setCell (Nat.le_refl _) _).setCell (Nat.le_refl _) _).setCell (Nat.le_refl _) _).setCell (Nat.le_refl _) _).setCell (Nat.le_refl _) _).setCell (Nat.le_refl _) _)⟩)
              · have HS : Hid (raR data = some (a, ud, (((c.getD 0 0).toNat : Nat) : Int), m)) := by show _ = _; rw [HU.out]; exact a4_good hct hc1 (by simpa [is32] using hm) HUC.out
                have HC1 : Hid (c.length = 1) := hc1
                clear hct hc1 hm HU HUC dc d0
                go_wp2_with fail
                obtain ⟨bc, oc, rfl, hcc⟩ := (Rd.own HOC.out).2.2.2 (by have := HC1.out; omega)
                have lc := hcc 0 (by have := HC1.out; omega)
                rw [Nat.add_zero] at lc
                have la := at8_lo c 0
                have ua := at8_hi c 0
                have hbc : bc ∉ [w.heap.size] := by have h := HOC.out.ge bc rfl; simp; omega
                have hdb : w2.heap.size ∉ [w.heap.size] := by have h := hzd.out; simp; omega
                rw [HC1.out] at hqc1
                have gc := GenS.only_cell (fp := [w.heap.size]) lc hbc
                have d0 := GenS.only_cell (fp := [w.heap.size]) ((D.cell 1).trans (show _ = some _ from rfl)) hdb
                have d1 := GenS.only_cell (fp := [w.heap.size]) ((D.cell 2).trans (show _ = some _ from rfl)) hdb
                have d2 := GenS.only_cell (fp := [w.heap.size]) ((D.cell 3).trans (show _ = some _ from rfl)) hdb
                have hne := GenS.only_some [w.heap.size] V2
                have hres : Hid ((Tryz.prog.info? 70).map (·.size) = some 6) := by show _ = _; kernel_rfl
                clear hbc hdb lc D hcc
                refine GenS.wp_region_pick (GenS.only_pre [w.heap.size]) [0, 1, 2, 3, 4, 5, 6, 7, 8] 10 1 1 rfl rfl rfl (by kernel_rfl) (by kernel_rfl) (by kernel_rfl) (by kernel_rfl) ?_
                simp only [opsAt, List.getElem?_toArray, List.getElem?_cons_zero, List.getElem?_cons_succ]
                repeat (go_big_quiet_step (fail))
                refine wpQuiet_nil ?_
                clear gc d0 d1 d2 hne
                refine GenS.wpM_only (i := 9) (by kernel_rfl) ?_
                refine GenS.mOp_store rfl (by go_simp) 70 _ _ rfl w.heap.size #[.slice pa a.length qa, .int .i64 ud.1, .int .i64 ud.2.1, .int .i64 ud.2.2, .int .i64 (at8 c 0), .slice pm m.length qm] rfl rfl 70 #[.slice none 0 0, .int .i64 0, .int .i64 0, .int .i64 0, .int .i64 0, .slice none 0 0] (fun n => R) hres.out rfl (by simp [Value.oneCell']) (fun n => Only.row _ _ _) ?_
                intro n2
                refine GenS.wpM_end (by kernel_rfl) rfl (by kernel_rfl) (by decide) ?_
                rintro _ ⟨n3, rfl⟩
                simp only [List.drop_succ_cons, List.drop_zero]
                have RA : Arr (((V2.drewN n2).setRow w.heap.size #[.slice pa a.length qa, .int .i64 ud.1, .int .i64 ud.2.1, .int .i64 ud.2.2, .int .i64 (at8 c 0), .slice pm m.length qm]).drewN n3) w.heap.size 70 [.slice pa a.length qa, .int .i64 ud.1, .int .i64 ud.2.1, .int .i64 ud.2.2, .int .i64 (at8 c 0), .slice pm m.length qm] := Arr.row (w := V2.drewN n2) R [.slice pa a.length qa, .int .i64 ud.1, .int .i64 ud.2.1, .int .i64 ud.2.2, .int .i64 (at8 c 0), .slice pm m.length qm]
                have BEL : Below w.heap.size w (((V2.drewN n2).setRow w.heap.size #[.slice pa a.length qa, .int .i64 ud.1, .int .i64 ud.2.1, .int .i64 ud.2.2, .int .i64 (at8 c 0), .slice pm m.length qm]).drewN n3) := (Below.row (BW.trans ⟨rfl, rfl, rfl, Nat.le_refl _, fun _ _ => rfl⟩) (Nat.le_refl _) _).trans ⟨rfl, rfl, rfl, Nat.le_refl _, fun _ _ => rfl⟩
                have OA : Own (((V2.drewN n2).setRow w.heap.size #[.slice pa a.length qa, .int .i64 ud.1, .int .i64 ud.2.1, .int .i64 ud.2.2, .int .i64 (at8 c 0), .slice pm m.length qm]).drewN n3) (w.heap.size + 1) (.slice pa a.length qa) a := Own.row (w := V2.drewN n2) HOA.out (fun k hk e => by have h := HOA.out.ge k hk; omega) #[.slice pa a.length qa, .int .i64 ud.1, .int .i64 ud.2.1, .int .i64 ud.2.2, .int .i64 (at8 c 0), .slice pm m.length qm]
                have OM : Own (((V2.drewN n2).setRow w.heap.size #[.slice pa a.length qa, .int .i64 ud.1, .int .i64 ud.2.1, .int .i64 ud.2.2, .int .i64 (at8 c 0), .slice pm m.length qm]).drewN n3) (w.heap.size + 1) (.slice pm m.length qm) m := Own.row (w := V2.drewN n2) HOM.out (fun k hk e => by have h := HOM.out.ge k hk; omega) #[.slice pa a.length qa, .int .i64 ud.1, .int .i64 ud.2.1, .int .i64 ud.2.2, .int .i64 (at8 c 0), .slice pm m.length qm]
                clear R BW HOA HOM HOC
                generalize ((V2.drewN n2).setRow w.heap.size #[.slice pa a.length qa, .int .i64 ud.1, .int .i64 ud.2.1, .int .i64 ud.2.2, .int .i64 (at8 c 0), .slice pm m.length qm]).drewN n3 = W at *
                have c0 := (RA.cell 0).trans (show _ = some _ from rfl)
                have c1 := (RA.cell 1).trans (show _ = some _ from rfl)
                have c2 := (RA.cell 2).trans (show _ = some _ from rfl)
                have c3 := (RA.cell 3).trans (show _ = some _ from rfl)
                have c4 := (RA.cell 4).trans (show _ = some _ from rfl)
                have c5 := (RA.cell 5).trans (show _ = some _ from rfl)
                have HAR : Hid (ARead W w.heap.size data (a, ud, at8 c 0, m) [.slice pa a.length qa, .int .i64 ud.1, .int .i64 ud.2.1, .int .i64 ud.2.2, .int .i64 (at8 c 0), .slice pm m.length qm] true) := ARead.yes HS.out (auth_own (a := (a, ud, at8 c 0, m)) (OA.lower (Nat.le_succ _)) (OM.lower (Nat.le_succ _)) HND.out)
                clear RA OA OM HND
                go_wp2_with fail
                exact bodyPost_ret (v := .tuple #[.agg #[.slice pa a.length qa, .int .i64 ud.1, .int .i64 ud.2.1, .int .i64 ud.2.2, .int .i64 (at8 c 0), .slice pm m.length qm], .bool true]) (by simp [results, Tryz.results96, go_sem, c0, c1, c2, c3, c4, c5]) rfl (HQ.out _ _ ⟨pa, qa, pm, qm, (a, ud, at8 c 0, m), true, rfl, HAR.out, BEL⟩)
            · have dc : ((c.length : Int) != 1) = true := by rw [bne_iff_ne]; omega
              have HN : Hid (raR data = none) := by show _ = _; rw [HU.out]; exact a4_bad (fun h => hc1 h.2.1)
              clear hc1
              have c0 := (R.cell 0).trans (show _ = some _ from rfl)
              have c1 := (R.cell 1).trans (show _ = some _ from rfl)
              have c2 := (R.cell 2).trans (show _ = some _ from rfl)
              have c3 := (R.cell 3).trans (show _ = some _ from rfl)
              have c4 := (R.cell 4).trans (show _ = some _ from rfl)
              have c5 := (R.cell 5).trans (show _ = some _ from rfl)
              have fz := R.frozen
              clear R
              go_wp2_with fail
              exact bodyPost_ret (v := .tuple #[.agg #[.slice none 0 0, .int .i64 0, .int .i64 0, .int .i64 0, .int .i64 0, .slice none 0 0], .bool false]) (by simp [results, Tryz.results96, go_sem, c0, c1, c2, c3, c4, c5]) rfl (HQ.out _ _ ⟨none, 0, none, 0, zeroA, false, rfl, ARead.no HN.out, ((((((BW.setCell (Nat.le_refl _) _).setCell (Nat.le_refl _) _).setCell (Nat.le_refl _) _).setCell (Nat.le_refl _) _).setCell (Nat.le_refl _) _).setCell (Nat.le_refl _) _)⟩)
          · have du : (uc != 0) = true := by rw [bne_iff_ne]; exact hu
            have HN : Hid (raR data = none) := by show _ = _; rw [HU.out]; exact a4_bad (fun h => hu (by rw [HUC.out] at h; exact h.2.2.2))
            clear hu
            have c0 := (R.cell 0).trans (show _ = some _ from rfl)
            have c1 := (R.cell 1).trans (show _ = some _ from rfl)
            have c2 := (R.cell 2).trans (show _ = some _ from rfl)
            have c3 := (R.cell 3).trans (show _ = some _ from rfl)
            have c4 := (R.cell 4).trans (show _ = some _ from rfl)
            have c5 := (R.cell 5).trans (show _ = some _ from rfl)
            have fz := R.frozen
            clear R
            go_wp2_with fail
            exact bodyPost_ret (v := .tuple #[.agg #[.slice none 0 0, .int .i64 0, .int .i64 0, .int .i64 0, .int .i64 0, .slice none 0 0], .bool false]) (by simp [results, Tryz.results96, go_sem, c0, c1, c2, c3, c4, c5]) rfl (HQ.out _ _ ⟨none, 0, none, 0, zeroA, false, rfl, ARead.no HN.out, ((((((BW.setCell (Nat.le_refl _) _).setCell (Nat.le_refl _) _).setCell (Nat.le_refl _) _).setCell (Nat.le_refl _) _).setCell (Nat.le_refl _) _).setCell (Nat.le_refl _) _)⟩)
    · have hd4 : ((bl.length : Int) != 4) = true := by rw [bne_iff_ne]; omega
      have HN : Hid (raR data = none) := by show _ = _; rw [HU.out]; exact a4_long hl4
      clear hl4
      go_enter Tryz.func96, Tryz.ntmps96
      go_wp2_with fail
      refine KS.mono ?_
      rintro e w1 ⟨v, rfl, ⟨xs, fp, ho⟩, hb1⟩
      obtain ⟨pl, ql, rfl, -⟩ := ho.rd
      have hl1 := alloc_below w1 (.cells #[.int .i64 0, .slice pl bl.length ql] 139)
      have L := Arr.new w1 [.int .i64 0, .slice pl bl.length ql] 139
      replace R := (R.stay hb1).stay hl1
      replace BW := Below.step (Below.step BW hb1) hl1
      have k0 := (L.cell 0).trans (show _ = some _ from rfl)
      have k1 := (L.cell 1).trans (show _ = some _ from rfl)
      clear hb1 ho hl1 L
      have c0 := (R.cell 0).trans (show _ = some _ from rfl)
      have c1 := (R.cell 1).trans (show _ = some _ from rfl)
      have c2 := (R.cell 2).trans (show _ = some _ from rfl)
      have c3 := (R.cell 3).trans (show _ = some _ from rfl)
      have c4 := (R.cell 4).trans (show _ = some _ from rfl)
      have c5 := (R.cell 5).trans (show _ = some _ from rfl)
      have fz := R.frozen
      clear R
      go_wp2_with fail
      exact bodyPost_ret (v := .tuple #[.agg #[.slice none 0 0, .int .i64 0, .int .i64 0, .int .i64 0, .int .i64 0, .slice none 0 0], .bool false]) (by simp [results, Tryz.results96, go_sem, c0, c1, c2, c3, c4, c5]) rfl (HQ.out _ _ ⟨none, 0, none, 0, zeroA, false, rfl, ARead.no HN.out, ((((((BW.setCell (Nat.le_refl _) _).setCell (Nat.le_refl _) _).setCell (Nat.le_refl _) _).setCell (Nat.le_refl _) _).setCell (Nat.le_refl _) _).setCell (Nat.le_refl _) _)⟩)
  · have HN : Hid (raR data = none) := by
      show _ = _
      unfold ubC at hc
      unfold raR
      by_cases h : data.length ≤ 160
      · rw [if_pos h] at hc ⊢
        cases h2 : splitR data 0 [] with
        | none => rfl
        | some x => rw [h2] at hc; exact absurd rfl hc
      · rw [if_neg h]
    have hd : (ubC data != 0) = true := by rw [bne_iff_ne]; exact hc
    clear hc
    generalize ubC data = uc at *
    go_enter Tryz.func96, Tryz.ntmps96
    go_wp2_with fail
    refine KS.mono ?_
    rintro e w1 ⟨v, rfl, ⟨xs, fp, ho⟩, hb1⟩
    obtain ⟨pl, ql, rfl, -⟩ := ho.rd
    have hl1 := alloc_below w1 (.cells #[.int .i64 uc, .slice pl (ubL data).length ql] 139)
    have L := Arr.new w1 [.int .i64 uc, .slice pl (ubL data).length ql] 139
    replace R := (R.stay hb1).stay hl1
    replace BW := Below.step (Below.step BW hb1) hl1
    have k0 := (L.cell 0).trans (show _ = some _ from rfl)
    clear hb1 ho hl1 L
    have c0 := (R.cell 0).trans (show _ = some _ from rfl)
    have c1 := (R.cell 1).trans (show _ = some _ from rfl)
    have c2 := (R.cell 2).trans (show _ = some _ from rfl)
    have c3 := (R.cell 3).trans (show _ = some _ from rfl)
    have c4 := (R.cell 4).trans (show _ = some _ from rfl)
    have c5 := (R.cell 5).trans (show _ = some _ from rfl)
    have fz := R.frozen
    clear R
    go_wp2_with fail
    exact bodyPost_ret (v := .tuple #[.agg #[.slice none 0 0, .int .i64 0, .int .i64 0, .int .i64 0, .int .i64 0, .slice none 0 0], .bool false]) (by simp [results, Tryz.results96, go_sem, c0, c1, c2, c3, c4, c5]) rfl (HQ.out _ _ ⟨none, 0, none, 0, zeroA, false, rfl, ARead.no HN.out, ((((((BW.setCell (Nat.le_refl _) _).setCell (Nat.le_refl _) _).setCell (Nat.le_refl _) _).setCell (Nat.le_refl _) _).setCell (Nat.le_refl _) _).setCell (Nat.le_refl _) _)⟩)
set_option maxRecDepth 4000 in
set_option maxHeartbeats 2000000 in
theorem implRa_k (data : List UInt8) (p : Option Addr) (q : Nat) (w : World) (hr : Rd w p q data) :
    Calls Tryz.prog 70 #[.slice p data.length q] w fun e w' => ∃ us fp, e = .returned (.agg us.toArray) ∧ authResultC.own w' w.heap.size (raD data) us fp ∧ Below w.heap.size w w' := by
  have BW := alloc_below w (.cells #[.int .i64 0, .slice none 0 0, .int .i64 0, .int .i64 0, .int .i64 0, .int .i64 0, .slice none 0 0] 72)
  have R := Arr.new w [.int .i64 0, .slice none 0 0, .int .i64 0, .int .i64 0, .int .i64 0, .int .i64 0, .slice none 0 0] 72
  have hz0 : Hid ((w.alloc (.cells #[.int .i64 0, .slice none 0 0, .int .i64 0, .int .i64 0, .int .i64 0, .int .i64 0, .slice none 0 0] 72)).heap.size = w.heap.size + 1) := size_alloc _ _
  have hres : Hid ((Tryz.prog.info? 72).map (·.size) = some 7) := by show _ = _; kernel_rfl
  have K := readAuth_c data p q _ (hr.keep BW)
  suffices H : ∀ Q : Ending → World → Prop, Hid (∀ e w', (∃ us fp, e = .returned (.agg us.toArray) ∧ authResultC.own w' w.heap.size (raD data) us fp ∧ Below w.heap.size w w') → Q e w') → Calls Tryz.prog 70 #[.slice p data.length q] w Q by exact H _ (fun _ _ h => h)
  intro Q HQ
  clear hr
  go_enter Tryz.func70, Tryz.ntmps70
  go_wp2_with fail
  refine K.mono ?_
  rintro e w1 ⟨pa, qa, pm, qm, a, t, rfl, har, hb1⟩
  have hl1 := alloc_below w1 (.cells #[.slice pa a.1.length qa, .int .i64 a.2.1.1, .int .i64 a.2.1.2.1, .int .i64 a.2.1.2.2, .int .i64 a.2.2.1, .slice pm a.2.2.2.length qm] 70)
  have L := Arr.new w1 [.slice pa a.1.length qa, .int .i64 a.2.1.1, .int .i64 a.2.1.2.1, .int .i64 a.2.1.2.2, .int .i64 a.2.2.1, .slice pm a.2.2.2.length qm] 70
  replace R := (R.stay hb1).stay hl1
  replace BW := Below.step (Below.step BW hb1) hl1
  rcases har with ⟨rfl, hn⟩ | ⟨rfl, hs, fp, hown⟩
  · have HN : Hid (raD data = (5, zeroA)) := raD_none hn
    clear K hb1 hl1 L hn
    go_wp2_with (refine wpList_store_row rfl 72 _ _ rfl w.heap.size #[.int .i64 5, .slice none 0 0, .int .i64 0, .int .i64 0, .int .i64 0, .int .i64 0, .slice none 0 0] rfl rfl 72 #[.int .i64 0, .slice none 0 0, .int .i64 0, .int .i64 0, .int .i64 0, .int .i64 0, .slice none 0 0] R hres.out rfl (by simp [Value.oneCell']) ?_)
    exact bodyPost_ret (v := .agg #[.int .i64 5, .slice none 0 0, .int .i64 0, .int .i64 0, .int .i64 0, .int .i64 0, .slice none 0 0]) (results_cell_row Tryz.results70 _ _ w.heap.size 72 _ (0, 0) _ rfl (R.row [.int .i64 5, .slice none 0 0, .int .i64 0, .int .i64 0, .int .i64 0, .int .i64 0, .slice none 0 0]) Tryz.underlying72 rfl hres.out) rfl (HQ.out _ _ ⟨[.int .i64 5, .slice none 0 0, .int .i64 0, .int .i64 0, .int .i64 0, .int .i64 0, .slice none 0 0], _, rfl, by rw [HN.out]; exact authR_own zeroA_own, Below.row BW (Nat.le_refl _) _⟩)
  · have HS : Hid (raD data = (0, a)) := raD_some hs
    have HO : Hid (authC.own (w1.alloc (.cells #[.slice pa a.1.length qa, .int .i64 a.2.1.1, .int .i64 a.2.1.2.1, .int .i64 a.2.1.2.2, .int .i64 a.2.2.1, .slice pm a.2.2.2.length qm] 70)) (w.heap.size + 1) a [.slice pa a.1.length qa, .int .i64 a.2.1.1, .int .i64 a.2.1.2.1, .int .i64 a.2.1.2.2, .int .i64 a.2.2.1, .slice pm a.2.2.2.length qm] fp) := by have h := authC.stay hown hl1; rw [hz0.out] at h; exact h
    clear K hb1 hl1 hs hown
    have l0 := (L.cell 0).trans (show _ = some _ from rfl)
    have l1 := (L.cell 1).trans (show _ = some _ from rfl)
    have l2 := (L.cell 2).trans (show _ = some _ from rfl)
    have l3 := (L.cell 3).trans (show _ = some _ from rfl)
    have l4 := (L.cell 4).trans (show _ = some _ from rfl)
    have l5 := (L.cell 5).trans (show _ = some _ from rfl)
    clear L
    go_wp2_with (refine wpList_store_row rfl 72 _ _ rfl w.heap.size #[.int .i64 0, .slice pa a.1.length qa, .int .i64 a.2.1.1, .int .i64 a.2.1.2.1, .int .i64 a.2.1.2.2, .int .i64 a.2.2.1, .slice pm a.2.2.2.length qm] rfl rfl 72 #[.int .i64 0, .slice none 0 0, .int .i64 0, .int .i64 0, .int .i64 0, .int .i64 0, .slice none 0 0] R hres.out rfl (by simp [Value.oneCell']) ?_)
    exact bodyPost_ret (v := .agg #[.int .i64 0, .slice pa a.1.length qa, .int .i64 a.2.1.1, .int .i64 a.2.1.2.1, .int .i64 a.2.1.2.2, .int .i64 a.2.2.1, .slice pm a.2.2.2.length qm]) (results_cell_row Tryz.results70 _ _ w.heap.size 72 _ (0, 0) _ rfl (R.row [.int .i64 0, .slice pa a.1.length qa, .int .i64 a.2.1.1, .int .i64 a.2.1.2.1, .int .i64 a.2.1.2.2, .int .i64 a.2.2.1, .slice pm a.2.2.2.length qm]) Tryz.underlying72 rfl hres.out) rfl (HQ.out _ _ ⟨[.int .i64 0, .slice pa a.1.length qa, .int .i64 a.2.1.1, .int .i64 a.2.1.2.1, .int .i64 a.2.1.2.2, .int .i64 a.2.2.1, .slice pm a.2.2.2.length qm], _, rfl, by rw [HS.out]; exact authR_own (authC.low (authC.rowA HO.out (Nat.lt_succ_self _) _) (Nat.le_succ _)), Below.row BW (Nat.le_refl _) _⟩)
theorem implRa_kk (data : List UInt8) (u : Value) (w : World) (h : bytC.rep w data [u]) :
    Calls Tryz.prog 70 #[u] w fun e w' => ∃ us fp, e = .returned (.agg us.toArray) ∧ authResultC.own w' w.heap.size (raD data) us fp ∧ Below w.heap.size w w' := by
  obtain ⟨p, q, e1, r⟩ := h
  simp only [List.cons.injEq, and_true] at e1
  subst e1
  exact implRa_k data p q w r
end Go.Proofs.YtbaldmmbphbinaaGreatDoor

