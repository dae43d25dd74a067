/- l9Body, HearRecord of the specification, at every argument (written by tools/rec_u.py). What was there stays. -/
import Derived.Test.YtdemfbbjdnjolaaGreatDoorRecT
namespace Go.Proofs.YtdemfbbjdnjolaaGreatDoor
open Go.ChangeShapes Go.WideShapes Go.ChangeAt Go.RowKit

theorem at8_eq {r : List UInt8} {i : Nat} {b : UInt8} : (at8 r i == (b.toNat : Int)) = (r.getD i 0 == b) := by
  unfold at8
  by_cases h : r.getD i 0 = b
  · rw [h]; simp
  · have h2 : ¬ (r.getD i 0).toNat = b.toNat := fun e => h (UInt8.toNat_inj.1 e)
    rw [beq_eq_false_iff_ne.2 h, beq_eq_false_iff_ne]
    omega
set_option maxRecDepth 4000 in
set_option maxHeartbeats 1000000 in
theorem l9Body_c (p : Option Addr) (q : Nat) (r : List UInt8) (w : World) (hr : Rd w p q r) (hl : r.length ≤ 1048576) :
    Calls Tryz.prog 54 #[.slice p r.length q] w fun e w' => ∃ pb qb n, e = .returned (.tuple #[.slice pb n qb, .bool (bodyOk r)]) ∧ (bodyOk r = true → n = r.length - 5 ∧ Rd w pb qb (r.drop 5)) ∧ w' = w := by
  suffices H : ∀ Q : Ending → World → Prop, Hid (∀ pb qb n, (bodyOk r = true → n = r.length - 5 ∧ Rd w pb qb (r.drop 5)) → Q (.returned (.tuple #[.slice pb n qb, .bool (bodyOk r)])) w) → Calls Tryz.prog 54 #[.slice p r.length q] w Q from H _ (show Hid _ from fun pb qb n h => ⟨pb, qb, n, rfl, h, rfl⟩)
  intro Q HQ
  have hq1 : r.length ≤ q := hr.1
  have hq2 : q ≤ 2 ^ 63 - 1 := hr.2.1
  by_cases h5 : r.length < 5
  · have hI : (r.length : Int) < 5 := by omega
    rw [show bodyOk r = false by simp [bodyOk]; omega] at HQ
    clear hr
    go_enter Tryz.func54, Tryz.ntmps54
    go_wp2
    exact HQ.out none 0 0 (fun h => by cases h)
  · have hI : ¬ ((r.length : Int) < 5) := by omega
    obtain ⟨b, o, rfl, hc⟩ := hr.2.2.2 (by omega)
    have c0 := hc 0 (by omega)
    have c1 := hc 1 (by omega)
    have c2 := hc 2 (by omega)
    rw [Nat.add_zero] at c0
    have HR : Hid (Rd w (some ⟨b, o, none⟩) q r) := hr
    have hlen : 5 ≤ r.length := by omega
    have e0 := at8_eq (r := r) (i := 0) (b := 23)
    have e1 := at8_eq (r := r) (i := 1) (b := 3)
    have e2 := at8_eq (r := r) (i := 2) (b := 3)
    have HBO : Hid (bodyOk r = ((r.getD 0 0 == 23) && (r.getD 1 0 == 3) && (r.getD 2 0 == 3) && decide (r.length - 5 = getB ((r.drop 3).take 2)))) := by show _ = _; unfold bodyOk; rw [show decide (5 ≤ r.length) = true by simpa using hlen, Bool.true_and]
    rw [HBO.out, ← e0, ← e1, ← e2] at HQ
    clear e0 e1 e2 hr hc h5 HBO
    generalize at8 r 0 = x0 at *
    generalize at8 r 1 = x1 at *
    generalize at8 r 2 = x2 at *
    have t23 : (((23 : UInt8).toNat : Nat) : Int) = 23 := rfl
    have t3 : (((3 : UInt8).toNat : Nat) : Int) = 3 := rfl
    rw [t23, t3] at HQ
    clear t23 t3
    cases b0 : (x0 == 23)
    · have n0 : (x0 != 23) = true := by rw [bne, b0]; rfl
      rw [b0, Bool.false_and, Bool.false_and, Bool.false_and] at HQ
      go_enter Tryz.func54, Tryz.ntmps54
      go_wp2
      exact HQ.out none 0 0 (fun h => by cases h)
    · have n0 : (x0 != 23) = false := by rw [bne, b0]; rfl
      cases b1 : (x1 == 3)
      · have n1 : (x1 != 3) = true := by rw [bne, b1]; rfl
        rw [b0, b1, Bool.true_and, Bool.false_and, Bool.false_and] at HQ
        go_enter Tryz.func54, Tryz.ntmps54
        go_wp2
        exact HQ.out none 0 0 (fun h => by cases h)
      · have n1 : (x1 != 3) = false := by rw [bne, b1]; rfl
        cases b2 : (x2 == 3)
        · have n2 : (x2 != 3) = true := by rw [bne, b2]; rfl
          rw [b0, b1, b2, Bool.true_and, Bool.true_and, Bool.false_and] at HQ
          go_enter Tryz.func54, Tryz.ntmps54
          go_wp2
          exact HQ.out none 0 0 (fun h => by cases h)
        · have n2 : (x2 != 3) = false := by rw [bne, b2]; rfl
          rw [b0, b1, b2, Bool.true_and, Bool.true_and, Bool.true_and] at HQ
          have HC : Hid (Rd w (some ⟨b, o + 3, none⟩) (q - 3) ((r.drop 3).take 2)) := HR.out.cut 3 2 (q - 3) (by omega) (by omega) (by unfold maxLen; omega)
          have HD : Hid (Rd w (if q = 5 then some ⟨b, o, none⟩ else some ⟨b, o + 5, none⟩) (q - 5) (r.drop 5)) := by
            by_cases hq5 : q = 5
            · rw [if_pos hq5]
              have hn : r.drop 5 = [] := List.drop_eq_nil_of_le (by omega)
              rw [hn, hq5]
              exact ⟨by simp, by unfold maxLen; omega, fun e => by simp at e, fun hp => by simp at hp⟩
            · rw [if_neg hq5]
              have hcut := HR.out.cut 5 (r.length - 5) (q - 5) (by omega) (by omega) (by unfold maxLen; omega)
              rw [List.take_of_length_le (by rw [List.length_drop]; omega)] at hcut
              exact hcut
          have HC2 : Hid (((r.drop 3).take 2).length = 2) := by show _ = _; rw [List.length_take, List.length_drop]; omega
          have K : Hid (∀ w, Rd w (some ⟨b, o + 3, none⟩) (q - 3) ((r.drop 3).take 2) → Calls Tryz.prog 71 #[.slice (some ⟨b, o + 3, none⟩) 2 (q - 3)] w fun e w' => e = .returned (.int .i64 (getB ((r.drop 3).take 2) : Nat)) ∧ w' = w) := fun w h => l1Get_n _ _ 2 _ w h HC2.out (by decide)
          generalize getB ((r.drop 3).take 2) = g at *
          have HG : Hid (((r.length : Int) - 5 == (g : Int)) = decide (r.length - 5 = g)) := by
            show _ = _
            by_cases hg : r.length - 5 = g
            · rw [decide_eq_true hg, beq_iff_eq]; omega
            · rw [decide_eq_false hg, beq_eq_false_iff_ne]; omega
          have HDl : Hid (∀ pb, Rd w pb (q - 5) (r.drop 5) → Q (.returned (.tuple #[.slice pb (r.length - 5) (q - 5), .bool (decide (r.length - 5 = g))])) w) := fun pb h => HQ.out pb _ _ (fun _ => ⟨rfl, h⟩)
          clear HQ
          go_enter Tryz.func54, Tryz.ntmps54
          go_wp2_with fail
          refine (K.out _ HC.out).mono ?_
          rintro e w1 ⟨rfl, hw⟩
          subst w1
          go_wp2_with fail
          all_goals rw [HG.out]
          · have h5 : q = 5 := by assumption
            rw [if_pos h5] at HD
            have h := HDl.out _ HD.out
            rw [h5] at h
            exact h
          · have h5 : ¬ q = 5 := by assumption
            rw [if_neg h5] at HD
            exact HDl.out _ HD.out
set_option maxRecDepth 4000 in
set_option maxHeartbeats 4000000 in
theorem specHr_k (x : StreamD) (us : List Value) (rc : List UInt8) (v : Value) (w : World) (h : streamC.rep w x us) (h2 : bytC.rep w rc [v]) (hl : rc.length ≤ 1048576) :
    Calls Tryz.prog 15 #[.agg us.toArray, v] w fun e w' => ∃ us fp, e = .returned (.agg us.toArray) ∧ recordResultC.own w' w.heap.size (hrD x rc) us fp ∧ Below w.heap.size w w' := by
  obtain ⟨p2, q2, e2, r2⟩ := h2
  simp only [List.cons.injEq, and_true] at e2
  subst e2
  have HR2 : Hid (Rd w p2 q2 rc) := r2
  have hq1 : rc.length ≤ q2 := r2.1
  have hq2 : q2 ≤ 2 ^ 63 - 1 := r2.2.1
  clear r2
  obtain ⟨p, q, rfl, r⟩ := stream_rep h
  have BW := Below.mk (alloc_below w (.cells #[.slice p x.1.length q, .int .i64 x.2.1, .int .i64 x.2.2] 25)) (.cells #[.int .i64 0, .int .i64 0, .slice none 0 0, .slice none 0 0, .int .i64 0, .int .i64 0] 29)
  have A := (Arr.new w [.slice p x.1.length q, .int .i64 x.2.1, .int .i64 x.2.2] 25).old _ (.cells #[.int .i64 0, .int .i64 0, .slice none 0 0, .slice none 0 0, .int .i64 0, .int .i64 0] 29)
  have R := Arr.new (w.alloc (.cells #[.slice p x.1.length q, .int .i64 x.2.1, .int .i64 x.2.2] 25)) [.int .i64 0, .int .i64 0, .slice none 0 0, .slice none 0 0, .int .i64 0, .int .i64 0] 29
  rw [size_alloc] at R
  have HR : Hid (Rd w p q x.1) := r
  clear h r
  have K := l9Asked_c w.heap.size x p q _ (fun i u hu => (A.cell i).trans hu)
  by_cases ha : askC x = 0
  · rw [ha] at K
    obtain ⟨hst0, hx32, hsq0, hsq1, -, -⟩ := ask_parts ha
    have HX : Hid (x.1.length = 32) := hx32
    have HA : Hid (askC x = 0) := ha
    clear hst0 hx32 ha
    go_enter Tryz.func15, Tryz.ntmps15
    go_wp2_with fail
    refine (K).mono ?_
    rintro e w1 ⟨rfl, hw⟩
    subst w1
    generalize (w.alloc (.cells #[.slice p x.1.length q, .int .i64 x.2.1, .int .i64 x.2.2] 25)).alloc (.cells #[.int .i64 0, .int .i64 0, .slice none 0 0, .slice none 0 0, .int .i64 0, .int .i64 0] 29) = w0 at *
    have hz0 : Hid (w.heap.size + 2 ≤ w0.heap.size) := R.lt
    clear K
    go_wp2_with fail
    refine (l9Body_c p2 q2 rc _ (HR2.out.keep BW) hl).mono ?_
    rintro e w1 ⟨pb, qb, n, rfl, hbod, hw⟩
    subst w1
    cases hbo : bodyOk rc
    · have HE : Hid (hrD x rc = badR 5) := by show _ = _; unfold hrD hrC; rw [HA.out, hbo]; rfl
      clear hbod
      go_wp2_with fail
      refine (l9Bad_c 5 _).mono ?_
      rintro e w2 ⟨rfl, hb⟩
      replace BW := Below.step BW hb
      replace R := R.stay hb
      have c0 := (R.cell 0).trans (show _ = some _ from rfl)
      have c1 := (R.cell 1).trans (show _ = some _ from rfl)
      have c2 := (R.cell 2).trans (show _ = some _ from rfl)
      have c3 := (R.cell 3).trans (show _ = some _ from rfl)
      have c4 := (R.cell 4).trans (show _ = some _ from rfl)
      have c5 := (R.cell 5).trans (show _ = some _ from rfl)
      have fz := R.frozen
      clear hb R A
      go_wp2_with fail
      refine bodyPost_ret (v := .agg #[.int .i64 5, .int .i64 0, .slice none 0 0, .slice none 0 0, .int .i64 0, .int .i64 0]) (by simp [results, Tryz.results15, go_sem, c0, c1, c2, c3, c4, c5]) rfl ⟨[.int .i64 5, .int .i64 0, .slice none 0 0, .slice none 0 0, .int .i64 0, .int .i64 0], [], rfl, by rw [HE.out]; exact badR_own _ _ _, ?_⟩
      exact ((((((BW.setCell (Nat.le_succ _) _).setCell (Nat.le_succ _) _).setCell (Nat.le_succ _) _).setCell (Nat.le_succ _) _).setCell (Nat.le_succ _) _).setCell (Nat.le_succ _) _)
    · obtain ⟨rfl, rbody⟩ := hbod hbo
      have HB : Hid (bodyOk rc = true) := hbo
      have h5 : 5 ≤ rc.length := by have h := hbo; simp [bodyOk] at h; omega
      clear hbod hbo
      have HRB : Hid (Rd w0 pb qb (rc.drop 5)) := rbody
      clear rbody
      obtain ⟨bb, bo, e1, -⟩ := HR2.out.2.2.2 (by omega)
      have HP2 : Hid (p2 = some ⟨bb, bo, none⟩) := e1
      rw [HP2.out] at HR2 ⊢
      clear e1
      have HT : Hid (Rd w (some ⟨bb, bo, none⟩) q2 (rc.take 5)) := by
        have h := HR2.out.cut 0 5 q2 (by omega) (by omega) (by unfold maxLen; omega)
        rw [Nat.add_zero, List.drop_zero] at h
        exact h
      have HTl : Hid ((rc.take 5).length = 5) := by show _ = _; rw [List.length_take]; omega
      have HDl : Hid ((rc.drop 5).length = rc.length - 5) := List.length_drop
      have hx64 : x.1.length ≤ 64 := by have := HX.out; omega
      obtain ⟨sn, HS⟩ : ∃ n : Nat, Hid (x.2.1 = (n : Int)) := ⟨x.2.1.toNat, by show _ = _; omega⟩
      have HN : Hid (nonceN (baseN x.1) sn = nonceS x) := by show _ = _; unfold nonceS; rw [HS.out]; rfl
      have KN : Hid (∀ (w : World) (pb : Option Addr) (qb : Nat), Rd w pb qb (baseN x.1) → Calls Tryz.prog 42 #[.slice pb 12 qb, .int .i64 x.2.1] w fun e w' => ∃ u, e = .returned u ∧ Own w' w.heap.size u (nonceS x) ∧ Below w.heap.size w w') := fun w pb qb hr => by
        rw [HS.out, ← HN.out]
        exact l4Nonce_c pb qb (baseN x.1) sn w hr (baseN_len _) (by have := HS.out; omega)
      have KO : Hid (∀ (w : World) (pk pn : Option Addr) (qk qn : Nat), Rd w pk qk (keyN x.1) → Rd w pn qn (nonceS x) → Rd w (some ⟨bb, bo, none⟩) q2 (rc.take 5) → Rd w pb qb (rc.drop 5) → Calls Tryz.prog 55 #[.slice pk 32 qk, .slice pn 12 qn, .slice (some ⟨bb, bo, none⟩) 5 q2, .slice pb (rc.length - 5) qb] w fun e w' => ∃ u, e = .returned (.tuple #[u, .int .i64 (oC x rc)]) ∧ Own w' w.heap.size u (oL x rc) ∧ Below w.heap.size w w') := fun w pk pn qk qn h1 h2 h3 h4 => by
        have h := l5Open_c pk pn (some ⟨bb, bo, none⟩) pb qk qn q2 qb (keyN x.1) (nonceS x) (rc.take 5) (rc.drop 5) w h1 h2 h3 h4 (keyN_len _) (nonceS_len _) (by have := HTl.out; omega) (by have := HDl.out; omega)
        rw [keyN_len, nonceS_len, HTl.out, HDl.out] at h
        exact h.mono fun e w' ⟨u, a, b, c, _⟩ => ⟨u, a, b, c⟩
      have cs := (A.cell 0).trans (show _ = some _ from rfl)
      have cq := (A.cell 1).trans (show _ = some _ from rfl)
      go_wp2_with fail
      have BX := Below.refl w0.heap.size w0
      have g0 := HW.at (cs)
      have g1 := HW.at (cq)
      have hne := HW.some w0
      refine wp_region_pick [0, 1, 3, 4, 6, 7, 9, 10, 11] 17 8 1 rfl rfl rfl (by kernel_rfl) (by kernel_rfl) (by kernel_rfl) (by kernel_rfl) ?_
      simp only [opsAt, List.getElem?_toArray, List.getElem?_cons_zero, List.getElem?_cons_succ]
      repeat (go_big_quiet_step (fail))
      refine wpQuiet_nil ?_
      refine wpM_only (i := 2) (by kernel_rfl) ?_
      refine mOp_call rfl (by go_simp) 41 _ #[.slice p x.1.length q] (fun w => by go_simp) rfl ?_
      rintro _ ⟨sd2, rfl⟩
      refine (l9Key_c p q x.1 _ (HR.out.keep (Below.step BW sd2.h)) hx64).mono ?_
      rintro e wd2 ⟨u, rfl, kk, hbx⟩
      obtain ⟨pk, qk, rfl, -⟩ := kk.rd
      rw [keyN_len] at kk ⊢
      refine ⟨_, rfl, ⟨⟨_, hbx⟩, rfl⟩, ?_⟩
      have hbg := Below.step sd2.h hbx
      replace A := A.stay hbg
      replace R := R.stay hbg
      replace g0 := HW.down g0 hbg
      replace g1 := HW.down g1 hbg
      replace BW := Below.step BW hbg
      replace BX := Below.step BX hbg
      replace hne := HW.some wd2
      have zz2 : Hid (w0.heap.size ≤ wd2.heap.size) := hbg.size
      have zs2 : Hid (w0.heap.size ≤ sd2.w.heap.size) := sd2.h.size
      clear hbg hbx
      refine wpM_only (i := 5) (by kernel_rfl) ?_
      refine mOp_call rfl (by go_simp) 43 _ #[.slice p x.1.length q] (fun w => by go_simp) rfl ?_
      rintro _ ⟨sd5, rfl⟩
      refine (l9Base_c p q x.1 _ (HR.out.keep (Below.step BW sd5.h)) hx64).mono ?_
      rintro e wd5 ⟨u, rfl, kb, hbx⟩
      obtain ⟨pbb, qbb, rfl, -⟩ := kb.rd
      rw [baseN_len] at kb ⊢
      refine ⟨_, rfl, ⟨⟨_, hbx⟩, rfl⟩, ?_⟩
      have hbg := Below.step sd5.h hbx
      replace A := A.stay hbg
      replace R := R.stay hbg
      replace kk := kk.stay hbg
      replace g0 := HW.down g0 hbg
      replace g1 := HW.down g1 hbg
      replace BW := Below.step BW hbg
      replace BX := Below.step BX hbg
      replace hne := HW.some wd5
      have zz5 : Hid (wd2.heap.size ≤ wd5.heap.size) := hbg.size
      have zs5 : Hid (wd2.heap.size ≤ sd5.w.heap.size) := sd5.h.size
      clear hbg hbx
      refine wpM_only (i := 8) (by kernel_rfl) ?_
      refine mOp_call rfl (by go_simp) 42 _ #[.slice pbb 12 qbb, .int .i64 x.2.1] (fun w => by go_simp) rfl ?_
      rintro _ ⟨sd8, rfl⟩
      refine (KN.out _ pbb qbb (Rd.own (kb.stay sd8.h))).mono ?_
      rintro e wd8 ⟨u, rfl, kn, hbx⟩
      obtain ⟨pn2, qn2, rfl, -⟩ := kn.rd
      rw [nonceS_len] at kn ⊢
      refine ⟨_, rfl, ⟨⟨_, hbx⟩, rfl⟩, ?_⟩
      have hbg := Below.step sd8.h hbx
      replace A := A.stay hbg
      replace R := R.stay hbg
      replace kk := kk.stay hbg
      replace kb := kb.stay hbg
      replace g0 := HW.down g0 hbg
      replace g1 := HW.down g1 hbg
      replace BW := Below.step BW hbg
      replace BX := Below.step BX hbg
      replace hne := HW.some wd8
      have zz8 : Hid (wd5.heap.size ≤ wd8.heap.size) := hbg.size
      have zs8 : Hid (wd5.heap.size ≤ sd8.w.heap.size) := sd8.h.size
      clear hbg hbx
      refine wpM_only (i := 12) (by kernel_rfl) ?_
      refine mOp_call rfl (by go_simp) 55 _ #[.slice pk 32 qk, .slice pn2 12 qn2, .slice (some ⟨bb, bo, none⟩) 5 q2, .slice pb (rc.length - 5) qb] (fun w => by go_simp) rfl ?_
      rintro _ ⟨sd12, rfl⟩
      refine (KO.out _ pk pn2 qk qn2 (Rd.own (kk.stay sd12.h)) (Rd.own (kn.stay sd12.h)) (HT.out.keep (Below.step BW sd12.h)) (HRB.out.keep (Below.step BX sd12.h))).mono ?_
      rintro e wd12 ⟨u, rfl, ko, hbx⟩
      obtain ⟨po, qo, rfl, -⟩ := ko.rd
      refine ⟨_, rfl, ⟨⟨_, hbx⟩, rfl⟩, ?_⟩
      have hbg := Below.step sd12.h hbx
      replace A := A.stay hbg
      replace R := R.stay hbg
      replace kk := kk.stay hbg
      replace kb := kb.stay hbg
      replace kn := kn.stay hbg
      replace g0 := HW.down g0 hbg
      replace g1 := HW.down g1 hbg
      replace BW := Below.step BW hbg
      replace BX := Below.step BX hbg
      replace hne := HW.some wd12
      have zz12 : Hid (wd8.heap.size ≤ wd12.heap.size) := hbg.size
      have zs12 : Hid (wd8.heap.size ≤ sd12.w.heap.size) := sd12.h.size
      clear hbg hbx
      refine wpM_more [13, 14, 15, 16] 4 0 rfl (by kernel_rfl) (by kernel_rfl) (by kernel_rfl) (by kernel_rfl) ?_
      simp only [opsAt, List.getElem?_toArray, List.getElem?_cons_zero, List.getElem?_cons_succ]
      go_simp
      repeat (go_big_quiet_step (fail))
      refine wpQuiet_nil ?_
      refine wpM_end (by kernel_rfl) rfl (by kernel_rfl) (by decide) ?_
      rintro _ ⟨sdz, rfl⟩
      simp only [List.drop_succ_cons, List.drop_zero]
      have hbg : Below _ _ sdz.w := sdz.h
      replace A := A.stay hbg
      replace R := R.stay hbg
      replace kk := kk.stay hbg
      replace kb := kb.stay hbg
      replace kn := kn.stay hbg
      replace ko := ko.stay hbg
      replace BW := Below.step BW hbg
      have zzz : Hid (wd12.heap.size ≤ sdz.w.heap.size) := hbg.size
      clear hbg hne g0 g1
      generalize sdz.w = w7 at *
      clear sdz
      clear kk kb kn KN KO cs cq BX
      have hz7 : Hid (w.heap.size + 2 ≤ sd12.w.heap.size) := by have := hz0.out; have := zz2.out; have := zz5.out; have := zz8.out; have := zs12.out; show _ ≤ _; omega
      replace ko := ko.lower hz7.out
      clear zz2 zs2 zz5 zs5 zz8 zs8 zz12 zs12 zzz hz7
      clear sd2 sd5 sd8 sd12
      have hz7 : Hid (w.heap.size + 2 ≤ w7.heap.size) := R.lt
      by_cases ho : oC x rc = 0
      · have HE0 : Hid (hrC x rc = inC (oL x rc)) := by show _ = _; unfold hrC; rw [if_pos HA.out, if_pos HB.out, if_pos ho]
        have HLo : Hid ((oL x rc).length ≤ 1048576) := openL_len _ _ _ _
        have HE1 : Hid (∀ c, inC (oL x rc) = c → c ≠ 0 → hrD x rc = badR c) := fun c h1 h2 => by unfold hrD; rw [HE0.out, h1, if_neg h2]
        have HE2 : Hid (inC (oL x rc) = 0 → hrD x rc = (0, (((oL x rc).getD (nzN (oL x rc) - 1) 0).toNat : Int), (oL x rc).take (nzN (oL x rc) - 1), nextS x)) := fun h1 => by unfold hrD; rw [HE0.out, if_pos h1]
        rw [ho]
        clear ho HE0
        generalize oL x rc = IN at *
        have hil : IN.length ≤ 1048576 := HLo.out
        clear HLo
        obtain ⟨qo1, qo2⟩ : IN.length ≤ qo ∧ qo ≤ 2 ^ 63 - 1 := ⟨(Rd.own ko).1, (Rd.own ko).2.1⟩
        go_wp2_with fail
        go_loop [10] (fun v => ∃ k : Nat, k ≤ IN.length ∧ v = .int .i64 ((k : Int) - 1) ∧ nzN (IN.take k) = nzN IN) (fun v => (intOf v + 1).toNat)
        case atStart => exact ⟨IN.length, Nat.le_refl _, rfl, by rw [List.take_length]⟩
        case round =>
          obtain ⟨k, hk, rfl, hnz⟩ := hrel
          have HNZ : Hid (nzN (IN.take k) = nzN IN) := hnz
          clear hnz
          by_cases hk0 : k = 0
          · subst hk0
            have HE : Hid (hrD x rc = badR 1) := HE1.out 1 (by unfold inC; rw [← HNZ.out, List.take_zero, nzN_nil, if_pos rfl]) (by decide)
            clear HE1 HE2
            go_wp2_with fail
            refine (l9Bad_c 1 _).mono ?_
            rintro e w2 ⟨rfl, hb⟩
            replace BW := Below.step BW hb
            replace R := R.stay hb
            have c0 := (R.cell 0).trans (show _ = some _ from rfl)
            have c1 := (R.cell 1).trans (show _ = some _ from rfl)
            have c2 := (R.cell 2).trans (show _ = some _ from rfl)
            have c3 := (R.cell 3).trans (show _ = some _ from rfl)
            have c4 := (R.cell 4).trans (show _ = some _ from rfl)
            have c5 := (R.cell 5).trans (show _ = some _ from rfl)
            have fz := R.frozen
            clear hb R A
            go_wp2_with fail
            refine bodyPost_ret (v := .agg #[.int .i64 1, .int .i64 0, .slice none 0 0, .slice none 0 0, .int .i64 0, .int .i64 0]) (by simp [results, Tryz.results15, go_sem, c0, c1, c2, c3, c4, c5]) rfl ⟨[.int .i64 1, .int .i64 0, .slice none 0 0, .slice none 0 0, .int .i64 0, .int .i64 0], [], rfl, by rw [HE.out]; exact badR_own _ _ _, ?_⟩
            exact ((((((BW.setCell (Nat.le_succ _) _).setCell (Nat.le_succ _) _).setCell (Nat.le_succ _) _).setCell (Nat.le_succ _) _).setCell (Nat.le_succ _) _).setCell (Nat.le_succ _) _)
          · obtain ⟨j, rfl⟩ : ∃ j, k = j + 1 := ⟨k - 1, by omega⟩
            have hj : j < IN.length := by omega
            obtain ⟨b, o, e1, hc⟩ := (Rd.own ko).2.2.2 (by omega)
            subst e1
            have cj := hc j hj
            clear hc
            have HA8 : Hid (at8 IN j = ((IN.getD j 0).toNat : Int)) := rfl
            have a0 := at8_lo IN j
            have a1 := at8_hi IN j
            generalize at8 IN j = a at *
            have ej : (((j + 1 : Nat) : Int) - 1) = (j : Int) := by omega
            rw [ej]
            clear ej
            by_cases hz : a = 0
            · have hzI : (a == 0) = true := by rw [beq_iff_eq]; exact hz
              have hnx : nzN (IN.take j) = nzN IN := by rw [← HNZ.out]; exact (nzN_zero hj (UInt8.toNat_inj.1 (by have := HA8.out; have h0 : (0 : UInt8).toNat = 0 := rfl; omega))).symm
              clear hz
              have HNX : Hid (nzN (IN.take j) = nzN IN) := hnx
              clear hnx
              go_wp2_with fail
              exact ⟨⟨j, by omega, rfl, HNX.out⟩, by simp [intOf] <;> omega⟩
            · have hzI : (a == 0) = false := by rw [beq_eq_false_iff_ne]; exact hz
              have HN1 : Hid (nzN IN = j + 1) := by show _ = _; rw [← HNZ.out]; exact nzN_pos hj (fun e => hz (by have := HA8.out; rw [e] at this; exact this))
              clear hz HNZ
              go_wp2_with fail
              refine (l9Kind_c a _).mono ?_
              rintro e w8 ⟨rfl, hw8⟩
              subst w8
              have HAj : Hid (((IN.getD (nzN IN - 1) 0).toNat : Int) = a) := by show _ = _; rw [HN1.out, Nat.add_sub_cancel]; exact HA8.out.symm
              have HIC : Hid (inC IN = if kindB a then (if 200 < j then 2 else 0) else 3) := by show _ = _; unfold inC; rw [HAj.out, HN1.out, if_neg (by omega), Nat.add_sub_cancel]
              cases hkd : kindB a
              · have HE : Hid (hrD x rc = badR 3) := HE1.out 3 (by rw [HIC.out, hkd]; rfl) (by decide)
                clear HE1 HE2
                go_wp2_with fail
                refine (l9Bad_c 3 _).mono ?_
                rintro e w2 ⟨rfl, hb⟩
                replace BW := Below.step BW hb
                replace R := R.stay hb
                have c0 := (R.cell 0).trans (show _ = some _ from rfl)
                have c1 := (R.cell 1).trans (show _ = some _ from rfl)
                have c2 := (R.cell 2).trans (show _ = some _ from rfl)
                have c3 := (R.cell 3).trans (show _ = some _ from rfl)
                have c4 := (R.cell 4).trans (show _ = some _ from rfl)
                have c5 := (R.cell 5).trans (show _ = some _ from rfl)
                have fz := R.frozen
                clear hb R A
                go_wp2_with fail
                refine bodyPost_ret (v := .agg #[.int .i64 3, .int .i64 0, .slice none 0 0, .slice none 0 0, .int .i64 0, .int .i64 0]) (by simp [results, Tryz.results15, go_sem, c0, c1, c2, c3, c4, c5]) rfl ⟨[.int .i64 3, .int .i64 0, .slice none 0 0, .slice none 0 0, .int .i64 0, .int .i64 0], [], rfl, by rw [HE.out]; exact badR_own _ _ _, ?_⟩
                exact ((((((BW.setCell (Nat.le_succ _) _).setCell (Nat.le_succ _) _).setCell (Nat.le_succ _) _).setCell (Nat.le_succ _) _).setCell (Nat.le_succ _) _).setCell (Nat.le_succ _) _)
              · by_cases h200 : 200 < j
                · have HE : Hid (hrD x rc = badR 2) := HE1.out 2 (by rw [HIC.out, hkd, if_pos rfl, if_pos h200]) (by decide)
                  have hI : (200 : Int) < (j : Int) := by omega
                  clear HE1 HE2
                  go_wp2_with fail
                  refine (l9Bad_c 2 _).mono ?_
                  rintro e w2 ⟨rfl, hb⟩
                  replace BW := Below.step BW hb
                  replace R := R.stay hb
                  have c0 := (R.cell 0).trans (show _ = some _ from rfl)
                  have c1 := (R.cell 1).trans (show _ = some _ from rfl)
                  have c2 := (R.cell 2).trans (show _ = some _ from rfl)
                  have c3 := (R.cell 3).trans (show _ = some _ from rfl)
                  have c4 := (R.cell 4).trans (show _ = some _ from rfl)
                  have c5 := (R.cell 5).trans (show _ = some _ from rfl)
                  have fz := R.frozen
                  clear hb R A
                  go_wp2_with fail
                  refine bodyPost_ret (v := .agg #[.int .i64 2, .int .i64 0, .slice none 0 0, .slice none 0 0, .int .i64 0, .int .i64 0]) (by simp [results, Tryz.results15, go_sem, c0, c1, c2, c3, c4, c5]) rfl ⟨[.int .i64 2, .int .i64 0, .slice none 0 0, .slice none 0 0, .int .i64 0, .int .i64 0], [], rfl, by rw [HE.out]; exact badR_own _ _ _, ?_⟩
                  exact ((((((BW.setCell (Nat.le_succ _) _).setCell (Nat.le_succ _) _).setCell (Nat.le_succ _) _).setCell (Nat.le_succ _) _).setCell (Nat.le_succ _) _).setCell (Nat.le_succ _) _)
                · have HE : Hid (hrD x rc = (0, a, IN.take j, nextS x)) := by show _ = _; rw [HE2.out (by rw [HIC.out, hkd, if_pos rfl, if_neg h200]), HAj.out, HN1.out, Nat.add_sub_cancel]
                  have hI : ¬ ((200 : Int) < (j : Int)) := by omega
                  clear HE1 HE2 HIC HAj
                  have HTk : Hid ((IN.take j).length = j) := by show _ = _; rw [List.length_take]; omega
                  have HRt : Hid (∀ (w : World), Rd w (some ⟨b, o, none⟩) qo IN → Rd w (some ⟨b, o, none⟩) qo (IN.take j)) := fun w h => by
                    have h1 := h.cut 0 j qo (by omega) (by omega) (by unfold maxLen; omega)
                    rw [Nat.add_zero, List.drop_zero] at h1
                    exact h1
                  have KC : Hid (∀ w, Rd w (some ⟨b, o, none⟩) qo (IN.take j) → Calls Tryz.prog 38 #[.slice (some ⟨b, o, none⟩) j qo] w fun e w' => ∃ u, e = .returned u ∧ Own w' w.heap.size u (IN.take j) ∧ Below w.heap.size w w') := fun w h => by
                    have h1 := l1Copy_c (some ⟨b, o, none⟩) qo (IN.take j) w h (by have := HTk.out; omega)
                    rw [HTk.out] at h1
                    exact h1
                  go_wp2_with fail
                  have gj := HW.at (cj)
                  have hne := HW.some w7
                  refine wp_region_pick [0, 1, 2, 3, 4, 5, 6, 7] 10 2 2 rfl rfl rfl (by kernel_rfl) (by kernel_rfl) (by kernel_rfl) (by kernel_rfl) ?_
                  simp only [opsAt, List.getElem?_toArray, List.getElem?_cons_zero, List.getElem?_cons_succ]
                  repeat (go_big_quiet_step (fail))
                  refine wpQuiet_nil ?_
                  refine wpM_only (i := 8) (by kernel_rfl) ?_
                  refine mOp_call rfl (by go_simp) 38 _ #[.slice (some ⟨b, o, none⟩) j qo] (fun w => by go_simp) rfl ?_
                  rintro _ ⟨sd8, rfl⟩
                  refine (KC.out _ (HRt.out _ (Rd.own (ko.stay sd8.h)))).mono ?_
                  rintro e wd8a ⟨u, rfl, kc, hbx⟩
                  obtain ⟨pc, qc, rfl, -⟩ := kc.rd
                  rw [HTk.out] at kc ⊢
                  refine ⟨_, rfl, ⟨⟨_, hbx⟩, rfl⟩, ?_⟩
                  have hbg := Below.step sd8.h hbx
                  replace A := A.stay hbg
                  replace R := R.stay hbg
                  replace ko := ko.stay hbg
                  replace gj := HW.down gj hbg
                  replace BW := Below.step BW hbg
                  replace hne := HW.some wd8a
                  have zz8 : Hid (w7.heap.size ≤ wd8a.heap.size) := hbg.size
                  have zs8 : Hid (w7.heap.size ≤ sd8.w.heap.size) := sd8.h.size
                  clear hbg hbx
                  have hkc : Hid (∀ k, (Value.slice pc j qc).ownBlock = some k → k < wd8a.heap.size) := kc.lt
                  refine wpM_only (i := 9) (by kernel_rfl) ?_
                  refine mOp_call rfl (by go_simp) 44 _ #[.pointer (some ⟨w.heap.size, 0, none⟩)] (fun w => by go_simp) rfl ?_
                  rintro _ ⟨sd9, rfl⟩
                  refine (l9Next_c w.heap.size x p q _ (fun i u hu => ((A.stay sd9.h).cell i).trans hu) (HR.out.keep (Below.step BW sd9.h)) (by omega) hsq0 (by omega)).mono ?_
                  rintro e wd9 ⟨u, rfl, kx, hbx⟩
                  obtain ⟨px, qx, rfl, -⟩ := kx.rd
                  refine ⟨_, rfl, ⟨⟨_, hbx⟩, rfl⟩, ?_⟩
                  have hbg := Below.step sd9.h hbx
                  replace A := A.stay hbg
                  replace R := R.stay hbg
                  replace ko := ko.stay hbg
                  replace kc := kc.stay hbg
                  replace gj := HW.down gj hbg
                  replace BW := Below.step BW hbg
                  replace hne := HW.some wd9
                  have zz9 : Hid (wd8a.heap.size ≤ wd9.heap.size) := hbg.size
                  have zs9 : Hid (wd8a.heap.size ≤ sd9.w.heap.size) := sd9.h.size
                  clear hbg hbx
                  refine wpM_end (by kernel_rfl) rfl (by kernel_rfl) (by decide) ?_
                  rintro _ ⟨sdz, rfl⟩
                  simp only [List.drop_succ_cons, List.drop_zero]
                  have hbg : Below _ _ sdz.w := sdz.h
                  replace A := A.stay hbg
                  replace R := R.stay hbg
                  replace ko := ko.stay hbg
                  replace kc := kc.stay hbg
                  replace kx := kx.stay hbg
                  replace BW := Below.step BW hbg
                  have zzz : Hid (wd9.heap.size ≤ sdz.w.heap.size) := hbg.size
                  clear hbg hne gj
                  generalize sdz.w = w9 at *
                  clear sdz
                  have hkx : Hid (∀ k, (Value.slice px x.1.length qx).ownBlock = some k → wd8a.heap.size ≤ k) := fun k hk => Nat.le_trans zs9.out (kx.ge k hk)
                  have hB8 : Hid (w.heap.size + 2 ≤ sd8.w.heap.size) := Nat.le_trans hz7.out zs8.out
                  have hB9 : Hid (w.heap.size + 2 ≤ sd9.w.heap.size) := by have := hz7.out; have := zz8.out; have := zs9.out; show _ ≤ _; omega
                  have c0 := (R.cell 0).trans (show _ = some _ from rfl)
                  have c1 := (R.cell 1).trans (show _ = some _ from rfl)
                  have c2 := (R.cell 2).trans (show _ = some _ from rfl)
                  have c3 := (R.cell 3).trans (show _ = some _ from rfl)
                  have c4 := (R.cell 4).trans (show _ = some _ from rfl)
                  have c5 := (R.cell 5).trans (show _ = some _ from rfl)
                  have fz := R.frozen
                  clear R A ko cj
                  go_wp2_with fail
                  refine bodyPost_ret (v := .agg #[.int .i64 0, .int .i64 a, .slice pc j qc, .slice px x.1.length qx, .int .i64 (x.2.1 + 1), .int .i64 x.2.2]) (by simp [results, Tryz.results15, go_sem, c0, c1, c2, c3, c4, c5]) rfl ?_
                  rw [HE.out]
                  exact ⟨[.int .i64 0, .int .i64 a, .slice pc j qc, .slice px x.1.length qx, .int .i64 (x.2.1 + 1), .int .i64 x.2.2], _, rfl, record_own (s := nextS x) wd8a.heap.size (((((((kc.set (Nat.lt_of_lt_of_le (Nat.lt_succ_self _) hB8.out) _).set (Nat.lt_of_lt_of_le (Nat.lt_succ_self _) hB8.out) _).set (Nat.lt_of_lt_of_le (Nat.lt_succ_self _) hB8.out) _).set (Nat.lt_of_lt_of_le (Nat.lt_succ_self _) hB8.out) _).set (Nat.lt_of_lt_of_le (Nat.lt_succ_self _) hB8.out) _).set (Nat.lt_of_lt_of_le (Nat.lt_succ_self _) hB8.out) _).lower (Nat.le_trans (Nat.le_add_right _ 2) hB8.out)) (((((((kx.set (Nat.lt_of_lt_of_le (Nat.lt_succ_self _) hB9.out) _).set (Nat.lt_of_lt_of_le (Nat.lt_succ_self _) hB9.out) _).set (Nat.lt_of_lt_of_le (Nat.lt_succ_self _) hB9.out) _).set (Nat.lt_of_lt_of_le (Nat.lt_succ_self _) hB9.out) _).set (Nat.lt_of_lt_of_le (Nat.lt_succ_self _) hB9.out) _).set (Nat.lt_of_lt_of_le (Nat.lt_succ_self _) hB9.out) _).lower (Nat.le_trans (Nat.le_add_right _ 2) hB9.out)) hkc.out hkx.out, ((((((BW.setCell (Nat.le_succ _) _).setCell (Nat.le_succ _) _).setCell (Nat.le_succ _) _).setCell (Nat.le_succ _) _).setCell (Nat.le_succ _) _).setCell (Nat.le_succ _) _)⟩
      · have HE : Hid (hrD x rc = badR (oC x rc)) := by show _ = _; unfold hrD hrC; rw [if_pos HA.out, if_pos HB.out, if_neg ho, if_neg ho]
        have hne : (oC x rc != 0) = true := by rw [bne_iff_ne]; exact ho
        clear ho
        generalize oC x rc = oc at *
        go_wp2_with fail
        refine (l9Bad_c oc _).mono ?_
        rintro e w2 ⟨rfl, hb⟩
        replace BW := Below.step BW hb
        replace R := R.stay hb
        have c0 := (R.cell 0).trans (show _ = some _ from rfl)
        have c1 := (R.cell 1).trans (show _ = some _ from rfl)
        have c2 := (R.cell 2).trans (show _ = some _ from rfl)
        have c3 := (R.cell 3).trans (show _ = some _ from rfl)
        have c4 := (R.cell 4).trans (show _ = some _ from rfl)
        have c5 := (R.cell 5).trans (show _ = some _ from rfl)
        have fz := R.frozen
        clear hb R A
        go_wp2_with fail
        refine bodyPost_ret (v := .agg #[.int .i64 oc, .int .i64 0, .slice none 0 0, .slice none 0 0, .int .i64 0, .int .i64 0]) (by simp [results, Tryz.results15, go_sem, c0, c1, c2, c3, c4, c5]) rfl ⟨[.int .i64 oc, .int .i64 0, .slice none 0 0, .slice none 0 0, .int .i64 0, .int .i64 0], [], rfl, by rw [HE.out]; exact badR_own _ _ _, ?_⟩
        exact ((((((BW.setCell (Nat.le_succ _) _).setCell (Nat.le_succ _) _).setCell (Nat.le_succ _) _).setCell (Nat.le_succ _) _).setCell (Nat.le_succ _) _).setCell (Nat.le_succ _) _)
  · have HE : Hid (hrD x rc = badR (askC x)) := by show _ = _; unfold hrD hrC; rw [if_neg ha, if_neg ha]
    have hne : (askC x != 0) = true := by rw [bne_iff_ne]; exact ha
    clear ha
    generalize askC x = ac at *
    go_enter Tryz.func15, Tryz.ntmps15
    go_wp2_with fail
    refine (K).mono ?_
    rintro e w1 ⟨rfl, hw⟩
    subst w1
    go_wp2_with fail
    refine (l9Bad_c ac _).mono ?_
    rintro e w2 ⟨rfl, hb⟩
    replace BW := Below.step BW hb
    replace R := R.stay hb
    have c0 := (R.cell 0).trans (show _ = some _ from rfl)
    have c1 := (R.cell 1).trans (show _ = some _ from rfl)
    have c2 := (R.cell 2).trans (show _ = some _ from rfl)
    have c3 := (R.cell 3).trans (show _ = some _ from rfl)
    have c4 := (R.cell 4).trans (show _ = some _ from rfl)
    have c5 := (R.cell 5).trans (show _ = some _ from rfl)
    have fz := R.frozen
    clear hb R A K
    go_wp2_with fail
    refine bodyPost_ret (v := .agg #[.int .i64 ac, .int .i64 0, .slice none 0 0, .slice none 0 0, .int .i64 0, .int .i64 0]) (by simp [results, Tryz.results15, go_sem, c0, c1, c2, c3, c4, c5]) rfl ⟨[.int .i64 ac, .int .i64 0, .slice none 0 0, .slice none 0 0, .int .i64 0, .int .i64 0], [], rfl, by rw [HE.out]; exact badR_own _ _ _, ?_⟩
    exact ((((((BW.setCell (Nat.le_succ _) _).setCell (Nat.le_succ _) _).setCell (Nat.le_succ _) _).setCell (Nat.le_succ _) _).setCell (Nat.le_succ _) _).setCell (Nat.le_succ _) _)
end Go.Proofs.YtdemfbbjdnjolaaGreatDoor

