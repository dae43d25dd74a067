/- The walk of FnCerts (written by tools/walk_certs.py). -/
import Derived.Test.YtklglpmlfboglaaDrawCu
import Derived.Test.YtklglpmlfboglaaCertJ
import Derived.Test.YtklglpmlfboglaaLwSame
import Derived.Test.YtklglpmlfboglaaBig
import Derived.Test.YtklglpmlfboglaaFields
import Derived.Test.YtklglpmlfboglaaStoreR
namespace Go.Proofs.Ytklglpmlfboglaa
open Go.ChangeShapes Go.WideShapes Go.ChangeAt Go.RowKit

theorem certR_f0 (c x y z : Int) (w : World) : (Instr.field 28 (.agg #[.int .i64 c, .int .i64 x, .int .i64 y, .int .i64 z]) 0).run Try.prog w = .ok (.int .i64 c) w := by kernel_rfl
theorem certR_f1 (c x y z : Int) (w : World) : (Instr.field 28 (.agg #[.int .i64 c, .int .i64 x, .int .i64 y, .int .i64 z]) 1).run Try.prog w = .ok (.agg #[.int .i64 x, .int .i64 y, .int .i64 z]) w := by kernel_rfl
theorem lwSame_b (a b : Option Addr) (ca cb : Nat) (xs bs : List UInt8) (w : World) (hra : Rd w a ca xs) (hrb : Rd w b cb bs) :
    Calls Try.prog 13 #[.slice a xs.length ca, .slice b bs.length cb] w fun e w' => e = .returned (.bool (xs == bs)) ∧ Below w.heap.size w w' := by
  refine Calls.mono (lwSame_c a b ca cb xs bs w hra hrb) ?_
  rintro e w' ⟨rfl, rfl⟩
  exact ⟨rfl, Below.refl _ _⟩
def fdB (l : List CertD) (c : CertD) (k : Nat) : Bool := (l.take k).any fun y => decide (y = c)
theorem fdB_step {l : List CertD} {c y : CertD} {k : Nat} (h : l[k]? = some y) : fdB l c (k + 1) = (fdB l c k || decide (y = c)) := by unfold fdB; rw [List.take_add_one, h]; simp
theorem fdB_all {l : List CertD} {c : CertD} {j : Nat} (h : l[j]? = some c) : fdB l c l.length = true := by
  unfold fdB; rw [List.take_length, List.any_eq_true]; exact ⟨c, List.mem_of_getElem? h, by simp⟩
set_option maxRecDepth 4000 in
set_option maxHeartbeats 8000000 in
theorem fnCerts_walk (a : Option Addr) (cap : Nat) (bs0 : List UInt8) (w : World) (r0 : Rd w a cap bs0) :
    Calls Try.prog 3 #[.slice a bs0.length cap] w fun e w' => e = .returned (.bool true) ∧ Below w.heap.size w w' := by
  by_cases hl0 : 1048576 < bs0.length
  · go_enter Try.func3, Try.ntmps3
    go_wp2_with fail
    refine (lwBig_yes _ _ _ _ hl0).mono ?_
    rintro e w1 ⟨rfl, rfl⟩
    go_wp2
    go_ret
    exact ⟨rfl, Below.refl _ _⟩
  replace hl0 : bs0.length ≤ 1048576 := by omega
  have cf0 := certR_f0
  have cf1 := certR_f1
  have bf0 := bytes_f0
  have bf1 := bytes_f1
  have HR0 : Hid (Rd w a cap bs0) := r0
  clear r0
  go_enter Try.func3, Try.ntmps3
  go_wp2_with fail
  refine (lwBig_no _ _ _ _ hl0).mono ?_
  rintro e w1 ⟨rfl, hw1⟩
  rw [hw1]
  clear hw1 w1
  go_wp2_with fail
  refine (drawUc_c _ _ bs0 _ HR0.out).mono ?_
  rintro e w1 ⟨pd, qd, bs, rfl, hbl, rd, BW⟩
  go_wp2_with fail
  refine (implUc_c bs pd qd _ rd).mono ?_
  rintro e w2 ⟨rfl, hb2⟩
  replace rd := rd.keep hb2
  replace BW := Below.step BW hb2
  clear hb2
  obtain ⟨u, HU⟩ : ∃ u, Hid (ucD bs = u) := ⟨_, rfl⟩
  rw [HU.out]
  have hal := alloc_below w2 (.cells #[.int .i64 u.1, .int .i64 u.2.1, .int .i64 u.2.2.1, .int .i64 u.2.2.2] 28)
  have A := Arr.new w2 [.int .i64 u.1, .int .i64 u.2.1, .int .i64 u.2.2.1, .int .i64 u.2.2.2] 28
  replace rd := rd.keep hal
  replace BW := Below.step BW hal
  clear hal
  have J1 : Hid (∀ V : World, Rd V pd qd bs → Arr V w2.heap.size 28 [.int .i64 u.1, .int .i64 u.2.1, .int .i64 u.2.2.1, .int .i64 u.2.2.2] → Below w.heap.size w V → True) := fun _ _ _ _ => trivial
  clear J1
  go_wp2_with fail
  generalize hV : w2.alloc (.cells #[.int .i64 u.1, .int .i64 u.2.1, .int .i64 u.2.2.1, .int .i64 u.2.2.2] 28) = V at *
  clear hV
  have l0 := (A.cell 0).trans (show _ = some _ from rfl)
  have l1 := (A.cell 1).trans (show _ = some _ from rfl)
  have l2 := (A.cell 2).trans (show _ = some _ from rfl)
  have l3 := (A.cell 3).trans (show _ = some _ from rfl)
  have KS : Hid (∀ W : World, Below V.heap.size V W → Calls Try.prog 12 #[.slice pd bs.length qd] W fun e w' => e = .returned (aggC u) ∧ Below W.heap.size W w') := fun W hW => by have h := specUc_c bs pd qd W (rd.keep hW); rw [HU.out] at h; exact h
  have dn : (u.1 != u.1) = false := by simp
  by_cases hu : u.1 = 0
  · have hpr := pcL_read (l := bs) (by rw [HU.out]; exact hu)
    rw [HU.out] at hpr
    have du : (u.1 == 0) = true := by rw [beq_iff_eq]; exact hu
    have KP : Hid (∀ W : World, Below V.heap.size V W → Calls Try.prog 14 #[.agg #[.int .i64 u.2.1, .int .i64 u.2.2.1, .int .i64 u.2.2.2]] W fun e w' => ∃ v, e = .returned (.agg #[.int .i64 0, v]) ∧ Own w' W.heap.size v bs ∧ Below W.heap.size W w') := fun W hW => by
      have h := implPc_c u.2 W
      rw [show pcD u.2 = (0, bs) by simp [pcD, hpr.1, hpr.2]] at h
      exact h
    clear hpr hu
    apply share
    case h =>
      intro JN
      have BB := Below.refl V.heap.size V
      have hne := HW.some V
      have g0 := HW.at (l0)
      have g1 := HW.at (l1)
      have g2 := HW.at (l2)
      have g3 := HW.at (l3)
      refine wp_region_pick [0, 1, 2] 19 16 1 rfl rfl rfl (by kernel_rfl) (by kernel_rfl) (by kernel_rfl) (by kernel_rfl) ?_
      simp only [opsAt, List.getElem?_toArray, List.getElem?_cons_zero, List.getElem?_cons_succ]
      repeat (go_big_quiet_step (fail))
      refine wpQuiet_nil ?_
      clear g0 g1 g2 g3
      refine wpM_only (i := 3) (by kernel_rfl) ?_
      refine mOp_call rfl (by go_simp) 12 _ #[.slice pd bs.length qd] (fun w => by go_simp) rfl ?_
      rintro _ ⟨sg, rfl⟩
      refine (KS.out _ (Below.step BB sg.h)).mono ?_
      rintro e wg1 ⟨rfl, hbx⟩
      have hbg := Below.step sg.h hbx
      refine ⟨_, rfl, ⟨⟨wg1, hbx⟩, rfl⟩, ?_⟩
      replace BB := Below.step BB hbg
      clear hbg hbx sg
      replace hne := HW.some wg1
      have hg0 := HW.at (cell_keep (l0) BB)
      have hg1 := HW.at (cell_keep (l1) BB)
      have hg2 := HW.at (cell_keep (l2) BB)
      have hg3 := HW.at (cell_keep (l3) BB)
      refine wpM_more [4, 5, 6, 7, 8, 9, 10, 11, 12, 15] 15 5 rfl (by kernel_rfl) (by kernel_rfl) (by kernel_rfl) (by kernel_rfl) ?_
      simp only [opsAt, List.getElem?_toArray, List.getElem?_cons_zero, List.getElem?_cons_succ]
      go_simp
      repeat (go_big_quiet_step (fail))
      refine wpQuiet_nil ?_
      clear hg0 hg1 hg2 hg3
      refine wpM_only (i := 13) (by kernel_rfl) ?_
      refine mOp_call rfl (by go_simp) 14 _ #[.agg #[.int .i64 u.2.1, .int .i64 u.2.2.1, .int .i64 u.2.2.2]] (fun w => by go_simp) rfl ?_
      rintro _ ⟨sg, rfl⟩
      refine (KP.out _ (Below.step BB sg.h)).mono ?_
      rintro e wg2 ⟨v, rfl, kv, hbx⟩
      obtain ⟨pv, qv, rfl, rv⟩ := kv.rd
      have hbg := Below.step sg.h hbx
      refine ⟨_, rfl, ⟨⟨wg2, hbx⟩, rfl⟩, ?_⟩
      have RV := rv
      replace BB := Below.step BB hbg
      clear hbg hbx sg kv rv
      replace hne := HW.some wg2
      have hg0 := HW.at (cell_keep (l0) BB)
      have hg1 := HW.at (cell_keep (l1) BB)
      have hg2 := HW.at (cell_keep (l2) BB)
      have hg3 := HW.at (cell_keep (l3) BB)
      refine wpM_more [14] 4 3 rfl (by kernel_rfl) (by kernel_rfl) (by kernel_rfl) (by kernel_rfl) ?_
      simp only [opsAt, List.getElem?_toArray, List.getElem?_cons_zero, List.getElem?_cons_succ]
      go_simp
      repeat (go_big_quiet_step (fail))
      refine wpQuiet_nil ?_
      clear hg0 hg1 hg2 hg3
      refine wpM_only (i := 16) (by kernel_rfl) ?_
      refine mOp_call rfl (by go_simp) 13 _ #[.slice pv bs.length qv, .slice pd bs.length qd] (fun w => by go_simp) rfl ?_
      rintro _ ⟨sg, rfl⟩
      refine (lwSame_b _ _ _ _ bs bs _ (RV.keep sg.h) (rd.keep (Below.step BB sg.h))).mono ?_
      rintro e wg3 ⟨rfl, hbx⟩
      have hbg := Below.step sg.h hbx
      refine ⟨_, rfl, ⟨⟨wg3, hbx⟩, rfl⟩, ?_⟩
      replace RV := RV.keep hbg
      replace BB := Below.step BB hbg
      clear hbg hbx sg
      replace hne := HW.some wg3
      have hg0 := HW.at (cell_keep (l0) BB)
      have hg1 := HW.at (cell_keep (l1) BB)
      have hg2 := HW.at (cell_keep (l2) BB)
      have hg3 := HW.at (cell_keep (l3) BB)
      refine wpM_more [17, 18] 2 0 rfl (by kernel_rfl) (by kernel_rfl) (by kernel_rfl) (by kernel_rfl) ?_
      simp only [opsAt, List.getElem?_toArray, List.getElem?_cons_zero, List.getElem?_cons_succ]
      go_simp
      repeat (go_big_quiet_step (fail))
      refine wpQuiet_nil ?_
      clear hg0 hg1 hg2 hg3
      refine wpM_end (by kernel_rfl) rfl (by kernel_rfl) (by decide) ?_
      rintro _ ⟨sz, rfl⟩
      simp only [List.drop_succ_cons, List.drop_zero]
      go_simp
      replace RV := RV.keep sz.h
      replace BB := Below.step BB sz.h
      clear hne
      generalize sz.w = W at *
      clear sz
      revert RV
      revert BB
      revert qv
      revert pv
      revert W
      exact JN.out
    case hj =>
    intro W pv qv BB RV
    replace BW := Below.step BW BB
    clear RV KP du BB KS rd l0 l1 l2 l3 dn A
    go_wp2_with fail
    refine (drawPc_c _ _ bs0 _ (HR0.out.keep BW)).mono ?_
    rintro e w3 ⟨c, rfl, hb3⟩
    have B3 := Below.mk (Below.step BW hb3) (.cells #[.int .i64 c.1, .int .i64 c.2.1, .int .i64 c.2.2] 26)
    have C := Arr.new w3 [.int .i64 c.1, .int .i64 c.2.1, .int .i64 c.2.2] 26
    clear BW hb3
    have m0 := (C.cell 0).trans (show _ = some _ from rfl)
    have m1 := (C.cell 1).trans (show _ = some _ from rfl)
    have m2 := (C.cell 2).trans (show _ = some _ from rfl)
    go_wp2_with fail
    refine (implPc_c c _).mono ?_
    rintro e w4 ⟨v4, rfl, k4, hb4⟩
    obtain ⟨p4, q4, rfl, -⟩ := k4.rd
    obtain ⟨pp, HP⟩ : ∃ pp, Hid (pcD c = pp) := ⟨_, rfl⟩
    rw [HP.out] at k4
    rw [HP.out]
    have hal := alloc_below w4 (.cells #[.int .i64 pp.1, .slice p4 pp.2.length q4] 32)
    have P := Arr.new w4 [.int .i64 pp.1, .slice p4 pp.2.length q4] 32
    replace C := (C.stay hb4).stay hal
    have R4 := (Rd.own k4).keep hal
    have B4 := Below.step (Below.step B3 hb4) hal
    clear k4 hb4 hal B3
    clear m0
    clear m1
    clear m2
    go_wp2_with fail
    generalize hV4 : w4.alloc (.cells #[.int .i64 pp.1, .slice p4 pp.2.length q4] 32) = V4 at *
    clear hV4
    have m0 := (C.cell 0).trans (show _ = some _ from rfl)
    have m1 := (C.cell 1).trans (show _ = some _ from rfl)
    have m2 := (C.cell 2).trans (show _ = some _ from rfl)
    have n0 := (P.cell 0).trans (show _ = some _ from rfl)
    have n1 := (P.cell 1).trans (show _ = some _ from rfl)
    have dn : (pp.1 != pp.1) = false := by simp
    have KS : Hid (∀ W : World, Below V4.heap.size V4 W → Calls Try.prog 16 #[.agg #[.int .i64 c.1, .int .i64 c.2.1, .int .i64 c.2.2]] W fun e w' => ∃ v, e = .returned (.agg #[.int .i64 pp.1, v]) ∧ Own w' W.heap.size v pp.2 ∧ Below W.heap.size W w') := fun W hW => by have h := specPc_c c W; rw [HP.out] at h; exact h
    cases hc : okC c
    · have du : (pp.1 == 0) = false := by rw [← HP.out, pcD, hc]; rfl
      clear hc
      apply share
      case h =>
        intro JN
        have BB := Below.refl V4.heap.size V4
        have hne := HW.some V4
        have g0 := HW.at (m0)
        have g1 := HW.at (m1)
        have g2 := HW.at (m2)
        have f0 := HW.at (n0)
        have f1 := HW.at (n1)
        refine wp_region_pick [0, 1, 2] 18 15 1 rfl rfl rfl (by kernel_rfl) (by kernel_rfl) (by kernel_rfl) (by kernel_rfl) ?_
        simp only [opsAt, List.getElem?_toArray, List.getElem?_cons_zero, List.getElem?_cons_succ]
        repeat (go_big_quiet_step (fail))
        refine wpQuiet_nil ?_
        clear g0 g1 g2 f0 f1
        refine wpM_only (i := 3) (by kernel_rfl) ?_
        refine mOp_call rfl (by go_simp) 16 _ #[.agg #[.int .i64 c.1, .int .i64 c.2.1, .int .i64 c.2.2]] (fun w => by go_simp) rfl ?_
        rintro _ ⟨sg, rfl⟩
        refine (KS.out _ (Below.step BB sg.h)).mono ?_
        rintro e wg1 ⟨v, rfl, kv, hbx⟩
        obtain ⟨pv, qv, rfl, -⟩ := kv.rd
        have hbg := Below.step sg.h hbx
        refine ⟨_, rfl, ⟨⟨wg1, hbx⟩, rfl⟩, ?_⟩
        replace BB := Below.step BB hbg
        clear hbg hbx sg kv
        replace hne := HW.some wg1
        have hg0 := HW.at (cell_keep (m0) BB)
        have hg1 := HW.at (cell_keep (m1) BB)
        have hg2 := HW.at (cell_keep (m2) BB)
        have hf0 := HW.at (cell_keep (n0) BB)
        have hf1 := HW.at (cell_keep (n1) BB)
        refine wpM_more [4, 5, 6, 7, 8, 9, 10, 11, 12, 15] 14 4 rfl (by kernel_rfl) (by kernel_rfl) (by kernel_rfl) (by kernel_rfl) ?_
        simp only [opsAt, List.getElem?_toArray, List.getElem?_cons_zero, List.getElem?_cons_succ]
        go_simp
        repeat (go_big_quiet_step (fail))
        refine wpQuiet_nil ?_
        clear hg0 hg1 hg2 hf0 hf1
        refine wpM_only (i := 13) (by kernel_rfl) ?_
        refine mOp_skip rfl (by go_simp) ?_
        have hg0 := HW.at (cell_keep (m0) BB)
        have hg1 := HW.at (cell_keep (m1) BB)
        have hg2 := HW.at (cell_keep (m2) BB)
        have hf0 := HW.at (cell_keep (n0) BB)
        have hf1 := HW.at (cell_keep (n1) BB)
        refine wpM_more [14, 16, 17] 3 0 rfl (by kernel_rfl) (by kernel_rfl) (by kernel_rfl) (by kernel_rfl) ?_
        simp only [opsAt, List.getElem?_toArray, List.getElem?_cons_zero, List.getElem?_cons_succ]
        go_simp
        repeat (go_big_quiet_step (fail))
        refine wpQuiet_nil ?_
        clear hg0 hg1 hg2 hf0 hf1
        refine wpM_end (by kernel_rfl) rfl (by kernel_rfl) (by decide) ?_
        rintro _ ⟨sz, rfl⟩
        simp only [List.drop_succ_cons, List.drop_zero]
        go_simp
        replace BB := Below.step BB sz.h
        clear hne
        generalize sz.w = W4 at *
        clear sz
        revert BB
        revert qv
        revert pv
        revert W4
        exact JN.out
      case hj =>
      intro W4 pv qv BB
      replace B4 := Below.step B4 BB
      clear du BB KS R4 dn C P m0 m1 m2 n0 n1
      go_wp2_with fail
      refine (drawLk_c _ _ bs0 _ (HR0.out.keep B4)).mono ?_
      rintro e w5 ⟨l, pl, ql, id, rfl, hll, hi1, hi6, rl, hb5⟩
      replace B4 := Below.step B4 hb5
      clear hb5
      have hq1 : l.length ≤ ql := rl.1
      have hq2 : ql ≤ 2 ^ 63 - 1 := rl.2.1
      go_wp2_with fail
      refine (implLk_c l pl ql id _ rl).mono ?_
      rintro e w6 ⟨rfl, hb6⟩
      obtain ⟨x, HX⟩ : ∃ x, Hid (lkD l id = x) := ⟨_, rfl⟩
      rw [HX.out]
      have hal := alloc_below w6 (.cells #[.int .i64 x.1, .int .i64 x.2.1, .int .i64 x.2.2.1, .int .i64 x.2.2.2] 28)
      have A := Arr.new w6 [.int .i64 x.1, .int .i64 x.2.1, .int .i64 x.2.2.1, .int .i64 x.2.2.2] 28
      replace rl := (rl.keep hb6).keep hal
      have B6 := Below.step (Below.step B4 hb6) hal
      clear hb6 hal B4
      have l0 := (A.cell 0).trans (show _ = some _ from rfl)
      have l1 := (A.cell 1).trans (show _ = some _ from rfl)
      have l2 := (A.cell 2).trans (show _ = some _ from rfl)
      have l3 := (A.cell 3).trans (show _ = some _ from rfl)
      by_cases hx : x.1 = 0
      · have hlk := lkD_ok (l := l) (id := id) (by rw [HX.out]; exact hx)
        rw [HX.out] at hlk
        obtain ⟨hct, hhas, hx2⟩ := hlk
        obtain ⟨j0, hj0, hjd⟩ := foC_mem hhas
        rw [← hx2] at hj0 hjd
        have HCT : Hid (ctC l = 0) := hct
        have HJ : Hid (l[j0]? = some x.2) := hj0
        have hid : (x.2.1 == id) = true := by rw [beq_iff_eq]; exact hjd
        have dx : (x.1 != 0) = false := by rw [bne_eq_false_iff_eq]; exact hx
        have HR : Hid (RdL certC _ pl ql l) := rl
        clear hct hhas hx2 hj0 hjd hx rl
        go_wp2_with fail
        generalize hV6 : w6.alloc (.cells #[.int .i64 x.1, .int .i64 x.2.1, .int .i64 x.2.2.1, .int .i64 x.2.2.2] 28) = V6 at *
        clear hV6
        have HB6 : Hid (Below w.heap.size w V6) := B6
        clear B6 l0 l1 l2 l3
        go_loopw [10, 11] (fun f i wr => Below V6.heap.size V6 wr ∧ ∃ k : Nat, k ≤ l.length ∧ i = .int .i64 k ∧ f = .bool (fdB l x.2 k))
          (fun _ i _ => l.length - (intOf i).toNat)
        case atStart => exact ⟨Below.refl _ _, 0, Nat.zero_le _, rfl, rfl⟩
        case round =>
          obtain ⟨BV, k, hk, rfl, rfl⟩ := hrel
          replace A := A.stay BV
          replace HR : Hid (RdL certC wr pl ql l) := HR.out.keep BV
          have l0 := (A.cell 0).trans (show _ = some _ from rfl)
          have l1 := (A.cell 1).trans (show _ = some _ from rfl)
          have l2 := (A.cell 2).trans (show _ = some _ from rfl)
          have l3 := (A.cell 3).trans (show _ = some _ from rfl)
          by_cases hlt : k < l.length
          · have hI : (k : Int) < (l.length : Int) := by omega
            obtain ⟨b, o, e1, hc⟩ := HR.out.2.2.2 (by omega)
            subst e1
            obtain ⟨y, hy⟩ : ∃ y, l[k]? = some y := ⟨l[k], by simp [hlt]⟩
            obtain ⟨us, hrep, hcell⟩ := hc k y hy
            obtain rfl := cert_rep hrep
            have c0 := hcell 0 _ rfl
            have c1 := hcell 1 _ rfl
            have c2 := hcell 2 _ rfl
            rw [show certC.n = 3 from rfl] at c0 c1 c2
            rw [Nat.add_zero] at c0
            have HF : Hid (fdB l x.2 (k + 1) = (fdB l x.2 k || decide (y = x.2))) := fdB_step hy
            clear hc hcell hrep
            cases hf : fdB l x.2 k
            · by_cases hyx : y = x.2
              · have HN : Hid (fdB l x.2 (k + 1) = true) := by show _ = _; rw [HF.out, hf]; simp [hyx]
                subst hyx
                clear hy
                go_wp2_with fail
                apply share
                case h =>
                  intro JN
                  have BB := Below.refl wr.heap.size wr
                  have hne := HW.some wr
                  have g0 := HW.at (l0)
                  have g1 := HW.at (l1)
                  have g2 := HW.at (l2)
                  have g3 := HW.at (l3)
                  have f0 := HW.at (c0)
                  have f1 := HW.at (c1)
                  have f2 := HW.at (c2)
                  refine wp_region_pick [0, 1, 2, 3, 4, 5, 6, 7, 8, 9] 10 0 1 rfl rfl rfl (by kernel_rfl) (by kernel_rfl) (by kernel_rfl) (by kernel_rfl) ?_
                  simp only [opsAt, List.getElem?_toArray, List.getElem?_cons_zero, List.getElem?_cons_succ]
                  repeat (go_big_quiet_step (fail))
                  refine wpQuiet_nil ?_
                  clear g0 g1 g2 g3 f0 f1 f2
                  refine wpM_end (by kernel_rfl) rfl (by kernel_rfl) (by decide) ?_
                  rintro _ ⟨sz, rfl⟩
                  simp only [List.drop_succ_cons, List.drop_zero]
                  go_simp
                  replace BB := Below.step BB sz.h
                  clear hne
                  generalize sz.w = W7 at *
                  clear sz
                  revert BB
                  revert W7
                  exact JN.out
                case hj =>
                intro W7 BB
                have BV7 := Below.step BV BB
                clear A HR BV l0 l1 l2 l3 c0 c1 c2 BB
                go_wp2_with fail
                go_roundw
                case rel => exact ⟨BV7, k + 1, by omega, by go_num, by rw [HN.out]⟩
                case measure => simp [intOf]; omega
              · have HN : Hid (fdB l x.2 (k + 1) = false) := by show _ = _; rw [HF.out, hf]; simp [hyx]
                by_cases h1 : y.1 = x.2.1
                · have d1 : (y.1 == x.2.1) = true := by rw [beq_iff_eq]; exact h1
                  by_cases h2 : y.2.1 = x.2.2.1
                  · have d2 : (y.2.1 == x.2.2.1) = true := by rw [beq_iff_eq]; exact h2
                    have d3 : (y.2.2 == x.2.2.2) = false := by rw [beq_eq_false_iff_ne]; exact fun h3 => hyx (Prod.ext h1 (Prod.ext h2 h3))
                    clear h1 h2 hyx
                    go_wp2_with fail
                    apply share
                    case h =>
                      intro JN
                      have BB := Below.refl wr.heap.size wr
                      have hne := HW.some wr
                      have g0 := HW.at (l0)
                      have g1 := HW.at (l1)
                      have g2 := HW.at (l2)
                      have g3 := HW.at (l3)
                      have f0 := HW.at (c0)
                      have f1 := HW.at (c1)
                      have f2 := HW.at (c2)
                      refine wp_region_pick [0, 1, 2, 3, 4, 5, 6, 7, 8, 9] 10 0 1 rfl rfl rfl (by kernel_rfl) (by kernel_rfl) (by kernel_rfl) (by kernel_rfl) ?_
                      simp only [opsAt, List.getElem?_toArray, List.getElem?_cons_zero, List.getElem?_cons_succ]
                      repeat (go_big_quiet_step (fail))
                      refine wpQuiet_nil ?_
                      clear g0 g1 g2 g3 f0 f1 f2
                      refine wpM_end (by kernel_rfl) rfl (by kernel_rfl) (by decide) ?_
                      rintro _ ⟨sz, rfl⟩
                      simp only [List.drop_succ_cons, List.drop_zero]
                      go_simp
                      replace BB := Below.step BB sz.h
                      clear hne
                      generalize sz.w = W7 at *
                      clear sz
                      revert BB
                      revert W7
                      exact JN.out
                    case hj =>
                    intro W7 BB
                    have BV7 := Below.step BV BB
                    clear A HR BV l0 l1 l2 l3 c0 c1 c2 BB
                    go_wp2_with fail
                    go_roundw
                    case rel => exact ⟨BV7, k + 1, by omega, by go_num, by rw [HN.out]⟩
                    case measure => simp [intOf]; omega
                  · have d2 : (y.2.1 == x.2.2.1) = false := by rw [beq_eq_false_iff_ne]; exact h2
                    clear h1 h2 hyx
                    go_wp2_with fail
                    apply share
                    case h =>
                      intro JN
                      have BB := Below.refl wr.heap.size wr
                      have hne := HW.some wr
                      have g0 := HW.at (l0)
                      have g1 := HW.at (l1)
                      have g2 := HW.at (l2)
                      have g3 := HW.at (l3)
                      have f0 := HW.at (c0)
                      have f1 := HW.at (c1)
                      have f2 := HW.at (c2)
                      refine wp_region_pick [0, 1, 2, 3, 4, 5, 6, 7, 8, 9] 10 0 1 rfl rfl rfl (by kernel_rfl) (by kernel_rfl) (by kernel_rfl) (by kernel_rfl) ?_
                      simp only [opsAt, List.getElem?_toArray, List.getElem?_cons_zero, List.getElem?_cons_succ]
                      repeat (go_big_quiet_step (fail))
                      refine wpQuiet_nil ?_
                      clear g0 g1 g2 g3 f0 f1 f2
                      refine wpM_end (by kernel_rfl) rfl (by kernel_rfl) (by decide) ?_
                      rintro _ ⟨sz, rfl⟩
                      simp only [List.drop_succ_cons, List.drop_zero]
                      go_simp
                      replace BB := Below.step BB sz.h
                      clear hne
                      generalize sz.w = W7 at *
                      clear sz
                      revert BB
                      revert W7
                      exact JN.out
                    case hj =>
                    intro W7 BB
                    have BV7 := Below.step BV BB
                    clear A HR BV l0 l1 l2 l3 c0 c1 c2 BB
                    go_wp2_with fail
                    go_roundw
                    case rel => exact ⟨BV7, k + 1, by omega, by go_num, by rw [HN.out]⟩
                    case measure => simp [intOf]; omega
                · have d1 : (y.1 == x.2.1) = false := by rw [beq_eq_false_iff_ne]; exact h1
                  clear h1 hyx
                  go_wp2_with fail
                  apply share
                  case h =>
                    intro JN
                    have BB := Below.refl wr.heap.size wr
                    have hne := HW.some wr
                    have g0 := HW.at (l0)
                    have g1 := HW.at (l1)
                    have g2 := HW.at (l2)
                    have g3 := HW.at (l3)
                    have f0 := HW.at (c0)
                    have f1 := HW.at (c1)
                    have f2 := HW.at (c2)
                    refine wp_region_pick [0, 1, 2, 3, 4, 5, 6, 7, 8, 9] 10 0 1 rfl rfl rfl (by kernel_rfl) (by kernel_rfl) (by kernel_rfl) (by kernel_rfl) ?_
                    simp only [opsAt, List.getElem?_toArray, List.getElem?_cons_zero, List.getElem?_cons_succ]
                    repeat (go_big_quiet_step (fail))
                    refine wpQuiet_nil ?_
                    clear g0 g1 g2 g3 f0 f1 f2
                    refine wpM_end (by kernel_rfl) rfl (by kernel_rfl) (by decide) ?_
                    rintro _ ⟨sz, rfl⟩
                    simp only [List.drop_succ_cons, List.drop_zero]
                    go_simp
                    replace BB := Below.step BB sz.h
                    clear hne
                    generalize sz.w = W7 at *
                    clear sz
                    revert BB
                    revert W7
                    exact JN.out
                  case hj =>
                  intro W7 BB
                  have BV7 := Below.step BV BB
                  clear A HR BV l0 l1 l2 l3 c0 c1 c2 BB
                  go_wp2_with fail
                  go_roundw
                  case rel => exact ⟨BV7, k + 1, by omega, by go_num, by rw [HN.out]⟩
                  case measure => simp [intOf]; omega
            · have HN : Hid (fdB l x.2 (k + 1) = true) := by show _ = _; rw [HF.out, hf]; rfl
              go_wp2_with fail
              apply share
              case h =>
                intro JN
                have BB := Below.refl wr.heap.size wr
                have hne := HW.some wr
                have g0 := HW.at (l0)
                have g1 := HW.at (l1)
                have g2 := HW.at (l2)
                have g3 := HW.at (l3)
                have f0 := HW.at (c0)
                have f1 := HW.at (c1)
                have f2 := HW.at (c2)
                refine wp_region_pick [0, 1, 2, 3, 4, 5, 6, 7, 8, 9] 10 0 1 rfl rfl rfl (by kernel_rfl) (by kernel_rfl) (by kernel_rfl) (by kernel_rfl) ?_
                simp only [opsAt, List.getElem?_toArray, List.getElem?_cons_zero, List.getElem?_cons_succ]
                repeat (go_big_quiet_step (fail))
                refine wpQuiet_nil ?_
                clear g0 g1 g2 g3 f0 f1 f2
                refine wpM_end (by kernel_rfl) rfl (by kernel_rfl) (by decide) ?_
                rintro _ ⟨sz, rfl⟩
                simp only [List.drop_succ_cons, List.drop_zero]
                go_simp
                replace BB := Below.step BB sz.h
                clear hne
                generalize sz.w = W7 at *
                clear sz
                revert BB
                revert W7
                exact JN.out
              case hj =>
              intro W7 BB
              have BV7 := Below.step BV BB
              clear A HR BV l0 l1 l2 l3 c0 c1 c2 BB
              go_wp2_with fail
              go_roundw
              case rel => exact ⟨BV7, k + 1, by omega, by go_num, by rw [HN.out]⟩
              case measure => simp [intOf]; omega
          · have e9 : k = l.length := by omega
            subst e9
            have HT : Hid (fdB l x.2 l.length = true) := fdB_all HJ.out
            rw [HT.out]
            have KC : Hid (Calls Try.prog 20 #[.slice pl l.length ql] wr fun e w' => e = .returned (.int .i64 0) ∧ Below wr.heap.size wr w') := by have h := implCt_c l pl ql wr HR.out; rw [HCT.out] at h; exact h
            have B9 := Below.step HB6.out BV
            clear BV HR A
            go_wp2_with fail
            refine KC.out.mono ?_
            rintro e w9 ⟨rfl, hb9⟩
            go_wp2_with fail
            go_ret
            exact ⟨rfl, Below.step B9 hb9⟩
      · have dx : (x.1 != 0) = true := by rw [bne_iff_ne]; exact hx
        have ds : (x.1 == x.1) = true := by simp
        go_wp2_with fail
        generalize hV6 : w6.alloc (.cells #[.int .i64 x.1, .int .i64 x.2.1, .int .i64 x.2.2.1, .int .i64 x.2.2.2] 28) = V6 at *
        clear hV6
        have KS : Hid (∀ W : World, Below V6.heap.size V6 W → Calls Try.prog 19 #[.slice pl l.length ql, .int .i64 id] W fun e w' => e = .returned (aggC x) ∧ Below W.heap.size W w') := fun W hW => by have h := specLk_c l pl ql id W (rl.keep hW); rw [HX.out] at h; exact h
        apply share
        case h =>
          intro JN
          have BB := Below.refl V6.heap.size V6
          have hne := HW.some V6
          have g0 := HW.at (l0)
          have g1 := HW.at (l1)
          have g2 := HW.at (l2)
          have g3 := HW.at (l3)
          refine wp_region_pick [0, 1, 4, 5] 6 2 2 rfl rfl rfl (by kernel_rfl) (by kernel_rfl) (by kernel_rfl) (by kernel_rfl) ?_
          simp only [opsAt, List.getElem?_toArray, List.getElem?_cons_zero, List.getElem?_cons_succ]
          repeat (go_big_quiet_step (fail))
          refine wpQuiet_nil ?_
          clear g0 g1 g2 g3
          refine wpM_only (i := 2) (by kernel_rfl) ?_
          refine mOp_call rfl (by go_simp) 19 _ #[.slice pl l.length ql, .int .i64 id] (fun w => by go_simp) rfl ?_
          rintro _ ⟨sg, rfl⟩
          refine (KS.out _ (Below.step BB sg.h)).mono ?_
          rintro e wg1 ⟨rfl, hbx⟩
          have hbg := Below.step sg.h hbx
          refine ⟨_, rfl, ⟨⟨wg1, hbx⟩, rfl⟩, ?_⟩
          replace BB := Below.step BB hbg
          clear hbg hbx sg
          replace hne := HW.some wg1
          have hg0 := HW.at (cell_keep (l0) BB)
          have hg1 := HW.at (cell_keep (l1) BB)
          have hg2 := HW.at (cell_keep (l2) BB)
          have hg3 := HW.at (cell_keep (l3) BB)
          refine wpM_more [3] 1 0 rfl (by kernel_rfl) (by kernel_rfl) (by kernel_rfl) (by kernel_rfl) ?_
          simp only [opsAt, List.getElem?_toArray, List.getElem?_cons_zero, List.getElem?_cons_succ]
          go_simp
          repeat (go_big_quiet_step (fail))
          refine wpQuiet_nil ?_
          clear hg0 hg1 hg2 hg3
          refine wpM_end (by kernel_rfl) rfl (by kernel_rfl) (by decide) ?_
          rintro _ ⟨sz, rfl⟩
          simp only [List.drop_succ_cons, List.drop_zero]
          go_simp
          replace BB := Below.step BB sz.h
          clear hne
          generalize sz.w = W6 at *
          clear sz
          revert BB
          revert W6
          exact JN.out
        case hj =>
        intro W6 BB
        go_wp2_with fail
        go_ret
        exact ⟨rfl, Below.step B6 BB⟩
    · have hpp : pp = (0, pcL c) := by rw [← HP.out, pcD, hc]; rfl
      have du : (pp.1 == 0) = true := by rw [hpp]; rfl
      have KU : Hid (∀ W : World, Below V4.heap.size V4 W → Calls Try.prog 11 #[.slice p4 pp.2.length q4] W fun e w' => e = .returned (.agg #[.int .i64 0, .int .i64 c.1, .int .i64 c.2.1, .int .i64 c.2.2]) ∧ Below W.heap.size W w') := fun W hW => by
        have h := implUc_c pp.2 p4 q4 W (R4.keep hW)
        rw [show ucD pp.2 = (0, c) by rw [hpp]; exact rdC_pack hc] at h
        exact h
      clear hc hpp
      apply share
      case h =>
        intro JN
        have BB := Below.refl V4.heap.size V4
        have hne := HW.some V4
        have g0 := HW.at (m0)
        have g1 := HW.at (m1)
        have g2 := HW.at (m2)
        have f0 := HW.at (n0)
        have f1 := HW.at (n1)
        refine wp_region_pick [0, 1, 2] 18 15 1 rfl rfl rfl (by kernel_rfl) (by kernel_rfl) (by kernel_rfl) (by kernel_rfl) ?_
        simp only [opsAt, List.getElem?_toArray, List.getElem?_cons_zero, List.getElem?_cons_succ]
        repeat (go_big_quiet_step (fail))
        refine wpQuiet_nil ?_
        clear g0 g1 g2 f0 f1
        refine wpM_only (i := 3) (by kernel_rfl) ?_
        refine mOp_call rfl (by go_simp) 16 _ #[.agg #[.int .i64 c.1, .int .i64 c.2.1, .int .i64 c.2.2]] (fun w => by go_simp) rfl ?_
        rintro _ ⟨sg, rfl⟩
        refine (KS.out _ (Below.step BB sg.h)).mono ?_
        rintro e wg1 ⟨v, rfl, kv, hbx⟩
        obtain ⟨pv, qv, rfl, -⟩ := kv.rd
        have hbg := Below.step sg.h hbx
        refine ⟨_, rfl, ⟨⟨wg1, hbx⟩, rfl⟩, ?_⟩
        replace BB := Below.step BB hbg
        clear hbg hbx sg kv
        replace hne := HW.some wg1
        have hg0 := HW.at (cell_keep (m0) BB)
        have hg1 := HW.at (cell_keep (m1) BB)
        have hg2 := HW.at (cell_keep (m2) BB)
        have hf0 := HW.at (cell_keep (n0) BB)
        have hf1 := HW.at (cell_keep (n1) BB)
        refine wpM_more [4, 5, 6, 7, 8, 9, 10, 11, 12, 15] 14 4 rfl (by kernel_rfl) (by kernel_rfl) (by kernel_rfl) (by kernel_rfl) ?_
        simp only [opsAt, List.getElem?_toArray, List.getElem?_cons_zero, List.getElem?_cons_succ]
        go_simp
        repeat (go_big_quiet_step (fail))
        refine wpQuiet_nil ?_
        clear hg0 hg1 hg2 hf0 hf1
        refine wpM_only (i := 13) (by kernel_rfl) ?_
        refine mOp_call rfl (by go_simp) 11 _ #[.slice p4 pp.2.length q4] (fun w => by go_simp) rfl ?_
        rintro _ ⟨sg, rfl⟩
        refine (KU.out _ (Below.step BB sg.h)).mono ?_
        rintro e wg2 ⟨rfl, hbx⟩
        have hbg := Below.step sg.h hbx
        refine ⟨_, rfl, ⟨⟨wg2, hbx⟩, rfl⟩, ?_⟩
        replace BB := Below.step BB hbg
        clear hbg hbx sg
        replace hne := HW.some wg2
        have hg0 := HW.at (cell_keep (m0) BB)
        have hg1 := HW.at (cell_keep (m1) BB)
        have hg2 := HW.at (cell_keep (m2) BB)
        have hf0 := HW.at (cell_keep (n0) BB)
        have hf1 := HW.at (cell_keep (n1) BB)
        refine wpM_more [14, 16, 17] 3 0 rfl (by kernel_rfl) (by kernel_rfl) (by kernel_rfl) (by kernel_rfl) ?_
        simp only [opsAt, List.getElem?_toArray, List.getElem?_cons_zero, List.getElem?_cons_succ]
        go_simp
        repeat (go_big_quiet_step (fail))
        refine wpQuiet_nil ?_
        clear hg0 hg1 hg2 hf0 hf1
        refine wpM_end (by kernel_rfl) rfl (by kernel_rfl) (by decide) ?_
        rintro _ ⟨sz, rfl⟩
        simp only [List.drop_succ_cons, List.drop_zero]
        go_simp
        replace BB := Below.step BB sz.h
        clear hne
        generalize sz.w = W4 at *
        clear sz
        revert BB
        revert qv
        revert pv
        revert W4
        exact JN.out
      case hj =>
      intro W4 pv qv BB
      replace B4 := Below.step B4 BB
      clear du BB KS KU R4 dn C P m0 m1 m2 n0 n1
      go_wp2_with fail
      refine (drawLk_c _ _ bs0 _ (HR0.out.keep B4)).mono ?_
      rintro e w5 ⟨l, pl, ql, id, rfl, hll, hi1, hi6, rl, hb5⟩
      replace B4 := Below.step B4 hb5
      clear hb5
      have hq1 : l.length ≤ ql := rl.1
      have hq2 : ql ≤ 2 ^ 63 - 1 := rl.2.1
      go_wp2_with fail
      refine (implLk_c l pl ql id _ rl).mono ?_
      rintro e w6 ⟨rfl, hb6⟩
      obtain ⟨x, HX⟩ : ∃ x, Hid (lkD l id = x) := ⟨_, rfl⟩
      rw [HX.out]
      have hal := alloc_below w6 (.cells #[.int .i64 x.1, .int .i64 x.2.1, .int .i64 x.2.2.1, .int .i64 x.2.2.2] 28)
      have A := Arr.new w6 [.int .i64 x.1, .int .i64 x.2.1, .int .i64 x.2.2.1, .int .i64 x.2.2.2] 28
      replace rl := (rl.keep hb6).keep hal
      have B6 := Below.step (Below.step B4 hb6) hal
      clear hb6 hal B4
      have l0 := (A.cell 0).trans (show _ = some _ from rfl)
      have l1 := (A.cell 1).trans (show _ = some _ from rfl)
      have l2 := (A.cell 2).trans (show _ = some _ from rfl)
      have l3 := (A.cell 3).trans (show _ = some _ from rfl)
      by_cases hx : x.1 = 0
      · have hlk := lkD_ok (l := l) (id := id) (by rw [HX.out]; exact hx)
        rw [HX.out] at hlk
        obtain ⟨hct, hhas, hx2⟩ := hlk
        obtain ⟨j0, hj0, hjd⟩ := foC_mem hhas
        rw [← hx2] at hj0 hjd
        have HCT : Hid (ctC l = 0) := hct
        have HJ : Hid (l[j0]? = some x.2) := hj0
        have hid : (x.2.1 == id) = true := by rw [beq_iff_eq]; exact hjd
        have dx : (x.1 != 0) = false := by rw [bne_eq_false_iff_eq]; exact hx
        have HR : Hid (RdL certC _ pl ql l) := rl
        clear hct hhas hx2 hj0 hjd hx rl
        go_wp2_with fail
        generalize hV6 : w6.alloc (.cells #[.int .i64 x.1, .int .i64 x.2.1, .int .i64 x.2.2.1, .int .i64 x.2.2.2] 28) = V6 at *
        clear hV6
        have HB6 : Hid (Below w.heap.size w V6) := B6
        clear B6 l0 l1 l2 l3
        go_loopw [10, 11] (fun f i wr => Below V6.heap.size V6 wr ∧ ∃ k : Nat, k ≤ l.length ∧ i = .int .i64 k ∧ f = .bool (fdB l x.2 k))
          (fun _ i _ => l.length - (intOf i).toNat)
        case atStart => exact ⟨Below.refl _ _, 0, Nat.zero_le _, rfl, rfl⟩
        case round =>
          obtain ⟨BV, k, hk, rfl, rfl⟩ := hrel
          replace A := A.stay BV
          replace HR : Hid (RdL certC wr pl ql l) := HR.out.keep BV
          have l0 := (A.cell 0).trans (show _ = some _ from rfl)
          have l1 := (A.cell 1).trans (show _ = some _ from rfl)
          have l2 := (A.cell 2).trans (show _ = some _ from rfl)
          have l3 := (A.cell 3).trans (show _ = some _ from rfl)
          by_cases hlt : k < l.length
          · have hI : (k : Int) < (l.length : Int) := by omega
            obtain ⟨b, o, e1, hc⟩ := HR.out.2.2.2 (by omega)
            subst e1
            obtain ⟨y, hy⟩ : ∃ y, l[k]? = some y := ⟨l[k], by simp [hlt]⟩
            obtain ⟨us, hrep, hcell⟩ := hc k y hy
            obtain rfl := cert_rep hrep
            have c0 := hcell 0 _ rfl
            have c1 := hcell 1 _ rfl
            have c2 := hcell 2 _ rfl
            rw [show certC.n = 3 from rfl] at c0 c1 c2
            rw [Nat.add_zero] at c0
            have HF : Hid (fdB l x.2 (k + 1) = (fdB l x.2 k || decide (y = x.2))) := fdB_step hy
            clear hc hcell hrep
            cases hf : fdB l x.2 k
            · by_cases hyx : y = x.2
              · have HN : Hid (fdB l x.2 (k + 1) = true) := by show _ = _; rw [HF.out, hf]; simp [hyx]
                subst hyx
                clear hy
                go_wp2_with fail
                apply share
                case h =>
                  intro JN
                  have BB := Below.refl wr.heap.size wr
                  have hne := HW.some wr
                  have g0 := HW.at (l0)
                  have g1 := HW.at (l1)
                  have g2 := HW.at (l2)
                  have g3 := HW.at (l3)
                  have f0 := HW.at (c0)
                  have f1 := HW.at (c1)
                  have f2 := HW.at (c2)
                  refine wp_region_pick [0, 1, 2, 3, 4, 5, 6, 7, 8, 9] 10 0 1 rfl rfl rfl (by kernel_rfl) (by kernel_rfl) (by kernel_rfl) (by kernel_rfl) ?_
                  simp only [opsAt, List.getElem?_toArray, List.getElem?_cons_zero, List.getElem?_cons_succ]
                  repeat (go_big_quiet_step (fail))
                  refine wpQuiet_nil ?_
                  clear g0 g1 g2 g3 f0 f1 f2
                  refine wpM_end (by kernel_rfl) rfl (by kernel_rfl) (by decide) ?_
                  rintro _ ⟨sz, rfl⟩
                  simp only [List.drop_succ_cons, List.drop_zero]
                  go_simp
                  replace BB := Below.step BB sz.h
                  clear hne
                  generalize sz.w = W7 at *
                  clear sz
                  revert BB
                  revert W7
                  exact JN.out
                case hj =>
                intro W7 BB
                have BV7 := Below.step BV BB
                clear A HR BV l0 l1 l2 l3 c0 c1 c2 BB
                go_wp2_with fail
                go_roundw
                case rel => exact ⟨BV7, k + 1, by omega, by go_num, by rw [HN.out]⟩
                case measure => simp [intOf]; omega
              · have HN : Hid (fdB l x.2 (k + 1) = false) := by show _ = _; rw [HF.out, hf]; simp [hyx]
                by_cases h1 : y.1 = x.2.1
                · have d1 : (y.1 == x.2.1) = true := by rw [beq_iff_eq]; exact h1
                  by_cases h2 : y.2.1 = x.2.2.1
                  · have d2 : (y.2.1 == x.2.2.1) = true := by rw [beq_iff_eq]; exact h2
                    have d3 : (y.2.2 == x.2.2.2) = false := by rw [beq_eq_false_iff_ne]; exact fun h3 => hyx (Prod.ext h1 (Prod.ext h2 h3))
                    clear h1 h2 hyx
                    go_wp2_with fail
                    apply share
                    case h =>
                      intro JN
                      have BB := Below.refl wr.heap.size wr
                      have hne := HW.some wr
                      have g0 := HW.at (l0)
                      have g1 := HW.at (l1)
                      have g2 := HW.at (l2)
                      have g3 := HW.at (l3)
                      have f0 := HW.at (c0)
                      have f1 := HW.at (c1)
                      have f2 := HW.at (c2)
                      refine wp_region_pick [0, 1, 2, 3, 4, 5, 6, 7, 8, 9] 10 0 1 rfl rfl rfl (by kernel_rfl) (by kernel_rfl) (by kernel_rfl) (by kernel_rfl) ?_
                      simp only [opsAt, List.getElem?_toArray, List.getElem?_cons_zero, List.getElem?_cons_succ]
                      repeat (go_big_quiet_step (fail))
                      refine wpQuiet_nil ?_
                      clear g0 g1 g2 g3 f0 f1 f2
                      refine wpM_end (by kernel_rfl) rfl (by kernel_rfl) (by decide) ?_
                      rintro _ ⟨sz, rfl⟩
                      simp only [List.drop_succ_cons, List.drop_zero]
                      go_simp
                      replace BB := Below.step BB sz.h
                      clear hne
                      generalize sz.w = W7 at *
                      clear sz
                      revert BB
                      revert W7
                      exact JN.out
                    case hj =>
                    intro W7 BB
                    have BV7 := Below.step BV BB
                    clear A HR BV l0 l1 l2 l3 c0 c1 c2 BB
                    go_wp2_with fail
                    go_roundw
                    case rel => exact ⟨BV7, k + 1, by omega, by go_num, by rw [HN.out]⟩
                    case measure => simp [intOf]; omega
                  · have d2 : (y.2.1 == x.2.2.1) = false := by rw [beq_eq_false_iff_ne]; exact h2
                    clear h1 h2 hyx
                    go_wp2_with fail
                    apply share
                    case h =>
                      intro JN
                      have BB := Below.refl wr.heap.size wr
                      have hne := HW.some wr
                      have g0 := HW.at (l0)
                      have g1 := HW.at (l1)
                      have g2 := HW.at (l2)
                      have g3 := HW.at (l3)
                      have f0 := HW.at (c0)
                      have f1 := HW.at (c1)
                      have f2 := HW.at (c2)
                      refine wp_region_pick [0, 1, 2, 3, 4, 5, 6, 7, 8, 9] 10 0 1 rfl rfl rfl (by kernel_rfl) (by kernel_rfl) (by kernel_rfl) (by kernel_rfl) ?_
                      simp only [opsAt, List.getElem?_toArray, List.getElem?_cons_zero, List.getElem?_cons_succ]
                      repeat (go_big_quiet_step (fail))
                      refine wpQuiet_nil ?_
                      clear g0 g1 g2 g3 f0 f1 f2
                      refine wpM_end (by kernel_rfl) rfl (by kernel_rfl) (by decide) ?_
                      rintro _ ⟨sz, rfl⟩
                      simp only [List.drop_succ_cons, List.drop_zero]
                      go_simp
                      replace BB := Below.step BB sz.h
                      clear hne
                      generalize sz.w = W7 at *
                      clear sz
                      revert BB
                      revert W7
                      exact JN.out
                    case hj =>
                    intro W7 BB
                    have BV7 := Below.step BV BB
                    clear A HR BV l0 l1 l2 l3 c0 c1 c2 BB
                    go_wp2_with fail
                    go_roundw
                    case rel => exact ⟨BV7, k + 1, by omega, by go_num, by rw [HN.out]⟩
                    case measure => simp [intOf]; omega
                · have d1 : (y.1 == x.2.1) = false := by rw [beq_eq_false_iff_ne]; exact h1
                  clear h1 hyx
                  go_wp2_with fail
                  apply share
                  case h =>
                    intro JN
                    have BB := Below.refl wr.heap.size wr
                    have hne := HW.some wr
                    have g0 := HW.at (l0)
                    have g1 := HW.at (l1)
                    have g2 := HW.at (l2)
                    have g3 := HW.at (l3)
                    have f0 := HW.at (c0)
                    have f1 := HW.at (c1)
                    have f2 := HW.at (c2)
                    refine wp_region_pick [0, 1, 2, 3, 4, 5, 6, 7, 8, 9] 10 0 1 rfl rfl rfl (by kernel_rfl) (by kernel_rfl) (by kernel_rfl) (by kernel_rfl) ?_
                    simp only [opsAt, List.getElem?_toArray, List.getElem?_cons_zero, List.getElem?_cons_succ]
                    repeat (go_big_quiet_step (fail))
                    refine wpQuiet_nil ?_
                    clear g0 g1 g2 g3 f0 f1 f2
                    refine wpM_end (by kernel_rfl) rfl (by kernel_rfl) (by decide) ?_
                    rintro _ ⟨sz, rfl⟩
                    simp only [List.drop_succ_cons, List.drop_zero]
                    go_simp
                    replace BB := Below.step BB sz.h
                    clear hne
                    generalize sz.w = W7 at *
                    clear sz
                    revert BB
                    revert W7
                    exact JN.out
                  case hj =>
                  intro W7 BB
                  have BV7 := Below.step BV BB
                  clear A HR BV l0 l1 l2 l3 c0 c1 c2 BB
                  go_wp2_with fail
                  go_roundw
                  case rel => exact ⟨BV7, k + 1, by omega, by go_num, by rw [HN.out]⟩
                  case measure => simp [intOf]; omega
            · have HN : Hid (fdB l x.2 (k + 1) = true) := by show _ = _; rw [HF.out, hf]; rfl
              go_wp2_with fail
              apply share
              case h =>
                intro JN
                have BB := Below.refl wr.heap.size wr
                have hne := HW.some wr
                have g0 := HW.at (l0)
                have g1 := HW.at (l1)
                have g2 := HW.at (l2)
                have g3 := HW.at (l3)
                have f0 := HW.at (c0)
                have f1 := HW.at (c1)
                have f2 := HW.at (c2)
                refine wp_region_pick [0, 1, 2, 3, 4, 5, 6, 7, 8, 9] 10 0 1 rfl rfl rfl (by kernel_rfl) (by kernel_rfl) (by kernel_rfl) (by kernel_rfl) ?_
                simp only [opsAt, List.getElem?_toArray, List.getElem?_cons_zero, List.getElem?_cons_succ]
                repeat (go_big_quiet_step (fail))
                refine wpQuiet_nil ?_
                clear g0 g1 g2 g3 f0 f1 f2
                refine wpM_end (by kernel_rfl) rfl (by kernel_rfl) (by decide) ?_
                rintro _ ⟨sz, rfl⟩
                simp only [List.drop_succ_cons, List.drop_zero]
                go_simp
                replace BB := Below.step BB sz.h
                clear hne
                generalize sz.w = W7 at *
                clear sz
                revert BB
                revert W7
                exact JN.out
              case hj =>
              intro W7 BB
              have BV7 := Below.step BV BB
              clear A HR BV l0 l1 l2 l3 c0 c1 c2 BB
              go_wp2_with fail
              go_roundw
              case rel => exact ⟨BV7, k + 1, by omega, by go_num, by rw [HN.out]⟩
              case measure => simp [intOf]; omega
          · have e9 : k = l.length := by omega
            subst e9
            have HT : Hid (fdB l x.2 l.length = true) := fdB_all HJ.out
            rw [HT.out]
            have KC : Hid (Calls Try.prog 20 #[.slice pl l.length ql] wr fun e w' => e = .returned (.int .i64 0) ∧ Below wr.heap.size wr w') := by have h := implCt_c l pl ql wr HR.out; rw [HCT.out] at h; exact h
            have B9 := Below.step HB6.out BV
            clear BV HR A
            go_wp2_with fail
            refine KC.out.mono ?_
            rintro e w9 ⟨rfl, hb9⟩
            go_wp2_with fail
            go_ret
            exact ⟨rfl, Below.step B9 hb9⟩
      · have dx : (x.1 != 0) = true := by rw [bne_iff_ne]; exact hx
        have ds : (x.1 == x.1) = true := by simp
        go_wp2_with fail
        generalize hV6 : w6.alloc (.cells #[.int .i64 x.1, .int .i64 x.2.1, .int .i64 x.2.2.1, .int .i64 x.2.2.2] 28) = V6 at *
        clear hV6
        have KS : Hid (∀ W : World, Below V6.heap.size V6 W → Calls Try.prog 19 #[.slice pl l.length ql, .int .i64 id] W fun e w' => e = .returned (aggC x) ∧ Below W.heap.size W w') := fun W hW => by have h := specLk_c l pl ql id W (rl.keep hW); rw [HX.out] at h; exact h
        apply share
        case h =>
          intro JN
          have BB := Below.refl V6.heap.size V6
          have hne := HW.some V6
          have g0 := HW.at (l0)
          have g1 := HW.at (l1)
          have g2 := HW.at (l2)
          have g3 := HW.at (l3)
          refine wp_region_pick [0, 1, 4, 5] 6 2 2 rfl rfl rfl (by kernel_rfl) (by kernel_rfl) (by kernel_rfl) (by kernel_rfl) ?_
          simp only [opsAt, List.getElem?_toArray, List.getElem?_cons_zero, List.getElem?_cons_succ]
          repeat (go_big_quiet_step (fail))
          refine wpQuiet_nil ?_
          clear g0 g1 g2 g3
          refine wpM_only (i := 2) (by kernel_rfl) ?_
          refine mOp_call rfl (by go_simp) 19 _ #[.slice pl l.length ql, .int .i64 id] (fun w => by go_simp) rfl ?_
          rintro _ ⟨sg, rfl⟩
          refine (KS.out _ (Below.step BB sg.h)).mono ?_
          rintro e wg1 ⟨rfl, hbx⟩
          have hbg := Below.step sg.h hbx
          refine ⟨_, rfl, ⟨⟨wg1, hbx⟩, rfl⟩, ?_⟩
          replace BB := Below.step BB hbg
          clear hbg hbx sg
          replace hne := HW.some wg1
          have hg0 := HW.at (cell_keep (l0) BB)
          have hg1 := HW.at (cell_keep (l1) BB)
          have hg2 := HW.at (cell_keep (l2) BB)
          have hg3 := HW.at (cell_keep (l3) BB)
          refine wpM_more [3] 1 0 rfl (by kernel_rfl) (by kernel_rfl) (by kernel_rfl) (by kernel_rfl) ?_
          simp only [opsAt, List.getElem?_toArray, List.getElem?_cons_zero, List.getElem?_cons_succ]
          go_simp
          repeat (go_big_quiet_step (fail))
          refine wpQuiet_nil ?_
          clear hg0 hg1 hg2 hg3
          refine wpM_end (by kernel_rfl) rfl (by kernel_rfl) (by decide) ?_
          rintro _ ⟨sz, rfl⟩
          simp only [List.drop_succ_cons, List.drop_zero]
          go_simp
          replace BB := Below.step BB sz.h
          clear hne
          generalize sz.w = W6 at *
          clear sz
          revert BB
          revert W6
          exact JN.out
        case hj =>
        intro W6 BB
        go_wp2_with fail
        go_ret
        exact ⟨rfl, Below.step B6 BB⟩
  · have du : (u.1 == 0) = false := by rw [beq_eq_false_iff_ne]; exact hu
    clear hu
    apply share
    case h =>
      intro JN
      have BB := Below.refl V.heap.size V
      have hne := HW.some V
      have g0 := HW.at (l0)
      have g1 := HW.at (l1)
      have g2 := HW.at (l2)
      have g3 := HW.at (l3)
      refine wp_region_pick [0, 1, 2] 19 16 1 rfl rfl rfl (by kernel_rfl) (by kernel_rfl) (by kernel_rfl) (by kernel_rfl) ?_
      simp only [opsAt, List.getElem?_toArray, List.getElem?_cons_zero, List.getElem?_cons_succ]
      repeat (go_big_quiet_step (fail))
      refine wpQuiet_nil ?_
      clear g0 g1 g2 g3
      refine wpM_only (i := 3) (by kernel_rfl) ?_
      refine mOp_call rfl (by go_simp) 12 _ #[.slice pd bs.length qd] (fun w => by go_simp) rfl ?_
      rintro _ ⟨sg, rfl⟩
      refine (KS.out _ (Below.step BB sg.h)).mono ?_
      rintro e wg1 ⟨rfl, hbx⟩
      have hbg := Below.step sg.h hbx
      refine ⟨_, rfl, ⟨⟨wg1, hbx⟩, rfl⟩, ?_⟩
      replace BB := Below.step BB hbg
      clear hbg hbx sg
      replace hne := HW.some wg1
      have hg0 := HW.at (cell_keep (l0) BB)
      have hg1 := HW.at (cell_keep (l1) BB)
      have hg2 := HW.at (cell_keep (l2) BB)
      have hg3 := HW.at (cell_keep (l3) BB)
      refine wpM_more [4, 5, 6, 7, 8, 9, 10, 11, 12, 15] 15 5 rfl (by kernel_rfl) (by kernel_rfl) (by kernel_rfl) (by kernel_rfl) ?_
      simp only [opsAt, List.getElem?_toArray, List.getElem?_cons_zero, List.getElem?_cons_succ]
      go_simp
      repeat (go_big_quiet_step (fail))
      refine wpQuiet_nil ?_
      clear hg0 hg1 hg2 hg3
      refine wpM_only (i := 13) (by kernel_rfl) ?_
      refine mOp_skip rfl (by go_simp) ?_
      have hg0 := HW.at (cell_keep (l0) BB)
      have hg1 := HW.at (cell_keep (l1) BB)
      have hg2 := HW.at (cell_keep (l2) BB)
      have hg3 := HW.at (cell_keep (l3) BB)
      refine wpM_more [14] 4 3 rfl (by kernel_rfl) (by kernel_rfl) (by kernel_rfl) (by kernel_rfl) ?_
      simp only [opsAt, List.getElem?_toArray, List.getElem?_cons_zero, List.getElem?_cons_succ]
      go_simp
      repeat (go_big_quiet_step (fail))
      refine wpQuiet_nil ?_
      clear hg0 hg1 hg2 hg3
      refine wpM_only (i := 16) (by kernel_rfl) ?_
      refine mOp_skip rfl (by go_simp) ?_
      have hg0 := HW.at (cell_keep (l0) BB)
      have hg1 := HW.at (cell_keep (l1) BB)
      have hg2 := HW.at (cell_keep (l2) BB)
      have hg3 := HW.at (cell_keep (l3) BB)
      refine wpM_more [17, 18] 2 0 rfl (by kernel_rfl) (by kernel_rfl) (by kernel_rfl) (by kernel_rfl) ?_
      simp only [opsAt, List.getElem?_toArray, List.getElem?_cons_zero, List.getElem?_cons_succ]
      go_simp
      repeat (go_big_quiet_step (fail))
      refine wpQuiet_nil ?_
      clear hg0 hg1 hg2 hg3
      refine wpM_end (by kernel_rfl) rfl (by kernel_rfl) (by decide) ?_
      rintro _ ⟨sz, rfl⟩
      simp only [List.drop_succ_cons, List.drop_zero]
      go_simp
      replace BB := Below.step BB sz.h
      clear hne
      generalize sz.w = W at *
      clear sz
      revert BB
      revert W
      exact JN.out
    case hj =>
    intro W BB
    replace BW := Below.step BW BB
    clear du BB KS rd l0 l1 l2 l3 dn A
    go_wp2_with fail
    refine (drawPc_c _ _ bs0 _ (HR0.out.keep BW)).mono ?_
    rintro e w3 ⟨c, rfl, hb3⟩
    have B3 := Below.mk (Below.step BW hb3) (.cells #[.int .i64 c.1, .int .i64 c.2.1, .int .i64 c.2.2] 26)
    have C := Arr.new w3 [.int .i64 c.1, .int .i64 c.2.1, .int .i64 c.2.2] 26
    clear BW hb3
    have m0 := (C.cell 0).trans (show _ = some _ from rfl)
    have m1 := (C.cell 1).trans (show _ = some _ from rfl)
    have m2 := (C.cell 2).trans (show _ = some _ from rfl)
    go_wp2_with fail
    refine (implPc_c c _).mono ?_
    rintro e w4 ⟨v4, rfl, k4, hb4⟩
    obtain ⟨p4, q4, rfl, -⟩ := k4.rd
    obtain ⟨pp, HP⟩ : ∃ pp, Hid (pcD c = pp) := ⟨_, rfl⟩
    rw [HP.out] at k4
    rw [HP.out]
    have hal := alloc_below w4 (.cells #[.int .i64 pp.1, .slice p4 pp.2.length q4] 32)
    have P := Arr.new w4 [.int .i64 pp.1, .slice p4 pp.2.length q4] 32
    replace C := (C.stay hb4).stay hal
    have R4 := (Rd.own k4).keep hal
    have B4 := Below.step (Below.step B3 hb4) hal
    clear k4 hb4 hal B3
    clear m0
    clear m1
    clear m2
    go_wp2_with fail
    generalize hV4 : w4.alloc (.cells #[.int .i64 pp.1, .slice p4 pp.2.length q4] 32) = V4 at *
    clear hV4
    have m0 := (C.cell 0).trans (show _ = some _ from rfl)
    have m1 := (C.cell 1).trans (show _ = some _ from rfl)
    have m2 := (C.cell 2).trans (show _ = some _ from rfl)
    have n0 := (P.cell 0).trans (show _ = some _ from rfl)
    have n1 := (P.cell 1).trans (show _ = some _ from rfl)
    have dn : (pp.1 != pp.1) = false := by simp
    have KS : Hid (∀ W : World, Below V4.heap.size V4 W → Calls Try.prog 16 #[.agg #[.int .i64 c.1, .int .i64 c.2.1, .int .i64 c.2.2]] W fun e w' => ∃ v, e = .returned (.agg #[.int .i64 pp.1, v]) ∧ Own w' W.heap.size v pp.2 ∧ Below W.heap.size W w') := fun W hW => by have h := specPc_c c W; rw [HP.out] at h; exact h
    cases hc : okC c
    · have du : (pp.1 == 0) = false := by rw [← HP.out, pcD, hc]; rfl
      clear hc
      apply share
      case h =>
        intro JN
        have BB := Below.refl V4.heap.size V4
        have hne := HW.some V4
        have g0 := HW.at (m0)
        have g1 := HW.at (m1)
        have g2 := HW.at (m2)
        have f0 := HW.at (n0)
        have f1 := HW.at (n1)
        refine wp_region_pick [0, 1, 2] 18 15 1 rfl rfl rfl (by kernel_rfl) (by kernel_rfl) (by kernel_rfl) (by kernel_rfl) ?_
        simp only [opsAt, List.getElem?_toArray, List.getElem?_cons_zero, List.getElem?_cons_succ]
        repeat (go_big_quiet_step (fail))
        refine wpQuiet_nil ?_
        clear g0 g1 g2 f0 f1
        refine wpM_only (i := 3) (by kernel_rfl) ?_
        refine mOp_call rfl (by go_simp) 16 _ #[.agg #[.int .i64 c.1, .int .i64 c.2.1, .int .i64 c.2.2]] (fun w => by go_simp) rfl ?_
        rintro _ ⟨sg, rfl⟩
        refine (KS.out _ (Below.step BB sg.h)).mono ?_
        rintro e wg1 ⟨v, rfl, kv, hbx⟩
        obtain ⟨pv, qv, rfl, -⟩ := kv.rd
        have hbg := Below.step sg.h hbx
        refine ⟨_, rfl, ⟨⟨wg1, hbx⟩, rfl⟩, ?_⟩
        replace BB := Below.step BB hbg
        clear hbg hbx sg kv
        replace hne := HW.some wg1
        have hg0 := HW.at (cell_keep (m0) BB)
        have hg1 := HW.at (cell_keep (m1) BB)
        have hg2 := HW.at (cell_keep (m2) BB)
        have hf0 := HW.at (cell_keep (n0) BB)
        have hf1 := HW.at (cell_keep (n1) BB)
        refine wpM_more [4, 5, 6, 7, 8, 9, 10, 11, 12, 15] 14 4 rfl (by kernel_rfl) (by kernel_rfl) (by kernel_rfl) (by kernel_rfl) ?_
        simp only [opsAt, List.getElem?_toArray, List.getElem?_cons_zero, List.getElem?_cons_succ]
        go_simp
        repeat (go_big_quiet_step (fail))
        refine wpQuiet_nil ?_
        clear hg0 hg1 hg2 hf0 hf1
        refine wpM_only (i := 13) (by kernel_rfl) ?_
        refine mOp_skip rfl (by go_simp) ?_
        have hg0 := HW.at (cell_keep (m0) BB)
        have hg1 := HW.at (cell_keep (m1) BB)
        have hg2 := HW.at (cell_keep (m2) BB)
        have hf0 := HW.at (cell_keep (n0) BB)
        have hf1 := HW.at (cell_keep (n1) BB)
        refine wpM_more [14, 16, 17] 3 0 rfl (by kernel_rfl) (by kernel_rfl) (by kernel_rfl) (by kernel_rfl) ?_
        simp only [opsAt, List.getElem?_toArray, List.getElem?_cons_zero, List.getElem?_cons_succ]
        go_simp
        repeat (go_big_quiet_step (fail))
        refine wpQuiet_nil ?_
        clear hg0 hg1 hg2 hf0 hf1
        refine wpM_end (by kernel_rfl) rfl (by kernel_rfl) (by decide) ?_
        rintro _ ⟨sz, rfl⟩
        simp only [List.drop_succ_cons, List.drop_zero]
        go_simp
        replace BB := Below.step BB sz.h
        clear hne
        generalize sz.w = W4 at *
        clear sz
        revert BB
        revert qv
        revert pv
        revert W4
        exact JN.out
      case hj =>
      intro W4 pv qv BB
      replace B4 := Below.step B4 BB
      clear du BB KS R4 dn C P m0 m1 m2 n0 n1
      go_wp2_with fail
      refine (drawLk_c _ _ bs0 _ (HR0.out.keep B4)).mono ?_
      rintro e w5 ⟨l, pl, ql, id, rfl, hll, hi1, hi6, rl, hb5⟩
      replace B4 := Below.step B4 hb5
      clear hb5
      have hq1 : l.length ≤ ql := rl.1
      have hq2 : ql ≤ 2 ^ 63 - 1 := rl.2.1
      go_wp2_with fail
      refine (implLk_c l pl ql id _ rl).mono ?_
      rintro e w6 ⟨rfl, hb6⟩
      obtain ⟨x, HX⟩ : ∃ x, Hid (lkD l id = x) := ⟨_, rfl⟩
      rw [HX.out]
      have hal := alloc_below w6 (.cells #[.int .i64 x.1, .int .i64 x.2.1, .int .i64 x.2.2.1, .int .i64 x.2.2.2] 28)
      have A := Arr.new w6 [.int .i64 x.1, .int .i64 x.2.1, .int .i64 x.2.2.1, .int .i64 x.2.2.2] 28
      replace rl := (rl.keep hb6).keep hal
      have B6 := Below.step (Below.step B4 hb6) hal
      clear hb6 hal B4
      have l0 := (A.cell 0).trans (show _ = some _ from rfl)
      have l1 := (A.cell 1).trans (show _ = some _ from rfl)
      have l2 := (A.cell 2).trans (show _ = some _ from rfl)
      have l3 := (A.cell 3).trans (show _ = some _ from rfl)
      by_cases hx : x.1 = 0
      · have hlk := lkD_ok (l := l) (id := id) (by rw [HX.out]; exact hx)
        rw [HX.out] at hlk
        obtain ⟨hct, hhas, hx2⟩ := hlk
        obtain ⟨j0, hj0, hjd⟩ := foC_mem hhas
        rw [← hx2] at hj0 hjd
        have HCT : Hid (ctC l = 0) := hct
        have HJ : Hid (l[j0]? = some x.2) := hj0
        have hid : (x.2.1 == id) = true := by rw [beq_iff_eq]; exact hjd
        have dx : (x.1 != 0) = false := by rw [bne_eq_false_iff_eq]; exact hx
        have HR : Hid (RdL certC _ pl ql l) := rl
        clear hct hhas hx2 hj0 hjd hx rl
        go_wp2_with fail
        generalize hV6 : w6.alloc (.cells #[.int .i64 x.1, .int .i64 x.2.1, .int .i64 x.2.2.1, .int .i64 x.2.2.2] 28) = V6 at *
        clear hV6
        have HB6 : Hid (Below w.heap.size w V6) := B6
        clear B6 l0 l1 l2 l3
        go_loopw [10, 11] (fun f i wr => Below V6.heap.size V6 wr ∧ ∃ k : Nat, k ≤ l.length ∧ i = .int .i64 k ∧ f = .bool (fdB l x.2 k))
          (fun _ i _ => l.length - (intOf i).toNat)
        case atStart => exact ⟨Below.refl _ _, 0, Nat.zero_le _, rfl, rfl⟩
        case round =>
          obtain ⟨BV, k, hk, rfl, rfl⟩ := hrel
          replace A := A.stay BV
          replace HR : Hid (RdL certC wr pl ql l) := HR.out.keep BV
          have l0 := (A.cell 0).trans (show _ = some _ from rfl)
          have l1 := (A.cell 1).trans (show _ = some _ from rfl)
          have l2 := (A.cell 2).trans (show _ = some _ from rfl)
          have l3 := (A.cell 3).trans (show _ = some _ from rfl)
          by_cases hlt : k < l.length
          · have hI : (k : Int) < (l.length : Int) := by omega
            obtain ⟨b, o, e1, hc⟩ := HR.out.2.2.2 (by omega)
            subst e1
            obtain ⟨y, hy⟩ : ∃ y, l[k]? = some y := ⟨l[k], by simp [hlt]⟩
            obtain ⟨us, hrep, hcell⟩ := hc k y hy
            obtain rfl := cert_rep hrep
            have c0 := hcell 0 _ rfl
            have c1 := hcell 1 _ rfl
            have c2 := hcell 2 _ rfl
            rw [show certC.n = 3 from rfl] at c0 c1 c2
            rw [Nat.add_zero] at c0
            have HF : Hid (fdB l x.2 (k + 1) = (fdB l x.2 k || decide (y = x.2))) := fdB_step hy
            clear hc hcell hrep
            cases hf : fdB l x.2 k
            · by_cases hyx : y = x.2
              · have HN : Hid (fdB l x.2 (k + 1) = true) := by show _ = _; rw [HF.out, hf]; simp [hyx]
                subst hyx
                clear hy
                go_wp2_with fail
                apply share
                case h =>
                  intro JN
                  have BB := Below.refl wr.heap.size wr
                  have hne := HW.some wr
                  have g0 := HW.at (l0)
                  have g1 := HW.at (l1)
                  have g2 := HW.at (l2)
                  have g3 := HW.at (l3)
                  have f0 := HW.at (c0)
                  have f1 := HW.at (c1)
                  have f2 := HW.at (c2)
                  refine wp_region_pick [0, 1, 2, 3, 4, 5, 6, 7, 8, 9] 10 0 1 rfl rfl rfl (by kernel_rfl) (by kernel_rfl) (by kernel_rfl) (by kernel_rfl) ?_
                  simp only [opsAt, List.getElem?_toArray, List.getElem?_cons_zero, List.getElem?_cons_succ]
                  repeat (go_big_quiet_step (fail))
                  refine wpQuiet_nil ?_
                  clear g0 g1 g2 g3 f0 f1 f2
                  refine wpM_end (by kernel_rfl) rfl (by kernel_rfl) (by decide) ?_
                  rintro _ ⟨sz, rfl⟩
                  simp only [List.drop_succ_cons, List.drop_zero]
                  go_simp
                  replace BB := Below.step BB sz.h
                  clear hne
                  generalize sz.w = W7 at *
                  clear sz
                  revert BB
                  revert W7
                  exact JN.out
                case hj =>
                intro W7 BB
                have BV7 := Below.step BV BB
                clear A HR BV l0 l1 l2 l3 c0 c1 c2 BB
                go_wp2_with fail
                go_roundw
                case rel => exact ⟨BV7, k + 1, by omega, by go_num, by rw [HN.out]⟩
                case measure => simp [intOf]; omega
              · have HN : Hid (fdB l x.2 (k + 1) = false) := by show _ = _; rw [HF.out, hf]; simp [hyx]
                by_cases h1 : y.1 = x.2.1
                · have d1 : (y.1 == x.2.1) = true := by rw [beq_iff_eq]; exact h1
                  by_cases h2 : y.2.1 = x.2.2.1
                  · have d2 : (y.2.1 == x.2.2.1) = true := by rw [beq_iff_eq]; exact h2
                    have d3 : (y.2.2 == x.2.2.2) = false := by rw [beq_eq_false_iff_ne]; exact fun h3 => hyx (Prod.ext h1 (Prod.ext h2 h3))
                    clear h1 h2 hyx
                    go_wp2_with fail
                    apply share
                    case h =>
                      intro JN
                      have BB := Below.refl wr.heap.size wr
                      have hne := HW.some wr
                      have g0 := HW.at (l0)
                      have g1 := HW.at (l1)
                      have g2 := HW.at (l2)
                      have g3 := HW.at (l3)
                      have f0 := HW.at (c0)
                      have f1 := HW.at (c1)
                      have f2 := HW.at (c2)
                      refine wp_region_pick [0, 1, 2, 3, 4, 5, 6, 7, 8, 9] 10 0 1 rfl rfl rfl (by kernel_rfl) (by kernel_rfl) (by kernel_rfl) (by kernel_rfl) ?_
                      simp only [opsAt, List.getElem?_toArray, List.getElem?_cons_zero, List.getElem?_cons_succ]
                      repeat (go_big_quiet_step (fail))
                      refine wpQuiet_nil ?_
                      clear g0 g1 g2 g3 f0 f1 f2
                      refine wpM_end (by kernel_rfl) rfl (by kernel_rfl) (by decide) ?_
                      rintro _ ⟨sz, rfl⟩
                      simp only [List.drop_succ_cons, List.drop_zero]
                      go_simp
                      replace BB := Below.step BB sz.h
                      clear hne
                      generalize sz.w = W7 at *
                      clear sz
                      revert BB
                      revert W7
                      exact JN.out
                    case hj =>
                    intro W7 BB
                    have BV7 := Below.step BV BB
                    clear A HR BV l0 l1 l2 l3 c0 c1 c2 BB
                    go_wp2_with fail
                    go_roundw
                    case rel => exact ⟨BV7, k + 1, by omega, by go_num, by rw [HN.out]⟩
                    case measure => simp [intOf]; omega
                  · have d2 : (y.2.1 == x.2.2.1) = false := by rw [beq_eq_false_iff_ne]; exact h2
                    clear h1 h2 hyx
                    go_wp2_with fail
                    apply share
                    case h =>
                      intro JN
                      have BB := Below.refl wr.heap.size wr
                      have hne := HW.some wr
                      have g0 := HW.at (l0)
                      have g1 := HW.at (l1)
                      have g2 := HW.at (l2)
                      have g3 := HW.at (l3)
                      have f0 := HW.at (c0)
                      have f1 := HW.at (c1)
                      have f2 := HW.at (c2)
                      refine wp_region_pick [0, 1, 2, 3, 4, 5, 6, 7, 8, 9] 10 0 1 rfl rfl rfl (by kernel_rfl) (by kernel_rfl) (by kernel_rfl) (by kernel_rfl) ?_
                      simp only [opsAt, List.getElem?_toArray, List.getElem?_cons_zero, List.getElem?_cons_succ]
                      repeat (go_big_quiet_step (fail))
                      refine wpQuiet_nil ?_
                      clear g0 g1 g2 g3 f0 f1 f2
                      refine wpM_end (by kernel_rfl) rfl (by kernel_rfl) (by decide) ?_
                      rintro _ ⟨sz, rfl⟩
                      simp only [List.drop_succ_cons, List.drop_zero]
                      go_simp
                      replace BB := Below.step BB sz.h
                      clear hne
                      generalize sz.w = W7 at *
                      clear sz
                      revert BB
                      revert W7
                      exact JN.out
                    case hj =>
                    intro W7 BB
                    have BV7 := Below.step BV BB
                    clear A HR BV l0 l1 l2 l3 c0 c1 c2 BB
                    go_wp2_with fail
                    go_roundw
                    case rel => exact ⟨BV7, k + 1, by omega, by go_num, by rw [HN.out]⟩
                    case measure => simp [intOf]; omega
                · have d1 : (y.1 == x.2.1) = false := by rw [beq_eq_false_iff_ne]; exact h1
                  clear h1 hyx
                  go_wp2_with fail
                  apply share
                  case h =>
                    intro JN
                    have BB := Below.refl wr.heap.size wr
                    have hne := HW.some wr
                    have g0 := HW.at (l0)
                    have g1 := HW.at (l1)
                    have g2 := HW.at (l2)
                    have g3 := HW.at (l3)
                    have f0 := HW.at (c0)
                    have f1 := HW.at (c1)
                    have f2 := HW.at (c2)
                    refine wp_region_pick [0, 1, 2, 3, 4, 5, 6, 7, 8, 9] 10 0 1 rfl rfl rfl (by kernel_rfl) (by kernel_rfl) (by kernel_rfl) (by kernel_rfl) ?_
                    simp only [opsAt, List.getElem?_toArray, List.getElem?_cons_zero, List.getElem?_cons_succ]
                    repeat (go_big_quiet_step (fail))
                    refine wpQuiet_nil ?_
                    clear g0 g1 g2 g3 f0 f1 f2
                    refine wpM_end (by kernel_rfl) rfl (by kernel_rfl) (by decide) ?_
                    rintro _ ⟨sz, rfl⟩
                    simp only [List.drop_succ_cons, List.drop_zero]
                    go_simp
                    replace BB := Below.step BB sz.h
                    clear hne
                    generalize sz.w = W7 at *
                    clear sz
                    revert BB
                    revert W7
                    exact JN.out
                  case hj =>
                  intro W7 BB
                  have BV7 := Below.step BV BB
                  clear A HR BV l0 l1 l2 l3 c0 c1 c2 BB
                  go_wp2_with fail
                  go_roundw
                  case rel => exact ⟨BV7, k + 1, by omega, by go_num, by rw [HN.out]⟩
                  case measure => simp [intOf]; omega
            · have HN : Hid (fdB l x.2 (k + 1) = true) := by show _ = _; rw [HF.out, hf]; rfl
              go_wp2_with fail
              apply share
              case h =>
                intro JN
                have BB := Below.refl wr.heap.size wr
                have hne := HW.some wr
                have g0 := HW.at (l0)
                have g1 := HW.at (l1)
                have g2 := HW.at (l2)
                have g3 := HW.at (l3)
                have f0 := HW.at (c0)
                have f1 := HW.at (c1)
                have f2 := HW.at (c2)
                refine wp_region_pick [0, 1, 2, 3, 4, 5, 6, 7, 8, 9] 10 0 1 rfl rfl rfl (by kernel_rfl) (by kernel_rfl) (by kernel_rfl) (by kernel_rfl) ?_
                simp only [opsAt, List.getElem?_toArray, List.getElem?_cons_zero, List.getElem?_cons_succ]
                repeat (go_big_quiet_step (fail))
                refine wpQuiet_nil ?_
                clear g0 g1 g2 g3 f0 f1 f2
                refine wpM_end (by kernel_rfl) rfl (by kernel_rfl) (by decide) ?_
                rintro _ ⟨sz, rfl⟩
                simp only [List.drop_succ_cons, List.drop_zero]
                go_simp
                replace BB := Below.step BB sz.h
                clear hne
                generalize sz.w = W7 at *
                clear sz
                revert BB
                revert W7
                exact JN.out
              case hj =>
              intro W7 BB
              have BV7 := Below.step BV BB
              clear A HR BV l0 l1 l2 l3 c0 c1 c2 BB
              go_wp2_with fail
              go_roundw
              case rel => exact ⟨BV7, k + 1, by omega, by go_num, by rw [HN.out]⟩
              case measure => simp [intOf]; omega
          · have e9 : k = l.length := by omega
            subst e9
            have HT : Hid (fdB l x.2 l.length = true) := fdB_all HJ.out
            rw [HT.out]
            have KC : Hid (Calls Try.prog 20 #[.slice pl l.length ql] wr fun e w' => e = .returned (.int .i64 0) ∧ Below wr.heap.size wr w') := by have h := implCt_c l pl ql wr HR.out; rw [HCT.out] at h; exact h
            have B9 := Below.step HB6.out BV
            clear BV HR A
            go_wp2_with fail
            refine KC.out.mono ?_
            rintro e w9 ⟨rfl, hb9⟩
            go_wp2_with fail
            go_ret
            exact ⟨rfl, Below.step B9 hb9⟩
      · have dx : (x.1 != 0) = true := by rw [bne_iff_ne]; exact hx
        have ds : (x.1 == x.1) = true := by simp
        go_wp2_with fail
        generalize hV6 : w6.alloc (.cells #[.int .i64 x.1, .int .i64 x.2.1, .int .i64 x.2.2.1, .int .i64 x.2.2.2] 28) = V6 at *
        clear hV6
        have KS : Hid (∀ W : World, Below V6.heap.size V6 W → Calls Try.prog 19 #[.slice pl l.length ql, .int .i64 id] W fun e w' => e = .returned (aggC x) ∧ Below W.heap.size W w') := fun W hW => by have h := specLk_c l pl ql id W (rl.keep hW); rw [HX.out] at h; exact h
        apply share
        case h =>
          intro JN
          have BB := Below.refl V6.heap.size V6
          have hne := HW.some V6
          have g0 := HW.at (l0)
          have g1 := HW.at (l1)
          have g2 := HW.at (l2)
          have g3 := HW.at (l3)
          refine wp_region_pick [0, 1, 4, 5] 6 2 2 rfl rfl rfl (by kernel_rfl) (by kernel_rfl) (by kernel_rfl) (by kernel_rfl) ?_
          simp only [opsAt, List.getElem?_toArray, List.getElem?_cons_zero, List.getElem?_cons_succ]
          repeat (go_big_quiet_step (fail))
          refine wpQuiet_nil ?_
          clear g0 g1 g2 g3
          refine wpM_only (i := 2) (by kernel_rfl) ?_
          refine mOp_call rfl (by go_simp) 19 _ #[.slice pl l.length ql, .int .i64 id] (fun w => by go_simp) rfl ?_
          rintro _ ⟨sg, rfl⟩
          refine (KS.out _ (Below.step BB sg.h)).mono ?_
          rintro e wg1 ⟨rfl, hbx⟩
          have hbg := Below.step sg.h hbx
          refine ⟨_, rfl, ⟨⟨wg1, hbx⟩, rfl⟩, ?_⟩
          replace BB := Below.step BB hbg
          clear hbg hbx sg
          replace hne := HW.some wg1
          have hg0 := HW.at (cell_keep (l0) BB)
          have hg1 := HW.at (cell_keep (l1) BB)
          have hg2 := HW.at (cell_keep (l2) BB)
          have hg3 := HW.at (cell_keep (l3) BB)
          refine wpM_more [3] 1 0 rfl (by kernel_rfl) (by kernel_rfl) (by kernel_rfl) (by kernel_rfl) ?_
          simp only [opsAt, List.getElem?_toArray, List.getElem?_cons_zero, List.getElem?_cons_succ]
          go_simp
          repeat (go_big_quiet_step (fail))
          refine wpQuiet_nil ?_
          clear hg0 hg1 hg2 hg3
          refine wpM_end (by kernel_rfl) rfl (by kernel_rfl) (by decide) ?_
          rintro _ ⟨sz, rfl⟩
          simp only [List.drop_succ_cons, List.drop_zero]
          go_simp
          replace BB := Below.step BB sz.h
          clear hne
          generalize sz.w = W6 at *
          clear sz
          revert BB
          revert W6
          exact JN.out
        case hj =>
        intro W6 BB
        go_wp2_with fail
        go_ret
        exact ⟨rfl, Below.step B6 BB⟩
    · have hpp : pp = (0, pcL c) := by rw [← HP.out, pcD, hc]; rfl
      have du : (pp.1 == 0) = true := by rw [hpp]; rfl
      have KU : Hid (∀ W : World, Below V4.heap.size V4 W → Calls Try.prog 11 #[.slice p4 pp.2.length q4] W fun e w' => e = .returned (.agg #[.int .i64 0, .int .i64 c.1, .int .i64 c.2.1, .int .i64 c.2.2]) ∧ Below W.heap.size W w') := fun W hW => by
        have h := implUc_c pp.2 p4 q4 W (R4.keep hW)
        rw [show ucD pp.2 = (0, c) by rw [hpp]; exact rdC_pack hc] at h
        exact h
      clear hc hpp
      apply share
      case h =>
        intro JN
        have BB := Below.refl V4.heap.size V4
        have hne := HW.some V4
        have g0 := HW.at (m0)
        have g1 := HW.at (m1)
        have g2 := HW.at (m2)
        have f0 := HW.at (n0)
        have f1 := HW.at (n1)
        refine wp_region_pick [0, 1, 2] 18 15 1 rfl rfl rfl (by kernel_rfl) (by kernel_rfl) (by kernel_rfl) (by kernel_rfl) ?_
        simp only [opsAt, List.getElem?_toArray, List.getElem?_cons_zero, List.getElem?_cons_succ]
        repeat (go_big_quiet_step (fail))
        refine wpQuiet_nil ?_
        clear g0 g1 g2 f0 f1
        refine wpM_only (i := 3) (by kernel_rfl) ?_
        refine mOp_call rfl (by go_simp) 16 _ #[.agg #[.int .i64 c.1, .int .i64 c.2.1, .int .i64 c.2.2]] (fun w => by go_simp) rfl ?_
        rintro _ ⟨sg, rfl⟩
        refine (KS.out _ (Below.step BB sg.h)).mono ?_
        rintro e wg1 ⟨v, rfl, kv, hbx⟩
        obtain ⟨pv, qv, rfl, -⟩ := kv.rd
        have hbg := Below.step sg.h hbx
        refine ⟨_, rfl, ⟨⟨wg1, hbx⟩, rfl⟩, ?_⟩
        replace BB := Below.step BB hbg
        clear hbg hbx sg kv
        replace hne := HW.some wg1
        have hg0 := HW.at (cell_keep (m0) BB)
        have hg1 := HW.at (cell_keep (m1) BB)
        have hg2 := HW.at (cell_keep (m2) BB)
        have hf0 := HW.at (cell_keep (n0) BB)
        have hf1 := HW.at (cell_keep (n1) BB)
        refine wpM_more [4, 5, 6, 7, 8, 9, 10, 11, 12, 15] 14 4 rfl (by kernel_rfl) (by kernel_rfl) (by kernel_rfl) (by kernel_rfl) ?_
        simp only [opsAt, List.getElem?_toArray, List.getElem?_cons_zero, List.getElem?_cons_succ]
        go_simp
        repeat (go_big_quiet_step (fail))
        refine wpQuiet_nil ?_
        clear hg0 hg1 hg2 hf0 hf1
        refine wpM_only (i := 13) (by kernel_rfl) ?_
        refine mOp_call rfl (by go_simp) 11 _ #[.slice p4 pp.2.length q4] (fun w => by go_simp) rfl ?_
        rintro _ ⟨sg, rfl⟩
        refine (KU.out _ (Below.step BB sg.h)).mono ?_
        rintro e wg2 ⟨rfl, hbx⟩
        have hbg := Below.step sg.h hbx
        refine ⟨_, rfl, ⟨⟨wg2, hbx⟩, rfl⟩, ?_⟩
        replace BB := Below.step BB hbg
        clear hbg hbx sg
        replace hne := HW.some wg2
        have hg0 := HW.at (cell_keep (m0) BB)
        have hg1 := HW.at (cell_keep (m1) BB)
        have hg2 := HW.at (cell_keep (m2) BB)
        have hf0 := HW.at (cell_keep (n0) BB)
        have hf1 := HW.at (cell_keep (n1) BB)
        refine wpM_more [14, 16, 17] 3 0 rfl (by kernel_rfl) (by kernel_rfl) (by kernel_rfl) (by kernel_rfl) ?_
        simp only [opsAt, List.getElem?_toArray, List.getElem?_cons_zero, List.getElem?_cons_succ]
        go_simp
        repeat (go_big_quiet_step (fail))
        refine wpQuiet_nil ?_
        clear hg0 hg1 hg2 hf0 hf1
        refine wpM_end (by kernel_rfl) rfl (by kernel_rfl) (by decide) ?_
        rintro _ ⟨sz, rfl⟩
        simp only [List.drop_succ_cons, List.drop_zero]
        go_simp
        replace BB := Below.step BB sz.h
        clear hne
        generalize sz.w = W4 at *
        clear sz
        revert BB
        revert qv
        revert pv
        revert W4
        exact JN.out
      case hj =>
      intro W4 pv qv BB
      replace B4 := Below.step B4 BB
      clear du BB KS KU R4 dn C P m0 m1 m2 n0 n1
      go_wp2_with fail
      refine (drawLk_c _ _ bs0 _ (HR0.out.keep B4)).mono ?_
      rintro e w5 ⟨l, pl, ql, id, rfl, hll, hi1, hi6, rl, hb5⟩
      replace B4 := Below.step B4 hb5
      clear hb5
      have hq1 : l.length ≤ ql := rl.1
      have hq2 : ql ≤ 2 ^ 63 - 1 := rl.2.1
      go_wp2_with fail
      refine (implLk_c l pl ql id _ rl).mono ?_
      rintro e w6 ⟨rfl, hb6⟩
      obtain ⟨x, HX⟩ : ∃ x, Hid (lkD l id = x) := ⟨_, rfl⟩
      rw [HX.out]
      have hal := alloc_below w6 (.cells #[.int .i64 x.1, .int .i64 x.2.1, .int .i64 x.2.2.1, .int .i64 x.2.2.2] 28)
      have A := Arr.new w6 [.int .i64 x.1, .int .i64 x.2.1, .int .i64 x.2.2.1, .int .i64 x.2.2.2] 28
      replace rl := (rl.keep hb6).keep hal
      have B6 := Below.step (Below.step B4 hb6) hal
      clear hb6 hal B4
      have l0 := (A.cell 0).trans (show _ = some _ from rfl)
      have l1 := (A.cell 1).trans (show _ = some _ from rfl)
      have l2 := (A.cell 2).trans (show _ = some _ from rfl)
      have l3 := (A.cell 3).trans (show _ = some _ from rfl)
      by_cases hx : x.1 = 0
      · have hlk := lkD_ok (l := l) (id := id) (by rw [HX.out]; exact hx)
        rw [HX.out] at hlk
        obtain ⟨hct, hhas, hx2⟩ := hlk
        obtain ⟨j0, hj0, hjd⟩ := foC_mem hhas
        rw [← hx2] at hj0 hjd
        have HCT : Hid (ctC l = 0) := hct
        have HJ : Hid (l[j0]? = some x.2) := hj0
        have hid : (x.2.1 == id) = true := by rw [beq_iff_eq]; exact hjd
        have dx : (x.1 != 0) = false := by rw [bne_eq_false_iff_eq]; exact hx
        have HR : Hid (RdL certC _ pl ql l) := rl
        clear hct hhas hx2 hj0 hjd hx rl
        go_wp2_with fail
        generalize hV6 : w6.alloc (.cells #[.int .i64 x.1, .int .i64 x.2.1, .int .i64 x.2.2.1, .int .i64 x.2.2.2] 28) = V6 at *
        clear hV6
        have HB6 : Hid (Below w.heap.size w V6) := B6
        clear B6 l0 l1 l2 l3
        go_loopw [10, 11] (fun f i wr => Below V6.heap.size V6 wr ∧ ∃ k : Nat, k ≤ l.length ∧ i = .int .i64 k ∧ f = .bool (fdB l x.2 k))
          (fun _ i _ => l.length - (intOf i).toNat)
        case atStart => exact ⟨Below.refl _ _, 0, Nat.zero_le _, rfl, rfl⟩
        case round =>
          obtain ⟨BV, k, hk, rfl, rfl⟩ := hrel
          replace A := A.stay BV
          replace HR : Hid (RdL certC wr pl ql l) := HR.out.keep BV
          have l0 := (A.cell 0).trans (show _ = some _ from rfl)
          have l1 := (A.cell 1).trans (show _ = some _ from rfl)
          have l2 := (A.cell 2).trans (show _ = some _ from rfl)
          have l3 := (A.cell 3).trans (show _ = some _ from rfl)
          by_cases hlt : k < l.length
          · have hI : (k : Int) < (l.length : Int) := by omega
            obtain ⟨b, o, e1, hc⟩ := HR.out.2.2.2 (by omega)
            subst e1
            obtain ⟨y, hy⟩ : ∃ y, l[k]? = some y := ⟨l[k], by simp [hlt]⟩
            obtain ⟨us, hrep, hcell⟩ := hc k y hy
            obtain rfl := cert_rep hrep
            have c0 := hcell 0 _ rfl
            have c1 := hcell 1 _ rfl
            have c2 := hcell 2 _ rfl
            rw [show certC.n = 3 from rfl] at c0 c1 c2
            rw [Nat.add_zero] at c0
            have HF : Hid (fdB l x.2 (k + 1) = (fdB l x.2 k || decide (y = x.2))) := fdB_step hy
            clear hc hcell hrep
            cases hf : fdB l x.2 k
            · by_cases hyx : y = x.2
              · have HN : Hid (fdB l x.2 (k + 1) = true) := by show _ = _; rw [HF.out, hf]; simp [hyx]
                subst hyx
                clear hy
                go_wp2_with fail
                apply share
                case h =>
                  intro JN
                  have BB := Below.refl wr.heap.size wr
                  have hne := HW.some wr
                  have g0 := HW.at (l0)
                  have g1 := HW.at (l1)
                  have g2 := HW.at (l2)
                  have g3 := HW.at (l3)
                  have f0 := HW.at (c0)
                  have f1 := HW.at (c1)
                  have f2 := HW.at (c2)
                  refine wp_region_pick [0, 1, 2, 3, 4, 5, 6, 7, 8, 9] 10 0 1 rfl rfl rfl (by kernel_rfl) (by kernel_rfl) (by kernel_rfl) (by kernel_rfl) ?_
                  simp only [opsAt, List.getElem?_toArray, List.getElem?_cons_zero, List.getElem?_cons_succ]
                  repeat (go_big_quiet_step (fail))
                  refine wpQuiet_nil ?_
                  clear g0 g1 g2 g3 f0 f1 f2
                  refine wpM_end (by kernel_rfl) rfl (by kernel_rfl) (by decide) ?_
                  rintro _ ⟨sz, rfl⟩
                  simp only [List.drop_succ_cons, List.drop_zero]
                  go_simp
                  replace BB := Below.step BB sz.h
                  clear hne
                  generalize sz.w = W7 at *
                  clear sz
                  revert BB
                  revert W7
                  exact JN.out
                case hj =>
                intro W7 BB
                have BV7 := Below.step BV BB
                clear A HR BV l0 l1 l2 l3 c0 c1 c2 BB
                go_wp2_with fail
                go_roundw
                case rel => exact ⟨BV7, k + 1, by omega, by go_num, by rw [HN.out]⟩
                case measure => simp [intOf]; omega
              · have HN : Hid (fdB l x.2 (k + 1) = false) := by show _ = _; rw [HF.out, hf]; simp [hyx]
                by_cases h1 : y.1 = x.2.1
                · have d1 : (y.1 == x.2.1) = true := by rw [beq_iff_eq]; exact h1
                  by_cases h2 : y.2.1 = x.2.2.1
                  · have d2 : (y.2.1 == x.2.2.1) = true := by rw [beq_iff_eq]; exact h2
                    have d3 : (y.2.2 == x.2.2.2) = false := by rw [beq_eq_false_iff_ne]; exact fun h3 => hyx (Prod.ext h1 (Prod.ext h2 h3))
                    clear h1 h2 hyx
                    go_wp2_with fail
                    apply share
                    case h =>
                      intro JN
                      have BB := Below.refl wr.heap.size wr
                      have hne := HW.some wr
                      have g0 := HW.at (l0)
                      have g1 := HW.at (l1)
                      have g2 := HW.at (l2)
                      have g3 := HW.at (l3)
                      have f0 := HW.at (c0)
                      have f1 := HW.at (c1)
                      have f2 := HW.at (c2)
                      refine wp_region_pick [0, 1, 2, 3, 4, 5, 6, 7, 8, 9] 10 0 1 rfl rfl rfl (by kernel_rfl) (by kernel_rfl) (by kernel_rfl) (by kernel_rfl) ?_
                      simp only [opsAt, List.getElem?_toArray, List.getElem?_cons_zero, List.getElem?_cons_succ]
                      repeat (go_big_quiet_step (fail))
                      refine wpQuiet_nil ?_
                      clear g0 g1 g2 g3 f0 f1 f2
                      refine wpM_end (by kernel_rfl) rfl (by kernel_rfl) (by decide) ?_
                      rintro _ ⟨sz, rfl⟩
                      simp only [List.drop_succ_cons, List.drop_zero]
                      go_simp
                      replace BB := Below.step BB sz.h
                      clear hne
                      generalize sz.w = W7 at *
                      clear sz
                      revert BB
                      revert W7
                      exact JN.out
                    case hj =>
                    intro W7 BB
                    have BV7 := Below.step BV BB
                    clear A HR BV l0 l1 l2 l3 c0 c1 c2 BB
                    go_wp2_with fail
                    go_roundw
                    case rel => exact ⟨BV7, k + 1, by omega, by go_num, by rw [HN.out]⟩
                    case measure => simp [intOf]; omega
                  · have d2 : (y.2.1 == x.2.2.1) = false := by rw [beq_eq_false_iff_ne]; exact h2
                    clear h1 h2 hyx
                    go_wp2_with fail
                    apply share
                    case h =>
                      intro JN
                      have BB := Below.refl wr.heap.size wr
                      have hne := HW.some wr
                      have g0 := HW.at (l0)
                      have g1 := HW.at (l1)
                      have g2 := HW.at (l2)
                      have g3 := HW.at (l3)
                      have f0 := HW.at (c0)
                      have f1 := HW.at (c1)
                      have f2 := HW.at (c2)
                      refine wp_region_pick [0, 1, 2, 3, 4, 5, 6, 7, 8, 9] 10 0 1 rfl rfl rfl (by kernel_rfl) (by kernel_rfl) (by kernel_rfl) (by kernel_rfl) ?_
                      simp only [opsAt, List.getElem?_toArray, List.getElem?_cons_zero, List.getElem?_cons_succ]
                      repeat (go_big_quiet_step (fail))
                      refine wpQuiet_nil ?_
                      clear g0 g1 g2 g3 f0 f1 f2
                      refine wpM_end (by kernel_rfl) rfl (by kernel_rfl) (by decide) ?_
                      rintro _ ⟨sz, rfl⟩
                      simp only [List.drop_succ_cons, List.drop_zero]
                      go_simp
                      replace BB := Below.step BB sz.h
                      clear hne
                      generalize sz.w = W7 at *
                      clear sz
                      revert BB
                      revert W7
                      exact JN.out
                    case hj =>
                    intro W7 BB
                    have BV7 := Below.step BV BB
                    clear A HR BV l0 l1 l2 l3 c0 c1 c2 BB
                    go_wp2_with fail
                    go_roundw
                    case rel => exact ⟨BV7, k + 1, by omega, by go_num, by rw [HN.out]⟩
                    case measure => simp [intOf]; omega
                · have d1 : (y.1 == x.2.1) = false := by rw [beq_eq_false_iff_ne]; exact h1
                  clear h1 hyx
                  go_wp2_with fail
                  apply share
                  case h =>
                    intro JN
                    have BB := Below.refl wr.heap.size wr
                    have hne := HW.some wr
                    have g0 := HW.at (l0)
                    have g1 := HW.at (l1)
                    have g2 := HW.at (l2)
                    have g3 := HW.at (l3)
                    have f0 := HW.at (c0)
                    have f1 := HW.at (c1)
                    have f2 := HW.at (c2)
                    refine wp_region_pick [0, 1, 2, 3, 4, 5, 6, 7, 8, 9] 10 0 1 rfl rfl rfl (by kernel_rfl) (by kernel_rfl) (by kernel_rfl) (by kernel_rfl) ?_
                    simp only [opsAt, List.getElem?_toArray, List.getElem?_cons_zero, List.getElem?_cons_succ]
                    repeat (go_big_quiet_step (fail))
                    refine wpQuiet_nil ?_
                    clear g0 g1 g2 g3 f0 f1 f2
                    refine wpM_end (by kernel_rfl) rfl (by kernel_rfl) (by decide) ?_
                    rintro _ ⟨sz, rfl⟩
                    simp only [List.drop_succ_cons, List.drop_zero]
                    go_simp
                    replace BB := Below.step BB sz.h
                    clear hne
                    generalize sz.w = W7 at *
                    clear sz
                    revert BB
                    revert W7
                    exact JN.out
                  case hj =>
                  intro W7 BB
                  have BV7 := Below.step BV BB
                  clear A HR BV l0 l1 l2 l3 c0 c1 c2 BB
                  go_wp2_with fail
                  go_roundw
                  case rel => exact ⟨BV7, k + 1, by omega, by go_num, by rw [HN.out]⟩
                  case measure => simp [intOf]; omega
            · have HN : Hid (fdB l x.2 (k + 1) = true) := by show _ = _; rw [HF.out, hf]; rfl
              go_wp2_with fail
              apply share
              case h =>
                intro JN
                have BB := Below.refl wr.heap.size wr
                have hne := HW.some wr
                have g0 := HW.at (l0)
                have g1 := HW.at (l1)
                have g2 := HW.at (l2)
                have g3 := HW.at (l3)
                have f0 := HW.at (c0)
                have f1 := HW.at (c1)
                have f2 := HW.at (c2)
                refine wp_region_pick [0, 1, 2, 3, 4, 5, 6, 7, 8, 9] 10 0 1 rfl rfl rfl (by kernel_rfl) (by kernel_rfl) (by kernel_rfl) (by kernel_rfl) ?_
                simp only [opsAt, List.getElem?_toArray, List.getElem?_cons_zero, List.getElem?_cons_succ]
                repeat (go_big_quiet_step (fail))
                refine wpQuiet_nil ?_
                clear g0 g1 g2 g3 f0 f1 f2
                refine wpM_end (by kernel_rfl) rfl (by kernel_rfl) (by decide) ?_
                rintro _ ⟨sz, rfl⟩
                simp only [List.drop_succ_cons, List.drop_zero]
                go_simp
                replace BB := Below.step BB sz.h
                clear hne
                generalize sz.w = W7 at *
                clear sz
                revert BB
                revert W7
                exact JN.out
              case hj =>
              intro W7 BB
              have BV7 := Below.step BV BB
              clear A HR BV l0 l1 l2 l3 c0 c1 c2 BB
              go_wp2_with fail
              go_roundw
              case rel => exact ⟨BV7, k + 1, by omega, by go_num, by rw [HN.out]⟩
              case measure => simp [intOf]; omega
          · have e9 : k = l.length := by omega
            subst e9
            have HT : Hid (fdB l x.2 l.length = true) := fdB_all HJ.out
            rw [HT.out]
            have KC : Hid (Calls Try.prog 20 #[.slice pl l.length ql] wr fun e w' => e = .returned (.int .i64 0) ∧ Below wr.heap.size wr w') := by have h := implCt_c l pl ql wr HR.out; rw [HCT.out] at h; exact h
            have B9 := Below.step HB6.out BV
            clear BV HR A
            go_wp2_with fail
            refine KC.out.mono ?_
            rintro e w9 ⟨rfl, hb9⟩
            go_wp2_with fail
            go_ret
            exact ⟨rfl, Below.step B9 hb9⟩
      · have dx : (x.1 != 0) = true := by rw [bne_iff_ne]; exact hx
        have ds : (x.1 == x.1) = true := by simp
        go_wp2_with fail
        generalize hV6 : w6.alloc (.cells #[.int .i64 x.1, .int .i64 x.2.1, .int .i64 x.2.2.1, .int .i64 x.2.2.2] 28) = V6 at *
        clear hV6
        have KS : Hid (∀ W : World, Below V6.heap.size V6 W → Calls Try.prog 19 #[.slice pl l.length ql, .int .i64 id] W fun e w' => e = .returned (aggC x) ∧ Below W.heap.size W w') := fun W hW => by have h := specLk_c l pl ql id W (rl.keep hW); rw [HX.out] at h; exact h
        apply share
        case h =>
          intro JN
          have BB := Below.refl V6.heap.size V6
          have hne := HW.some V6
          have g0 := HW.at (l0)
          have g1 := HW.at (l1)
          have g2 := HW.at (l2)
          have g3 := HW.at (l3)
          refine wp_region_pick [0, 1, 4, 5] 6 2 2 rfl rfl rfl (by kernel_rfl) (by kernel_rfl) (by kernel_rfl) (by kernel_rfl) ?_
          simp only [opsAt, List.getElem?_toArray, List.getElem?_cons_zero, List.getElem?_cons_succ]
          repeat (go_big_quiet_step (fail))
          refine wpQuiet_nil ?_
          clear g0 g1 g2 g3
          refine wpM_only (i := 2) (by kernel_rfl) ?_
          refine mOp_call rfl (by go_simp) 19 _ #[.slice pl l.length ql, .int .i64 id] (fun w => by go_simp) rfl ?_
          rintro _ ⟨sg, rfl⟩
          refine (KS.out _ (Below.step BB sg.h)).mono ?_
          rintro e wg1 ⟨rfl, hbx⟩
          have hbg := Below.step sg.h hbx
          refine ⟨_, rfl, ⟨⟨wg1, hbx⟩, rfl⟩, ?_⟩
          replace BB := Below.step BB hbg
          clear hbg hbx sg
          replace hne := HW.some wg1
          have hg0 := HW.at (cell_keep (l0) BB)
          have hg1 := HW.at (cell_keep (l1) BB)
          have hg2 := HW.at (cell_keep (l2) BB)
          have hg3 := HW.at (cell_keep (l3) BB)
          refine wpM_more [3] 1 0 rfl (by kernel_rfl) (by kernel_rfl) (by kernel_rfl) (by kernel_rfl) ?_
          simp only [opsAt, List.getElem?_toArray, List.getElem?_cons_zero, List.getElem?_cons_succ]
          go_simp
          repeat (go_big_quiet_step (fail))
          refine wpQuiet_nil ?_
          clear hg0 hg1 hg2 hg3
          refine wpM_end (by kernel_rfl) rfl (by kernel_rfl) (by decide) ?_
          rintro _ ⟨sz, rfl⟩
          simp only [List.drop_succ_cons, List.drop_zero]
          go_simp
          replace BB := Below.step BB sz.h
          clear hne
          generalize sz.w = W6 at *
          clear sz
          revert BB
          revert W6
          exact JN.out
        case hj =>
        intro W6 BB
        go_wp2_with fail
        go_ret
        exact ⟨rfl, Below.step B6 BB⟩
end Go.Proofs.Ytklglpmlfboglaa
