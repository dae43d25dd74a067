/- The walk of FnSigns (written by tools/walk_signs.py). -/
import Derived.Test.YtklglpmlfboglaaDrawSi
import Derived.Test.YtklglpmlfboglaaSignU
import Derived.Test.YtklglpmlfboglaaSignV
import Derived.Test.YtklglpmlfboglaaSignN
import Derived.Test.YtklglpmlfboglaaCertJ
import Derived.Test.YtklglpmlfboglaaJoint5
namespace Go.Proofs.Ytklglpmlfboglaa
open Go.ChangeShapes Go.WideShapes Go.ChangeAt Go.RowKit

theorem signsR_f0 (c x : Int) (p : Option Addr) (n m : Nat) (w : World) : (Instr.field 45 (.agg #[.int .i64 c, .int .i64 x, .slice p n m]) 0).run Try.prog w = .ok (.int .i64 c) w := by kernel_rfl
set_option maxRecDepth 4000 in
set_option maxHeartbeats 8000000 in
theorem fnSigns_walk (a : Option Addr) (cap : Nat) (bs0 : List UInt8) (w : World) (r0 : Rd w a cap bs0) :
    Calls Try.prog 4 #[.slice a bs0.length cap] w fun e w' => e = .returned (.bool true) ∧ Below w.heap.size w w' := by
  by_cases hl0 : 1048576 < bs0.length
  · go_enter Try.func4, Try.ntmps4
    go_wp2_with fail
    refine (lwBig_yes _ _ _ _ hl0).mono ?_
    rintro e w1 ⟨rfl, rfl⟩
    go_wp2
    go_ret
    exact ⟨rfl, Below.refl _ _⟩
  replace hl0 : bs0.length ≤ 1048576 := by omega
  have sf0 := signsR_f0
  have HR0 : Hid (Rd w a cap bs0) := r0
  clear r0
  go_enter Try.func4, Try.ntmps4
  go_wp2_with fail
  refine (lwBig_no _ _ _ _ hl0).mono ?_
  rintro e w1 ⟨rfl, hw1⟩
  rw [hw1]
  clear hw1 w1
  go_wp2_with fail
  refine (drawSw_c _ _ bs0 _ HR0.out).mono ?_
  rintro e w1 ⟨list, lk, signs, id, by', d, pc, pl, ps, pd, qc, ql, qs, qd, rfl, rc, rl, rs, rd, hll, hlk, hsl, hok, hi1, hi4, hdl, BW⟩
  go_wp2_with fail
  refine (implSw_c list lk signs id by' d pc pl ps pd qc ql qs qd _ rc rl rs rd).mono ?_
  rintro e w2 ⟨v, xs, fp, rfl, OL, hb2⟩
  obtain ⟨po, qo, rfl, -⟩ := OL.rd
  obtain ⟨x, HX⟩ : ∃ x, Hid (swD list lk signs id by' d = x) := ⟨_, rfl⟩
  rw [HX.out] at OL
  rw [HX.out]
  have hal := alloc_below w2 (.cells #[.int .i64 x.1, .int .i64 x.2.1, .slice po x.2.2.length qo] 45)
  have A := Arr.new w2 [.int .i64 x.1, .int .i64 x.2.1, .slice po x.2.2.length qo] 45
  have h12 := Below.step hb2 hal
  have RC := rc.keep h12
  have RK := rl.keep h12
  have RS := rs.keep h12
  have RD := rd.keep h12
  have RO := (RdL.own OL).keep hal
  have B2 := Below.step BW h12
  clear rc rl rs rd hb2 hal h12 OL BW
  have l0 := (A.cell 0).trans (show _ = some _ from rfl)
  have l1 := (A.cell 1).trans (show _ = some _ from rfl)
  have l2 := (A.cell 2).trans (show _ = some _ from rfl)
  have hqs1 : signs.length ≤ qs := RS.1
  have hqs2 : qs ≤ 2 ^ 63 - 1 := RS.2.1
  have hql1 : lk.length ≤ ql := RK.1
  have hql2 : ql ≤ 2 ^ 63 - 1 := RK.2.1
  by_cases hx : x.1 = 0
  · have hsw : swC list lk signs id by' d = 0 := by
      have h := HX.out
      unfold swD at h
      by_cases hc : swC list lk signs id by' d = 0
      · exact hc
      · rw [if_neg hc] at h; rw [← h] at hx; exact absurd hx hc
    have hxe : x = (0, (signs.length : Int), signs ++ [(id, by', d)]) := by rw [← HX.out, swD, if_pos hsw]
    subst hxe
    obtain ⟨hct, hsg, hso⟩ := swC_ok hsw
    obtain ⟨hhas, hby, h32, how, hlt⟩ := swO_ok hso
    have HSG : Hid (sgC (signs ++ [(id, by', d)]) = 0) := sw_sgC hsw
    have HSS : Hid (∀ s ∈ signs, sgO s = 0) := (sgC_all.1 hsg).2
    have HD32 : Hid (d.length = 32) := by show _ = _; simpa [is32] using h32
    have HOW : Hid ((decide ((foC list id).2.1 = by') || lkB lk id) = true) := how
    have HLK : Hid (lkD list id = (0, foC list id)) := by show _ = _; rw [lkD, if_pos hct, hhas]; rfl
    have hidw : (Lit.int .i64 id).wf = true := wf_i64 (by omega) (by omega)
    clear hx hsw hct hsg hso hhas hby h32 how hok
    simp only [] at A RC RK RS RD RO B2 l0 l1 l2 ⊢
    obtain ⟨out, HOut⟩ : ∃ out, Hid (signs ++ [(id, by', d)] = out) := ⟨_, rfl⟩
    rw [HOut.out] at A RC RK RS RD RO B2 l0 l1 l2 HSG
    have HOL : Hid (out.length = signs.length + 1) := by show _ = _; rw [← HOut.out]; simp
    rw [HOut.out]
    have KL : Hid (∀ W : World, RdL certC W pc qc list → Calls Try.prog 18 #[.slice pc list.length qc, .int .i64 id] W fun e w' => e = .returned (.agg #[.int .i64 0, .int .i64 (foC list id).1, .int .i64 (foC list id).2.1, .int .i64 (foC list id).2.2]) ∧ Below W.heap.size W w') := fun W hW => by have h := implLk_c list pc qc id W hW; rw [HLK.out] at h; exact h
    obtain ⟨f, hfo⟩ : ∃ f, Hid (foC list id = f) := ⟨_, rfl⟩
    rw [hfo.out] at KL HOW
    go_wp2_with fail
    refine (KL.out _ RC).mono ?_
    rintro e w3 ⟨rfl, hb3⟩
    have hal := alloc_below w3 (.cells #[.int .i64 0, .int .i64 f.1, .int .i64 f.2.1, .int .i64 f.2.2] 28)
    have C := Arr.new w3 [.int .i64 0, .int .i64 f.1, .int .i64 f.2.1, .int .i64 f.2.2] 28
    have h23 := Below.step hb3 hal
    replace A := A.stay h23
    replace RK := RK.keep h23
    replace RS := RS.keep h23
    replace RD := RD.keep h23
    replace RO := RO.keep h23
    have B3 := Below.step B2 h23
    clear KL hb3 hal h23 B2 RC l0 l1 l2
    go_wp2_with fail
    generalize hV3 : w3.alloc (.cells #[.int .i64 0, .int .i64 f.1, .int .i64 f.2.1, .int .i64 f.2.2] 28) = V3 at *
    clear hV3
    have HRK : Hid (RdI V3 pl ql lk) := RK
    clear RK
    go_loopw [11, 12] (fun o i wr => Below V3.heap.size V3 wr ∧ ∃ k : Nat, k ≤ lk.length ∧ i = .int .i64 k ∧ o = .bool (lkB (lk.take k) id))
      (fun _ i _ => lk.length - (intOf i).toNat)
    case atStart => exact ⟨Below.refl _ _, 0, Nat.zero_le _, rfl, by simp [lkB]⟩
    case round =>
      obtain ⟨BV, k, hk, rfl, rfl⟩ := hrel
      by_cases hkl : k < lk.length
      · have hI : (k : Int) < (lk.length : Int) := by omega
        obtain ⟨b, o, e1, hc⟩ := (HRK.out.keep BV).2.2.2 (by omega)
        subst e1
        obtain ⟨y, hy⟩ : ∃ y, lk[k]? = some y := ⟨lk[k], by simp [hkl]⟩
        have c0 := hc k hkl
        rw [atI_some hy] at c0
        have HN : Hid (lkB (lk.take (k + 1)) id = (lkB (lk.take k) id || (y == id))) := lkB_take hy
        clear hc
        cases hf : lkB (lk.take k) id
        · rw [hf] at HN
          cases hyi : (y == id)
          · rw [hyi] at HN
            go_wp2_with fail
            go_roundw
            case rel => exact ⟨BV, k + 1, by omega, by go_num, by rw [HN.out]; rfl⟩
            case measure => simp [intOf]; omega
          · rw [hyi] at HN
            go_wp2_with fail
            go_roundw
            case rel => exact ⟨BV, k + 1, by omega, by go_num, by rw [HN.out]; rfl⟩
            case measure => simp [intOf]; omega
        · rw [hf] at HN
          go_wp2_with fail
          go_roundw
          case rel => exact ⟨BV, k + 1, by omega, by go_num, by rw [HN.out]; rfl⟩
          case measure => simp [intOf]; omega
      · have e9 : k = lk.length := by omega
        subst e9
        rw [List.take_length]
        obtain ⟨lb, hlb⟩ : ∃ lb, Hid (lkB lk id = lb) := ⟨_, rfl⟩
        rw [hlb.out] at HOW
        rw [hlb.out]
        replace A := A.stay BV
        replace C := C.stay BV
        replace RS := RS.keep BV
        replace RD := RD.keep BV
        replace RO := RO.keep BV
        replace B3 := Below.step B3 BV
        clear HRK BV
        go_wp2_with fail
        have HA : Hid (Arr wr w2.heap.size _ _) := A
        have HC : Hid (Arr wr w3.heap.size _ _) := C
        have HRS : Hid (RdL signC wr ps qs signs) := RS
        have HRD : Hid (Rd wr pd qd d) := RD
        have HRO : Hid (RdL signC wr po qo out) := RO
        have HB3 : Hid (Below w.heap.size w wr) := B3
        clear A C RS RD RO B3
        obtain ⟨V4, hV4⟩ : ∃ V4, V4 = wr := ⟨_, rfl⟩
        subst hV4
        go_loopw [13] (fun i wr => Below V4.heap.size V4 wr ∧ ∃ k : Nat, k ≤ signs.length ∧ i = .int .i64 k)
          (fun i _ => signs.length - (intOf i).toNat)
        case atStart => exact ⟨Below.refl _ _, 0, Nat.zero_le _, rfl⟩
        case round =>
          obtain ⟨BV, k, hk, rfl⟩ := hrel
          have A := HA.out.stay BV
          have l0 := (A.cell 0).trans (show _ = some _ from rfl)
          have l1 := (A.cell 1).trans (show _ = some _ from rfl)
          have l2 := (A.cell 2).trans (show _ = some _ from rfl)
          by_cases hkl : k < signs.length
          · have hI : (k : Int) < (signs.length : Int) := by omega
            obtain ⟨b, o, e1, hc⟩ := (HRS.out.keep BV).2.2.2 (by omega)
            subst e1
            obtain ⟨y, hy⟩ : ∃ y, signs[k]? = some y := ⟨signs[k], by simp [hkl]⟩
            obtain ⟨us, hrep, hcell⟩ := hc k y hy
            obtain ⟨py, qy, rfl, ry⟩ := sign_rep hrep
            have c0 := hcell 0 _ rfl
            have c2 := hcell 2 _ rfl
            rw [show signC.n = 3 from rfl] at c0 c2
            rw [Nat.add_zero] at c0
            have hp := sgO_parts (HSS.out y (List.mem_of_getElem? hy))
            have HCK : Hid (ckB out (k : Int) y.1 y.2.2 = true) := by show _ = _; rw [← HOut.out]; exact ck_old hy (by rw [HOut.out]; exact HSG.out)
            have KK : Hid (∀ W : World, Below wr.heap.size wr W → Calls Try.prog 24 #[.slice po out.length qo, .int .i64 (k : Int), .int .i64 y.1, .slice py y.2.2.length qy] W fun e w' => e = .returned (.bool true) ∧ Below W.heap.size W w') := fun W hW => by
              have h := implCk_c out po py qo qy k y.1 y.2.2 W ((HRO.out.keep BV).keep hW) (ry.keep hW) (wf_i64 (by omega) (by omega)) (wf_i64 (by omega) (by omega))
              rw [HCK.out] at h
              exact h
            clear hc hcell hrep hp ry HCK
            go_wp2_with fail
            apply share
            case h =>
              intro JN
              have BB := Below.refl wr.heap.size wr
              have hne := HW.some wr
              have g0 := HW.at (l0)
              have g1 := HW.at (l1)
              have g2 := HW.at (l2)
              have f0 := HW.at (c0)
              have f2 := HW.at (c2)
              refine wp_region_pick [0, 1, 2, 3, 4, 5, 6, 7, 8, 9, 10, 11, 12] 14 1 1 rfl rfl rfl (by kernel_rfl) (by kernel_rfl) (by kernel_rfl) (by kernel_rfl) ?_
              simp only [opsAt, List.getElem?_toArray, List.getElem?_cons_zero, List.getElem?_cons_succ]
              repeat (go_big_quiet_step (fail))
              refine wpQuiet_nil ?_
              clear g0 g1 g2 f0 f2
              refine wpM_only (i := 13) (by kernel_rfl) ?_
              refine mOp_call rfl (by go_simp) 24 _ #[.slice po out.length qo, .int .i64 (k : Int), .int .i64 y.1, .slice py y.2.2.length qy] (fun w => by go_simp) rfl ?_
              rintro _ ⟨sg, rfl⟩
              refine (KK.out _ (Below.step BB sg.h)).mono ?_
              rintro e wg1 ⟨rfl, hbx⟩
              have hbg := Below.step sg.h hbx
              refine ⟨_, rfl, ⟨⟨wg1, hbx⟩, rfl⟩, ?_⟩
              replace BB := Below.step BB hbg
              clear hbg hbx sg
              replace hne := HW.some wg1
              refine wpM_end (by kernel_rfl) rfl (by kernel_rfl) (by decide) ?_
              rintro _ ⟨sz, rfl⟩
              simp only [List.drop_succ_cons, List.drop_zero]
              go_simp
              replace BB := Below.step BB sz.h
              clear hne
              generalize sz.w = W7 at *
              clear sz
              revert BB
              revert W7
              exact JN.out
            case hj =>
            intro W7 BB
            have BV7 := Below.step BV BB
            clear A l0 l1 l2 c0 c2 KK BB BV
            go_wp2_with fail
            go_roundw
            case rel => exact ⟨BV7, k + 1, by omega, by go_num⟩
            case measure => simp [intOf]; omega
          · have e9 : k = signs.length := by omega
            subst e9
            have C := HC.out.stay BV
            have RO := HRO.out.keep BV
            have RD := HRD.out.keep BV
            have B5 := Below.step HB3.out BV
            clear l0 l1 l2 HA HC HRS HRD HRO BV
            go_wp2_with fail
            refine (drawCk_c _ _ bs0 _ (HR0.out.keep B5)).mono ?_
            rintro e w8 ⟨qs2, place, n, dd, p8, pd8, q8, qd8, rfl, rs8, rd8, hs8, hp0, hp1, hn0, hn1, hd8, hb8⟩
            replace A := A.stay hb8
            replace C := C.stay hb8
            replace RO := RO.keep hb8
            replace RD := RD.keep hb8
            replace B5 := Below.step B5 hb8
            clear hb8
            have l0 := (A.cell 0).trans (show _ = some _ from rfl)
            have l1 := (A.cell 1).trans (show _ = some _ from rfl)
            have l2 := (A.cell 2).trans (show _ = some _ from rfl)
            have m0 := (C.cell 0).trans (show _ = some _ from rfl)
            have m1 := (C.cell 1).trans (show _ = some _ from rfl)
            have m2 := (C.cell 2).trans (show _ = some _ from rfl)
            have m3 := (C.cell 3).trans (show _ = some _ from rfl)
            have hol : ((out.length : Int) == (signs.length : Int) + 1) = true := by rw [beq_iff_eq]; have := HOL.out; omega
            have HNW : Hid (ckB out (signs.length : Int) id d = true) := by show _ = _; rw [← HOut.out]; exact ck_new (x := (id, by', d)) (by rw [HOut.out]; exact HSG.out)
            have K1 : Hid (∀ W : World, RdL signC W po qo out → Rd W pd qd d → Calls Try.prog 24 #[.slice po out.length qo, .int .i64 (signs.length : Int), .int .i64 id, .slice pd d.length qd] W fun e w' => e = .returned (.bool true) ∧ Below W.heap.size W w') := fun W h1 h2 => by
              have h := implCk_c out po pd qo qd signs.length id d W h1 h2 (wf_i64 (by omega) (by omega)) hidw
              rw [HNW.out] at h
              exact h
            have K2 : Hid (∀ W : World, RdL signC W po qo out → Calls Try.prog 26 #[.slice po out.length qo] W fun e w' => e = .returned (.int .i64 0) ∧ Below W.heap.size W w') := fun W h1 => by have h := implSg_c out po qo W h1; rw [HSG.out] at h; exact h
            obtain ⟨cb, hcb⟩ : ∃ cb, Hid (ckB qs2 place n dd = cb) := ⟨_, rfl⟩
            have K3 : Hid (∀ W : World, RdL signC W p8 q8 qs2 → Rd W pd8 qd8 dd → Calls Try.prog 24 #[.slice p8 qs2.length q8, .int .i64 place, .int .i64 n, .slice pd8 dd.length qd8] W fun e w' => e = .returned (.bool cb) ∧ Below W.heap.size W w') := fun W h1 h2 => by have h := implCk_c qs2 p8 pd8 q8 qd8 place n dd W h1 h2 (wf_i64 (by omega) (by omega)) (wf_i64 (by omega) (by omega)); rw [hcb.out] at h; exact h
            have K4 : Hid (∀ W : World, RdL signC W p8 q8 qs2 → Rd W pd8 qd8 dd → Calls Try.prog 27 #[.slice p8 qs2.length q8, .int .i64 place, .int .i64 n, .slice pd8 dd.length qd8] W fun e w' => e = .returned (.bool cb) ∧ Below W.heap.size W w') := fun W h1 h2 => by have h := specCk_c qs2 p8 pd8 q8 qd8 place n dd W h1 h2 (wf_i64 (by omega) (by omega)); rw [hcb.out] at h; exact h
            clear HNW hcb HOL
            by_cases hfb : f.2.1 = by'
            · have dfb : (f.2.1 == by') = true := by rw [beq_iff_eq]; exact hfb
              clear hfb
              go_wp2_with fail
              refine (K1.out _ RO RD).mono ?_
              rintro e w9 ⟨rfl, hb9⟩
              replace A := A.stay hb9
              replace RO := RO.keep hb9
              replace rs8 := rs8.keep hb9
              replace rd8 := rd8.keep hb9
              replace B5 := Below.step B5 hb9
              clear hb9 l0 l1 l2
              have l0 := (A.cell 0).trans (show _ = some _ from rfl)
              have l1 := (A.cell 1).trans (show _ = some _ from rfl)
              have l2 := (A.cell 2).trans (show _ = some _ from rfl)
              go_wp2_with fail
              refine (K2.out _ RO).mono ?_
              rintro e w10 ⟨rfl, hb10⟩
              replace rs8 := rs8.keep hb10
              replace rd8 := rd8.keep hb10
              replace B5 := Below.step B5 hb10
              clear hb10
              go_wp2_with fail
              refine (K3.out _ rs8 rd8).mono ?_
              rintro e w11 ⟨rfl, hb11⟩
              replace rs8 := rs8.keep hb11
              replace rd8 := rd8.keep hb11
              replace B5 := Below.step B5 hb11
              clear hb11
              go_wp2_with fail
              refine (K4.out _ rs8 rd8).mono ?_
              rintro e w12 ⟨rfl, hb12⟩
              have hcc : (cb == cb) = true := by simp
              go_wp2_with fail
              go_ret
              exact ⟨by first | rfl | simp, Below.step B5 hb12⟩
            · have dfb : (f.2.1 == by') = false := by rw [beq_eq_false_iff_ne]; exact hfb
              have hlt : lb = true := by have h := HOW.out; simpa [hfb] using h
              subst hlt
              clear hfb
              go_wp2_with fail
              refine (K1.out _ RO RD).mono ?_
              rintro e w9 ⟨rfl, hb9⟩
              replace A := A.stay hb9
              replace RO := RO.keep hb9
              replace rs8 := rs8.keep hb9
              replace rd8 := rd8.keep hb9
              replace B5 := Below.step B5 hb9
              clear hb9 l0 l1 l2
              have l0 := (A.cell 0).trans (show _ = some _ from rfl)
              have l1 := (A.cell 1).trans (show _ = some _ from rfl)
              have l2 := (A.cell 2).trans (show _ = some _ from rfl)
              go_wp2_with fail
              refine (K2.out _ RO).mono ?_
              rintro e w10 ⟨rfl, hb10⟩
              replace rs8 := rs8.keep hb10
              replace rd8 := rd8.keep hb10
              replace B5 := Below.step B5 hb10
              clear hb10
              go_wp2_with fail
              refine (K3.out _ rs8 rd8).mono ?_
              rintro e w11 ⟨rfl, hb11⟩
              replace rs8 := rs8.keep hb11
              replace rd8 := rd8.keep hb11
              replace B5 := Below.step B5 hb11
              clear hb11
              go_wp2_with fail
              refine (K4.out _ rs8 rd8).mono ?_
              rintro e w12 ⟨rfl, hb12⟩
              have hcc : (cb == cb) = true := by simp
              go_wp2_with fail
              go_ret
              exact ⟨by first | rfl | simp, Below.step B5 hb12⟩
  · have dx : (x.1 != 0) = true := by rw [bne_iff_ne]; exact hx
    have ds : (x.1 == x.1) = true := by simp
    go_wp2_with fail
    generalize hV : w2.alloc (.cells #[.int .i64 x.1, .int .i64 x.2.1, .slice po x.2.2.length qo] 45) = V at *
    clear hV hok
    have KS : Hid (∀ W : World, Below V.heap.size V W → Calls Try.prog 23 #[.slice pc list.length qc, .slice pl lk.length ql, .slice ps signs.length qs, .int .i64 id, .int .i64 by', .slice pd d.length qd] W fun e w' => ∃ v, e = .returned (.agg #[.int .i64 x.1, .int .i64 x.2.1, v]) ∧ (∃ p q, v = .slice p x.2.2.length q) ∧ Below W.heap.size W w') := fun W hW => by
      have h := specSw_c list lk signs id by' d pc pl ps pd qc ql qs qd W (RC.keep hW) (RK.keep hW) (RS.keep hW) (RD.keep hW)
      rw [HX.out] at h
      refine h.mono ?_
      rintro e w' ⟨v, xs, fp, rfl, ho, hb⟩
      obtain ⟨p3, q3, rfl, -⟩ := ho.rd
      exact ⟨_, rfl, ⟨p3, q3, rfl⟩, hb⟩
    apply share
    case h =>
      intro JN
      have BB := Below.refl V.heap.size V
      have hne := HW.some V
      have g0 := HW.at (l0)
      have g1 := HW.at (l1)
      have g2 := HW.at (l2)
      refine wp_region_pick [0, 1, 2, 3, 4, 5, 8, 9] 10 2 2 rfl rfl rfl (by kernel_rfl) (by kernel_rfl) (by kernel_rfl) (by kernel_rfl) ?_
      simp only [opsAt, List.getElem?_toArray, List.getElem?_cons_zero, List.getElem?_cons_succ]
      repeat (go_big_quiet_step (fail))
      refine wpQuiet_nil ?_
      clear g0 g1 g2
      refine wpM_only (i := 6) (by kernel_rfl) ?_
      refine mOp_call rfl (by go_simp) 23 _ #[.slice pc list.length qc, .slice pl lk.length ql, .slice ps signs.length qs, .int .i64 id, .int .i64 by', .slice pd d.length qd] (fun w => by go_simp) rfl ?_
      rintro _ ⟨sg, rfl⟩
      refine (KS.out _ (Below.step BB sg.h)).mono ?_
      rintro e wg1 ⟨v, rfl, ⟨p3, q3, rfl⟩, hbx⟩
      have hbg := Below.step sg.h hbx
      refine ⟨_, rfl, ⟨⟨wg1, hbx⟩, rfl⟩, ?_⟩
      replace BB := Below.step BB hbg
      clear hbg hbx sg
      replace hne := HW.some wg1
      have hg0 := HW.at (cell_keep (l0) BB)
      have hg1 := HW.at (cell_keep (l1) BB)
      have hg2 := HW.at (cell_keep (l2) BB)
      refine wpM_more [7] 1 0 rfl (by kernel_rfl) (by kernel_rfl) (by kernel_rfl) (by kernel_rfl) ?_
      simp only [opsAt, List.getElem?_toArray, List.getElem?_cons_zero, List.getElem?_cons_succ]
      go_simp
      repeat (go_big_quiet_step (fail))
      refine wpQuiet_nil ?_
      clear hg0 hg1 hg2
      refine wpM_end (by kernel_rfl) rfl (by kernel_rfl) (by decide) ?_
      rintro _ ⟨sz, rfl⟩
      simp only [List.drop_succ_cons, List.drop_zero]
      go_simp
      replace BB := Below.step BB sz.h
      clear hne
      generalize sz.w = W6 at *
      clear sz
      revert BB
      revert q3
      revert p3
      revert W6
      exact JN.out
    case hj =>
    intro W6 p3 q3 BB
    go_wp2_with fail
    go_ret
    exact ⟨rfl, Below.step B2 BB⟩
end Go.Proofs.Ytklglpmlfboglaa

