/- The contracts of l12Sign and SignWith in the specification, at every argument (written by tools/sign_u.py). What was there stays. -/
import Derived.Test.YtklglpmlfboglaaSignT
import Derived.Test.YtklglpmlfboglaaJoint5
namespace Go.Proofs.Ytklglpmlfboglaa
open Go.ChangeShapes Go.WideShapes Go.ChangeAt Go.RowKit

def swL (list : List CertD) (lk : List Int) (signs : List SignD) (x : SignD) : List SignD := if swO list lk signs x.1 x.2.1 x.2.2 = 0 then signs ++ [x] else []
theorem swL_ok {list : List CertD} {lk : List Int} {signs : List SignD} {x : SignD} (h : swO list lk signs x.1 x.2.1 x.2.2 = 0) : swL list lk signs x = signs ++ [x] := by unfold swL; rw [if_pos h]
theorem swL_bad {list : List CertD} {lk : List Int} {signs : List SignD} {x : SignD} {z : Int} (h : swO list lk signs x.1 x.2.1 x.2.2 = z) (hz : z ≠ 0) : swL list lk signs x = [] := by unfold swL; rw [if_neg (by rw [h]; exact hz)]
set_option maxRecDepth 4000 in
set_option maxHeartbeats 2000000 in
theorem l12Sign_c (list : List CertD) (lk : List Int) (signs : List SignD) (x : SignD) (pc pl ps pd : Option Addr) (qc ql qs qd : Nat) (w : World)
    (rc : RdL certC w pc qc list) (rl : RdI w pl ql lk) (rs : RdL signC w ps qs signs) (rd : Rd w pd qd x.2.2) (hs : sgC signs = 0) :
    Calls Try.prog 58 #[.slice pc list.length qc, .slice pl lk.length ql, .slice ps signs.length qs, .agg #[.int .i64 x.1, .int .i64 x.2.1, .slice pd x.2.2.length qd]] w fun e w' => ∃ v xs fp, e = .returned (.tuple #[v, .int .i64 (swO list lk signs x.1 x.2.1 x.2.2)]) ∧ OwnL 49 signC w' w.heap.size v (swL list lk signs x) xs fp ∧ Below w.heap.size w w' := by
  have BW := alloc_below w (.cells #[.int .i64 x.1, .int .i64 x.2.1, .slice pd x.2.2.length qd] 49)
  have A := Arr.new w [.int .i64 x.1, .int .i64 x.2.1, .slice pd x.2.2.length qd] 49
  have HRC : Hid (RdL certC (w.alloc (.cells #[.int .i64 x.1, .int .i64 x.2.1, .slice pd x.2.2.length qd] 49)) pc qc list) := rc.keep BW
  have HRL : Hid (RdI (w.alloc (.cells #[.int .i64 x.1, .int .i64 x.2.1, .slice pd x.2.2.length qd] 49)) pl ql lk) := rl.keep BW
  have HRS : Hid (RdL signC (w.alloc (.cells #[.int .i64 x.1, .int .i64 x.2.1, .slice pd x.2.2.length qd] 49)) ps qs signs) := rs.keep BW
  have HRD : Hid (Rd (w.alloc (.cells #[.int .i64 x.1, .int .i64 x.2.1, .slice pd x.2.2.length qd] 49)) pd qd x.2.2) := rd.keep BW
  have hqs1 : signs.length ≤ qs := rs.1
  have hqs2 : qs ≤ 2 ^ 63 - 1 := rs.2.1
  have hqc1 : list.length ≤ qc := rc.1
  have hqc2 : qc ≤ 2 ^ 63 - 1 := rc.2.1
  have HS := sgC_all.1 hs
  have KA : Hid (Calls Try.prog 50 #[.slice pc list.length qc, .int .i64 x.1] _ _) := l12At_c list pc qc x.1 _ HRC.out
  have HO : Hid (swO list lk signs x.1 x.2.1 x.2.2 = _) := swO.eq_1 list lk signs x.1 x.2.1 x.2.2
  clear rc rl rs rd hs
  cases h1 : hasC list x.1
  · have HU : Hid (swO list lk signs x.1 x.2.1 x.2.2 = 4) := by show _ = _; rw [HO.out, h1]; rfl
    rw [ixC_none h1] at KA
    clear HO
    go_enter Try.func58, Try.ntmps58
    go_wp2_with fail
    refine KA.out.mono ?_
    rintro e w2 ⟨rfl, hw⟩
    subst hw
    go_wp2
    exact bodyPost_ret (v := .tuple #[.slice none 0 0, .int .i64 4]) (by simp [results, Try.results58, go_sem]) rfl ⟨_, [], [], by rw [HU.out], by rw [swL_bad HU.out (by decide)]; exact nil_ownS _ _, BW⟩
  · obtain ⟨k, hk, hat, -⟩ := ixC_some h1
    have hkl : k < list.length := (List.getElem?_eq_some_iff.1 hat).1
    have hkI : (k : Int) < (list.length : Int) := by omega
    rw [hk] at KA
    obtain ⟨b, o, e1, hc⟩ := HRC.out.2.2.2 (by omega)
    subst e1
    obtain ⟨us, hrep, hcell⟩ := hc k _ hat
    obtain rfl := cert_rep hrep
    have c1 := hcell 1 _ rfl
    rw [show certC.n = 3 from rfl] at c1
    clear hc hcell hrep hat hk
    cases h2 : inB x.2.1 0 9
    · have HU : Hid (swO list lk signs x.1 x.2.1 x.2.2 = 3) := by show _ = _; rw [HO.out, h1, h2]; rfl
      clear HO
      go_enter Try.func58, Try.ntmps58
      go_wp2_with fail
      refine KA.out.mono ?_
      rintro e w2 ⟨rfl, hw⟩
      subst hw
      go_wp2_with fail
      refine (l1In_c _ _ _ _).mono ?_
      rintro e w2 ⟨rfl, hw⟩
      subst hw
      rw [h2]
      go_wp2
      exact bodyPost_ret (v := .tuple #[.slice none 0 0, .int .i64 3]) (by simp [results, Try.results58, go_sem]) rfl ⟨_, [], [], by rw [HU.out], by rw [swL_bad HU.out (by decide)]; exact nil_ownS _ _, BW⟩
    · cases h3 : is32 x.2.2
      · have HU : Hid (swO list lk signs x.1 x.2.1 x.2.2 = 1) := by show _ = _; rw [HO.out, h1, h2, h3]; rfl
        clear HO
        go_enter Try.func58, Try.ntmps58
        go_wp2_with fail
        refine KA.out.mono ?_
        rintro e w2 ⟨rfl, hw⟩
        subst hw
        go_wp2_with fail
        refine (l1In_c _ _ _ _).mono ?_
        rintro e w2 ⟨rfl, hw⟩
        subst hw
        rw [h2]
        go_wp2_with fail
        refine (l7Secret_c pd qd x.2.2 _).mono ?_
        rintro e w2 ⟨rfl, hw⟩
        subst hw
        rw [h3]
        go_wp2
        exact bodyPost_ret (v := .tuple #[.slice none 0 0, .int .i64 1]) (by simp [results, Try.results58, go_sem]) rfl ⟨_, [], [], by rw [HU.out], by rw [swL_bad HU.out (by decide)]; exact nil_ownS _ _, BW⟩
      · have b0 := (A.cell 0).trans (show _ = some _ from rfl)
        have b1 := (A.cell 1).trans (show _ = some _ from rfl)
        have KL : Hid (∀ W : World, Below (w.alloc (.cells #[.int .i64 x.1, .int .i64 x.2.1, .slice pd x.2.2.length qd] 49)).heap.size (w.alloc (.cells #[.int .i64 x.1, .int .i64 x.2.1, .slice pd x.2.2.length qd] 49)) W → Calls Try.prog 78 #[.slice pl lk.length ql, .int .i64 x.1] W fun e w' => e = .returned (.bool (lkB lk x.1)) ∧ Below W.heap.size W w') := fun W hW => by
          refine Calls.mono (l12Leaked_c lk pl ql x.1 W (HRL.out.keep hW)) ?_
          rintro e w' ⟨rfl, rfl⟩
          exact ⟨rfl, Below.refl _ _⟩
        have HT : Hid (∀ W : World, Below w.heap.size w W → Below (w.alloc (.cells #[.int .i64 x.1, .int .i64 x.2.1, .slice pd x.2.2.length qd] 49)).heap.size (w.alloc (.cells #[.int .i64 x.1, .int .i64 x.2.1, .slice pd x.2.2.length qd] 49)) W → True) := fun _ _ _ => trivial
        clear HT
        go_enter Try.func58, Try.ntmps58
        go_wp2_with fail
        refine KA.out.mono ?_
        rintro e w2 ⟨rfl, hw⟩
        subst hw
        go_wp2_with fail
        refine (l1In_c _ _ _ _).mono ?_
        rintro e w2 ⟨rfl, hw⟩
        subst hw
        rw [h2]
        go_wp2_with fail
        refine (l7Secret_c pd qd x.2.2 _).mono ?_
        rintro e w2 ⟨rfl, hw⟩
        subst hw
        rw [h3]
        go_wp2_with fail
        generalize hV : w.alloc (.cells #[.int .i64 x.1, .int .i64 x.2.1, .slice pd x.2.2.length qd] 49) = V8 at *
        by_cases h4 : (foC list x.1).2.1 = x.2.1
        · have d4 : ((foC list x.1).2.1 != x.2.1) = false := by rw [bne_eq_false_iff_eq]; exact h4
          have HQ : Hid ((decide ((foC list x.1).2.1 = x.2.1) || lkB lk x.1) = true) := by show _ = _; simp [h4]
          obtain ⟨ow, how⟩ : ∃ ow, Hid ((foC list x.1).2.1 = ow) := ⟨_, rfl⟩
          rw [how.out] at d4 c1
          clear h4
          apply share
          case h =>
            intro JN
            have BB := Below.refl V8.heap.size V8
            have hne := HW.some V8
            have g0 := HW.at (c1)
            have g1 := HW.at (b0)
            have g2 := HW.at (b1)
            refine wp_region_pick [0, 1, 2, 3, 4, 5, 6, 7, 8, 9, 10, 11] 14 2 1 rfl rfl rfl (by kernel_rfl) (by kernel_rfl) (by kernel_rfl) (by kernel_rfl) ?_
            simp only [opsAt, List.getElem?_toArray, List.getElem?_cons_zero, List.getElem?_cons_succ]
            repeat (go_big_quiet_step (fail))
            refine wpQuiet_nil ?_
            clear g0 g1 g2
            refine wpM_only (i := 12) (by kernel_rfl) ?_
            refine mOp_skip rfl (by go_simp) ?_
            refine wpM_more [13] 1 0 rfl (by kernel_rfl) (by kernel_rfl) (by kernel_rfl) (by kernel_rfl) ?_
            simp only [opsAt, List.getElem?_toArray, List.getElem?_cons_zero, List.getElem?_cons_succ]
            go_simp
            repeat (go_big_quiet_step (fail))
            refine wpQuiet_nil ?_
            refine wpM_end (by kernel_rfl) rfl (by kernel_rfl) (by decide) ?_
            rintro _ ⟨sz, rfl⟩
            simp only [List.drop_succ_cons, List.drop_zero]
            go_simp
            replace BB := Below.step BB sz.h
            clear hne
            generalize sz.w = W8 at *
            clear sz
            revert BB
            revert W8
            exact JN.out
          case hj =>
          intro W8 BB
          by_cases h5 : signs.length < 40
          · have h5I : ¬ (40 ≤ (signs.length : Int)) := by omega
            have HU : Hid (swO list lk signs x.1 x.2.1 x.2.2 = 0) := by show _ = _; rw [HO.out, h1, h2, h3, if_pos rfl, if_pos rfl, if_pos rfl, if_pos HQ.out, if_pos h5]
            have HX : Hid (x.2.2.length = 32) := by show _ = _; simpa [is32] using h3
            have A8 := A.stay BB
            have B8 := Below.step BW BB
            have hal := alloc_below W8 (.cells #[.int .i64 x.1, .int .i64 x.2.1, .slice pd x.2.2.length qd] 49)
            have N := Arr.new W8 [.int .i64 x.1, .int .i64 x.2.1, .slice pd x.2.2.length qd] 49
            have A9 := A8.stay hal
            have a0 := (A8.cell 0).trans (show _ = some _ from rfl)
            have a1 := (A8.cell 1).trans (show _ = some _ from rfl)
            have a2 := (A8.cell 2).trans (show _ = some _ from rfl)
            have a92 := (A9.cell 2).trans (show _ = some _ from rfl)
            have B9 := Below.step B8 hal
            have KD : Hid (Calls Try.prog 62 #[.slice pd x.2.2.length qd] _ _) := l1Copy_c pd qd x.2.2 _ ((HRD.out.keep BB).keep hal) (by rw [HX.out]; decide)
            go_wp2_with fail
            refine KD.out.mono ?_
            rintro e w3 ⟨u3, rfl, k3, hb3⟩
            obtain ⟨pv, qv, rfl, -⟩ := k3.rd
            rw [size_alloc] at k3
            have N3 := N.stay hb3
            have BW3 := Below.step B9 hb3
            have m0 := (N3.cell 0).trans (show _ = some _ from rfl)
            have m1 := (N3.cell 1).trans (show _ = some _ from rfl)
            have m2 := (N3.cell 2).trans (show _ = some _ from rfl)
            have nf := N3.frozen
            have N4 := N3.set 2 (.slice pv x.2.2.length qv)
            have k4 := k3.set (a := ⟨W8.heap.size, 2, none⟩) (by show W8.heap.size < W8.heap.size + 1; omega) (.slice pv x.2.2.length qv)
            have BW4 := BW3.setCell (p := ⟨W8.heap.size, 2, none⟩) B8.size (.slice pv x.2.2.length qv)
            have BV4 := (Below.step (Below.step BB hal) hb3).setCell (p := ⟨W8.heap.size, 2, none⟩) BB.size (.slice pv x.2.2.length qv)
            have HR4 := HRS.out.keep BV4
            go_wp2_with fail
            generalize hV4 : w3.setCell ⟨W8.heap.size, 2, none⟩ (.slice pv x.2.2.length qv) = V at *
            have n0 := (N4.cell 0).trans (show _ = some _ from rfl)
            have n1 := (N4.cell 1).trans (show _ = some _ from rfl)
            have n2 := (N4.cell 2).trans (show _ = some _ from rfl)
            have KC : Hid (∀ W : World, Below V.heap.size V W → Calls Try.prog 79 #[.slice ps signs.length qs] W fun e w' => ∃ v xs fp, e = .returned v ∧ OwnL 49 signC w' V.heap.size v signs xs fp ∧ Below W.heap.size W w') := fun W hW => by
              refine Calls.mono (l12CopySigns_c signs ps qs W (HR4.keep hW) (by omega) (fun a ha => (sgO_parts (HS.2 a ha)).2.2.2.2)) ?_
              rintro e w' ⟨v, xs, fp, rfl, ho, hb⟩
              exact ⟨v, xs, fp, rfl, ho.low hW.size, hb⟩
            have hvs : Hid (W8.heap.size + 1 ≤ V.heap.size) := N4.lt
            have hws : Hid (w.heap.size ≤ W8.heap.size) := B8.size
            clear hV4 BV4 BW3 N3 N hb3 k3 m0 m1 m2 nf KD HR4 A9 a0 a1 a2 a92 hal N4 BB A8 B8 B9
            apply share
            case h =>
              intro JN
              have BB := Below.refl V.heap.size V
              have hne := HW.some V
              have g0 := HW.at (n0)
              have g1 := HW.at (n1)
              have g2 := HW.at (n2)
              refine wp_region_pick [0, 2] 4 2 3 rfl rfl rfl (by kernel_rfl) (by kernel_rfl) (by kernel_rfl) (by kernel_rfl) ?_
              simp only [opsAt, List.getElem?_toArray, List.getElem?_cons_zero, List.getElem?_cons_succ]
              repeat (go_big_quiet_step (fail))
              refine wpQuiet_nil ?_
              clear g0 g1 g2
              refine wpM_two (i := 1) (j := 3) (by kernel_rfl) ?_ ?_
              · skip
                refine mOp_call rfl (by go_simp) 79 _ #[.slice ps signs.length qs] (fun w => by go_simp) rfl ?_
                rintro _ ⟨sg, rfl⟩
                refine (KC.out _ (Below.step BB sg.h)).mono ?_
                rintro e wg1 ⟨v, xs, fp, rfl, kv, hbx⟩
                obtain ⟨po, qo, rfl, -⟩ := kv.rd
                have hbg := Below.step sg.h hbx
                refine ⟨_, rfl, ⟨⟨wg1, hbx⟩, rfl⟩, ?_⟩
                have OL := kv
                replace BB := Below.step BB hbg
                clear hbg hbx sg kv
                replace hne := HW.some wg1
                refine wpM_only (i := 3) (by kernel_rfl) ?_
                refine mOp_make rfl (by go_simp) ?_
                rintro _ ⟨sg, rfl⟩
                refine ⟨.slice (some ⟨sg.w.heap.size, 0, none⟩) 1 1, sg.w.alloc (.cells #[.int .i64 x.1, .int .i64 x.2.1, .slice pv x.2.2.length qv] 49), by go_simp, ⟨⟨_, alloc_below _ _⟩, rfl⟩, ?_⟩
                have hbg := Below.step sg.h (alloc_below sg.w (.cells #[.int .i64 x.1, .int .i64 x.2.1, .slice pv x.2.2.length qv] 49))
                have AA := Arr.new sg.w [.int .i64 x.1, .int .i64 x.2.1, .slice pv x.2.2.length qv] 49
                replace OL := OL.stay hbg
                replace BB := Below.step BB hbg
                clear hbg
                replace hne := HW.some (sg.w.alloc (.cells #[.int .i64 x.1, .int .i64 x.2.1, .slice pv x.2.2.length qv] 49))
                generalize hW : (sg.w.alloc (.cells #[.int .i64 x.1, .int .i64 x.2.1, .slice pv x.2.2.length qv] 49)) = wg2 at *
                clear hW
                generalize sg.w.heap.size = gg at *
                clear sg
                refine wpM_end (by kernel_rfl) rfl (by kernel_rfl) (by decide) ?_
                rintro _ ⟨sz, rfl⟩
                simp only [List.drop_succ_cons, List.drop_zero]
                go_simp
                replace OL := OL.stay sz.h
                replace AA := AA.stay sz.h
                replace BB := Below.step BB sz.h
                clear hne
                generalize sz.w = W at *
                clear sz
                revert AA
                revert OL
                revert BB
                revert gg
                revert fp
                revert xs
                revert qo
                revert po
                revert W
                exact JN.out
              · skip
                refine mOp_make rfl (by go_simp) ?_
                rintro _ ⟨sg, rfl⟩
                refine ⟨.slice (some ⟨sg.w.heap.size, 0, none⟩) 1 1, sg.w.alloc (.cells #[.int .i64 x.1, .int .i64 x.2.1, .slice pv x.2.2.length qv] 49), by go_simp, ⟨⟨_, alloc_below _ _⟩, rfl⟩, ?_⟩
                have hbg := Below.step sg.h (alloc_below sg.w (.cells #[.int .i64 x.1, .int .i64 x.2.1, .slice pv x.2.2.length qv] 49))
                have AA := Arr.new sg.w [.int .i64 x.1, .int .i64 x.2.1, .slice pv x.2.2.length qv] 49
                replace BB := Below.step BB hbg
                clear hbg
                replace hne := HW.some (sg.w.alloc (.cells #[.int .i64 x.1, .int .i64 x.2.1, .slice pv x.2.2.length qv] 49))
                generalize hW : (sg.w.alloc (.cells #[.int .i64 x.1, .int .i64 x.2.1, .slice pv x.2.2.length qv] 49)) = wg3 at *
                clear hW
                generalize sg.w.heap.size = gg at *
                clear sg
                refine wpM_only (i := 1) (by kernel_rfl) ?_
                refine mOp_call rfl (by go_simp) 79 _ #[.slice ps signs.length qs] (fun w => by go_simp) rfl ?_
                rintro _ ⟨sg, rfl⟩
                refine (KC.out _ (Below.step BB sg.h)).mono ?_
                rintro e wg4 ⟨v, xs, fp, rfl, kv, hbx⟩
                obtain ⟨po, qo, rfl, -⟩ := kv.rd
                have hbg := Below.step sg.h hbx
                refine ⟨_, rfl, ⟨⟨wg4, hbx⟩, rfl⟩, ?_⟩
                have OL := kv
                replace AA := AA.stay hbg
                replace BB := Below.step BB hbg
                clear hbg hbx sg kv
                replace hne := HW.some wg4
                refine wpM_end (by kernel_rfl) rfl (by kernel_rfl) (by decide) ?_
                rintro _ ⟨sz, rfl⟩
                simp only [List.drop_succ_cons, List.drop_zero]
                go_simp
                replace AA := AA.stay sz.h
                replace OL := OL.stay sz.h
                replace BB := Below.step BB sz.h
                clear hne
                generalize sz.w = W at *
                clear sz
                revert AA
                revert OL
                revert BB
                revert gg
                revert fp
                revert xs
                revert qo
                revert po
                revert W
                exact JN.out
            case hj =>
            intro W po qo xs fp gg BB OL AA
            have k5 := k4.stay BB
            have BW5 := Below.step BW4 BB
            have hrow5 : Hid (W.ownsRow V.heap.size 49 3 (.slice po signs.length qo) signs.length xs) := OL.row
            have hnew : ∀ j u, [Value.int .i64 x.1, .int .i64 x.2.1, .slice pv x.2.2.length qv][j]? = some u → W.cell? ((⟨gg, 0, none⟩ : Addr).add j) = some u := fun j u hj => AA.cells j u hj
            obtain ⟨i0, hi, hz0, hz1, hz2⟩ := info_parts infoSign
            obtain ⟨po', qo', e9, hord⟩ := OL.rd
            cases e9
            have hqo2 : qo ≤ 2 ^ 63 - 1 := hord.2.1
            clear KC n0 n1 n2 hord
            go_wp2_with (at_builtin; refine wpList_append_lies _ rfl (.tmp 50) (.tmp 52) 41 rfl V.heap.size 49 i0 (.agg #[.int .i64 0, .int .i64 0, .slice none 0 0]) 3 40 Try.underlying41 hi hz0 hz1 hz2 rfl (by decide) (.slice po signs.length qo) signs.length xs rfl hrow5.out ⟨gg, 0, none⟩ 1 1 [.int .i64 x.1, .int .i64 x.2.1, .slice pv x.2.2.length qv] rfl rfl hnew (by intro u hu; simp at hu; rcases hu with rfl | rfl | rfl <;> rfl) (by decide) (by unfold maxLen; omega) (by omega) BB.size _ rfl ?_; intro g6 c6 w6 hown6 hgrow6 hat6 hlt6)
            have ka := sign_own_mk (a := x) (k5.lower (B' := W8.heap.size + 1) (Nat.le_refl _))
            have hlt3 : Hid (∀ j, (Value.slice pv x.2.2.length qv).ownBlock = some j → j < V.heap.size) := fun j hj => k4.lt j hj
            have OP := (OL.low (B' := W8.heap.size + 1) hvs.out).push ka (fun j hj hj2 => by
              have h1 := hlt3.out j (mem_opt.1 hj)
              have h2 := (OL.ins j hj2).1
              omega) (k := signs.length + 1) (v' := .slice (some ⟨g6, 0, none⟩) (signs.length + 1) c6) (g := g6) (ownsRow_low hown6 hvs.out) (by simp) hgrow6 rfl hat6
            have BW6 := BW5.grown hgrow6 BW5.size (fun k hk => by have h := (OL.ins k (List.mem_append_left _ (mem_opt.2 hk))).1; have := BW4.size; omega)
            have OQ := OP.low (B' := w.heap.size) (by have := hws.out; omega)
            rw [← swL_ok HU.out] at OQ
            clear k4 k5 hown6 hgrow6 hat6 hnew hrow5 ka BW5 OP OL AA
            go_wp2_with fail
            exact bodyPost_ret (v := .tuple #[.slice (some ⟨g6, 0, none⟩) (signs.length + 1) c6, .int .i64 0]) (by simp [results, Try.results58, go_sem]) rfl ⟨_, _, _, by rw [HU.out], OQ, BW6⟩
          · have h5I : 40 ≤ (signs.length : Int) := by omega
            have HU : Hid (swO list lk signs x.1 x.2.1 x.2.2 = 2) := by show _ = _; rw [HO.out, h1, h2, h3, if_pos rfl, if_pos rfl, if_pos rfl, if_pos HQ.out, if_neg h5]
            have B8 := Below.step BW BB
            go_wp2
            exact bodyPost_ret (v := .tuple #[.slice none 0 0, .int .i64 2]) (by simp [results, Try.results58, go_sem]) rfl ⟨_, [], [], by rw [HU.out], by rw [swL_bad HU.out (by decide)]; exact nil_ownS _ _, B8⟩
        · have d4 : ((foC list x.1).2.1 != x.2.1) = true := by rw [bne_iff_ne]; exact h4
          obtain ⟨ow, how⟩ : ∃ ow, Hid ((foC list x.1).2.1 = ow) := ⟨_, rfl⟩
          rw [how.out] at d4 c1
          cases h6 : lkB lk x.1
          · have HU : Hid (swO list lk signs x.1 x.2.1 x.2.2 = 7) := by show _ = _; rw [HO.out, h1, h2, h3, if_pos rfl, if_pos rfl, if_pos rfl, if_neg (by simp [h4, h6])]
            rw [h6] at KL
            clear h4
            apply share
            case h =>
              intro JN
              have BB := Below.refl V8.heap.size V8
              have hne := HW.some V8
              have g0 := HW.at (c1)
              have g1 := HW.at (b0)
              have g2 := HW.at (b1)
              refine wp_region_pick [0, 1, 2, 3, 4, 5, 6, 7, 8, 9, 10, 11] 14 2 1 rfl rfl rfl (by kernel_rfl) (by kernel_rfl) (by kernel_rfl) (by kernel_rfl) ?_
              simp only [opsAt, List.getElem?_toArray, List.getElem?_cons_zero, List.getElem?_cons_succ]
              repeat (go_big_quiet_step (fail))
              refine wpQuiet_nil ?_
              clear g0 g1 g2
              refine wpM_only (i := 12) (by kernel_rfl) ?_
              refine mOp_call rfl (by go_simp) 78 _ #[.slice pl lk.length ql, .int .i64 x.1] (fun w => by go_simp) rfl ?_
              rintro _ ⟨sg, rfl⟩
              refine (KL.out _ (Below.step BB sg.h)).mono ?_
              rintro e wg1 ⟨rfl, hbx⟩
              have hbg := Below.step sg.h hbx
              refine ⟨_, rfl, ⟨⟨wg1, hbx⟩, rfl⟩, ?_⟩
              replace BB := Below.step BB hbg
              clear hbg hbx sg
              replace hne := HW.some wg1
              refine wpM_more [13] 1 0 rfl (by kernel_rfl) (by kernel_rfl) (by kernel_rfl) (by kernel_rfl) ?_
              simp only [opsAt, List.getElem?_toArray, List.getElem?_cons_zero, List.getElem?_cons_succ]
              go_simp
              repeat (go_big_quiet_step (fail))
              refine wpQuiet_nil ?_
              refine wpM_end (by kernel_rfl) rfl (by kernel_rfl) (by decide) ?_
              rintro _ ⟨sz, rfl⟩
              simp only [List.drop_succ_cons, List.drop_zero]
              go_simp
              replace BB := Below.step BB sz.h
              clear hne
              generalize sz.w = W8 at *
              clear sz
              revert BB
              revert W8
              exact JN.out
            case hj =>
            intro W8 BB
            have B8 := Below.step BW BB
            go_wp2
            exact bodyPost_ret (v := .tuple #[.slice none 0 0, .int .i64 7]) (by simp [results, Try.results58, go_sem]) rfl ⟨_, [], [], by rw [HU.out], by rw [swL_bad HU.out (by decide)]; exact nil_ownS _ _, B8⟩
          · have HQ : Hid ((decide ((foC list x.1).2.1 = x.2.1) || lkB lk x.1) = true) := by show _ = _; simp [h6]
            rw [h6] at KL
            clear h4
            apply share
            case h =>
              intro JN
              have BB := Below.refl V8.heap.size V8
              have hne := HW.some V8
              have g0 := HW.at (c1)
              have g1 := HW.at (b0)
              have g2 := HW.at (b1)
              refine wp_region_pick [0, 1, 2, 3, 4, 5, 6, 7, 8, 9, 10, 11] 14 2 1 rfl rfl rfl (by kernel_rfl) (by kernel_rfl) (by kernel_rfl) (by kernel_rfl) ?_
              simp only [opsAt, List.getElem?_toArray, List.getElem?_cons_zero, List.getElem?_cons_succ]
              repeat (go_big_quiet_step (fail))
              refine wpQuiet_nil ?_
              clear g0 g1 g2
              refine wpM_only (i := 12) (by kernel_rfl) ?_
              refine mOp_call rfl (by go_simp) 78 _ #[.slice pl lk.length ql, .int .i64 x.1] (fun w => by go_simp) rfl ?_
              rintro _ ⟨sg, rfl⟩
              refine (KL.out _ (Below.step BB sg.h)).mono ?_
              rintro e wg1 ⟨rfl, hbx⟩
              have hbg := Below.step sg.h hbx
              refine ⟨_, rfl, ⟨⟨wg1, hbx⟩, rfl⟩, ?_⟩
              replace BB := Below.step BB hbg
              clear hbg hbx sg
              replace hne := HW.some wg1
              refine wpM_more [13] 1 0 rfl (by kernel_rfl) (by kernel_rfl) (by kernel_rfl) (by kernel_rfl) ?_
              simp only [opsAt, List.getElem?_toArray, List.getElem?_cons_zero, List.getElem?_cons_succ]
              go_simp
              repeat (go_big_quiet_step (fail))
              refine wpQuiet_nil ?_
              refine wpM_end (by kernel_rfl) rfl (by kernel_rfl) (by decide) ?_
              rintro _ ⟨sz, rfl⟩
              simp only [List.drop_succ_cons, List.drop_zero]
              go_simp
              replace BB := Below.step BB sz.h
              clear hne
              generalize sz.w = W8 at *
              clear sz
              revert BB
              revert W8
              exact JN.out
            case hj =>
            intro W8 BB
            by_cases h5 : signs.length < 40
            · have h5I : ¬ (40 ≤ (signs.length : Int)) := by omega
              have HU : Hid (swO list lk signs x.1 x.2.1 x.2.2 = 0) := by show _ = _; rw [HO.out, h1, h2, h3, if_pos rfl, if_pos rfl, if_pos rfl, if_pos HQ.out, if_pos h5]
              have HX : Hid (x.2.2.length = 32) := by show _ = _; simpa [is32] using h3
              have A8 := A.stay BB
              have B8 := Below.step BW BB
              have hal := alloc_below W8 (.cells #[.int .i64 x.1, .int .i64 x.2.1, .slice pd x.2.2.length qd] 49)
              have N := Arr.new W8 [.int .i64 x.1, .int .i64 x.2.1, .slice pd x.2.2.length qd] 49
              have A9 := A8.stay hal
              have a0 := (A8.cell 0).trans (show _ = some _ from rfl)
              have a1 := (A8.cell 1).trans (show _ = some _ from rfl)
              have a2 := (A8.cell 2).trans (show _ = some _ from rfl)
              have a92 := (A9.cell 2).trans (show _ = some _ from rfl)
              have B9 := Below.step B8 hal
              have KD : Hid (Calls Try.prog 62 #[.slice pd x.2.2.length qd] _ _) := l1Copy_c pd qd x.2.2 _ ((HRD.out.keep BB).keep hal) (by rw [HX.out]; decide)
              go_wp2_with fail
              refine KD.out.mono ?_
              rintro e w3 ⟨u3, rfl, k3, hb3⟩
              obtain ⟨pv, qv, rfl, -⟩ := k3.rd
              rw [size_alloc] at k3
              have N3 := N.stay hb3
              have BW3 := Below.step B9 hb3
              have m0 := (N3.cell 0).trans (show _ = some _ from rfl)
              have m1 := (N3.cell 1).trans (show _ = some _ from rfl)
              have m2 := (N3.cell 2).trans (show _ = some _ from rfl)
              have nf := N3.frozen
              have N4 := N3.set 2 (.slice pv x.2.2.length qv)
              have k4 := k3.set (a := ⟨W8.heap.size, 2, none⟩) (by show W8.heap.size < W8.heap.size + 1; omega) (.slice pv x.2.2.length qv)
              have BW4 := BW3.setCell (p := ⟨W8.heap.size, 2, none⟩) B8.size (.slice pv x.2.2.length qv)
              have BV4 := (Below.step (Below.step BB hal) hb3).setCell (p := ⟨W8.heap.size, 2, none⟩) BB.size (.slice pv x.2.2.length qv)
              have HR4 := HRS.out.keep BV4
              go_wp2_with fail
              generalize hV4 : w3.setCell ⟨W8.heap.size, 2, none⟩ (.slice pv x.2.2.length qv) = V at *
              have n0 := (N4.cell 0).trans (show _ = some _ from rfl)
              have n1 := (N4.cell 1).trans (show _ = some _ from rfl)
              have n2 := (N4.cell 2).trans (show _ = some _ from rfl)
              have KC : Hid (∀ W : World, Below V.heap.size V W → Calls Try.prog 79 #[.slice ps signs.length qs] W fun e w' => ∃ v xs fp, e = .returned v ∧ OwnL 49 signC w' V.heap.size v signs xs fp ∧ Below W.heap.size W w') := fun W hW => by
                refine Calls.mono (l12CopySigns_c signs ps qs W (HR4.keep hW) (by omega) (fun a ha => (sgO_parts (HS.2 a ha)).2.2.2.2)) ?_
                rintro e w' ⟨v, xs, fp, rfl, ho, hb⟩
                exact ⟨v, xs, fp, rfl, ho.low hW.size, hb⟩
              have hvs : Hid (W8.heap.size + 1 ≤ V.heap.size) := N4.lt
              have hws : Hid (w.heap.size ≤ W8.heap.size) := B8.size
              clear hV4 BV4 BW3 N3 N hb3 k3 m0 m1 m2 nf KD HR4 A9 a0 a1 a2 a92 hal N4 BB A8 B8 B9
              apply share
              case h =>
                intro JN
                have BB := Below.refl V.heap.size V
                have hne := HW.some V
                have g0 := HW.at (n0)
                have g1 := HW.at (n1)
                have g2 := HW.at (n2)
                refine wp_region_pick [0, 2] 4 2 3 rfl rfl rfl (by kernel_rfl) (by kernel_rfl) (by kernel_rfl) (by kernel_rfl) ?_
                simp only [opsAt, List.getElem?_toArray, List.getElem?_cons_zero, List.getElem?_cons_succ]
                repeat (go_big_quiet_step (fail))
                refine wpQuiet_nil ?_
                clear g0 g1 g2
                refine wpM_two (i := 1) (j := 3) (by kernel_rfl) ?_ ?_
                · skip
                  refine mOp_call rfl (by go_simp) 79 _ #[.slice ps signs.length qs] (fun w => by go_simp) rfl ?_
                  rintro _ ⟨sg, rfl⟩
                  refine (KC.out _ (Below.step BB sg.h)).mono ?_
                  rintro e wg1 ⟨v, xs, fp, rfl, kv, hbx⟩
                  obtain ⟨po, qo, rfl, -⟩ := kv.rd
                  have hbg := Below.step sg.h hbx
                  refine ⟨_, rfl, ⟨⟨wg1, hbx⟩, rfl⟩, ?_⟩
                  have OL := kv
                  replace BB := Below.step BB hbg
                  clear hbg hbx sg kv
                  replace hne := HW.some wg1
                  refine wpM_only (i := 3) (by kernel_rfl) ?_
                  refine mOp_make rfl (by go_simp) ?_
                  rintro _ ⟨sg, rfl⟩
                  refine ⟨.slice (some ⟨sg.w.heap.size, 0, none⟩) 1 1, sg.w.alloc (.cells #[.int .i64 x.1, .int .i64 x.2.1, .slice pv x.2.2.length qv] 49), by go_simp, ⟨⟨_, alloc_below _ _⟩, rfl⟩, ?_⟩
                  have hbg := Below.step sg.h (alloc_below sg.w (.cells #[.int .i64 x.1, .int .i64 x.2.1, .slice pv x.2.2.length qv] 49))
                  have AA := Arr.new sg.w [.int .i64 x.1, .int .i64 x.2.1, .slice pv x.2.2.length qv] 49
                  replace OL := OL.stay hbg
                  replace BB := Below.step BB hbg
                  clear hbg
                  replace hne := HW.some (sg.w.alloc (.cells #[.int .i64 x.1, .int .i64 x.2.1, .slice pv x.2.2.length qv] 49))
                  generalize hW : (sg.w.alloc (.cells #[.int .i64 x.1, .int .i64 x.2.1, .slice pv x.2.2.length qv] 49)) = wg2 at *
                  clear hW
                  generalize sg.w.heap.size = gg at *
                  clear sg
                  refine wpM_end (by kernel_rfl) rfl (by kernel_rfl) (by decide) ?_
                  rintro _ ⟨sz, rfl⟩
                  simp only [List.drop_succ_cons, List.drop_zero]
                  go_simp
                  replace OL := OL.stay sz.h
                  replace AA := AA.stay sz.h
                  replace BB := Below.step BB sz.h
                  clear hne
                  generalize sz.w = W at *
                  clear sz
                  revert AA
                  revert OL
                  revert BB
                  revert gg
                  revert fp
                  revert xs
                  revert qo
                  revert po
                  revert W
                  exact JN.out
                · skip
                  refine mOp_make rfl (by go_simp) ?_
                  rintro _ ⟨sg, rfl⟩
                  refine ⟨.slice (some ⟨sg.w.heap.size, 0, none⟩) 1 1, sg.w.alloc (.cells #[.int .i64 x.1, .int .i64 x.2.1, .slice pv x.2.2.length qv] 49), by go_simp, ⟨⟨_, alloc_below _ _⟩, rfl⟩, ?_⟩
                  have hbg := Below.step sg.h (alloc_below sg.w (.cells #[.int .i64 x.1, .int .i64 x.2.1, .slice pv x.2.2.length qv] 49))
                  have AA := Arr.new sg.w [.int .i64 x.1, .int .i64 x.2.1, .slice pv x.2.2.length qv] 49
                  replace BB := Below.step BB hbg
                  clear hbg
                  replace hne := HW.some (sg.w.alloc (.cells #[.int .i64 x.1, .int .i64 x.2.1, .slice pv x.2.2.length qv] 49))
                  generalize hW : (sg.w.alloc (.cells #[.int .i64 x.1, .int .i64 x.2.1, .slice pv x.2.2.length qv] 49)) = wg3 at *
                  clear hW
                  generalize sg.w.heap.size = gg at *
                  clear sg
                  refine wpM_only (i := 1) (by kernel_rfl) ?_
                  refine mOp_call rfl (by go_simp) 79 _ #[.slice ps signs.length qs] (fun w => by go_simp) rfl ?_
                  rintro _ ⟨sg, rfl⟩
                  refine (KC.out _ (Below.step BB sg.h)).mono ?_
                  rintro e wg4 ⟨v, xs, fp, rfl, kv, hbx⟩
                  obtain ⟨po, qo, rfl, -⟩ := kv.rd
                  have hbg := Below.step sg.h hbx
                  refine ⟨_, rfl, ⟨⟨wg4, hbx⟩, rfl⟩, ?_⟩
                  have OL := kv
                  replace AA := AA.stay hbg
                  replace BB := Below.step BB hbg
                  clear hbg hbx sg kv
                  replace hne := HW.some wg4
                  refine wpM_end (by kernel_rfl) rfl (by kernel_rfl) (by decide) ?_
                  rintro _ ⟨sz, rfl⟩
                  simp only [List.drop_succ_cons, List.drop_zero]
                  go_simp
                  replace AA := AA.stay sz.h
                  replace OL := OL.stay sz.h
                  replace BB := Below.step BB sz.h
                  clear hne
                  generalize sz.w = W at *
                  clear sz
                  revert AA
                  revert OL
                  revert BB
                  revert gg
                  revert fp
                  revert xs
                  revert qo
                  revert po
                  revert W
                  exact JN.out
              case hj =>
              intro W po qo xs fp gg BB OL AA
              have k5 := k4.stay BB
              have BW5 := Below.step BW4 BB
              have hrow5 : Hid (W.ownsRow V.heap.size 49 3 (.slice po signs.length qo) signs.length xs) := OL.row
              have hnew : ∀ j u, [Value.int .i64 x.1, .int .i64 x.2.1, .slice pv x.2.2.length qv][j]? = some u → W.cell? ((⟨gg, 0, none⟩ : Addr).add j) = some u := fun j u hj => AA.cells j u hj
              obtain ⟨i0, hi, hz0, hz1, hz2⟩ := info_parts infoSign
              obtain ⟨po', qo', e9, hord⟩ := OL.rd
              cases e9
              have hqo2 : qo ≤ 2 ^ 63 - 1 := hord.2.1
              clear KC n0 n1 n2 hord
              go_wp2_with (at_builtin; refine wpList_append_lies _ rfl (.tmp 50) (.tmp 52) 41 rfl V.heap.size 49 i0 (.agg #[.int .i64 0, .int .i64 0, .slice none 0 0]) 3 40 Try.underlying41 hi hz0 hz1 hz2 rfl (by decide) (.slice po signs.length qo) signs.length xs rfl hrow5.out ⟨gg, 0, none⟩ 1 1 [.int .i64 x.1, .int .i64 x.2.1, .slice pv x.2.2.length qv] rfl rfl hnew (by intro u hu; simp at hu; rcases hu with rfl | rfl | rfl <;> rfl) (by decide) (by unfold maxLen; omega) (by omega) BB.size _ rfl ?_; intro g6 c6 w6 hown6 hgrow6 hat6 hlt6)
              have ka := sign_own_mk (a := x) (k5.lower (B' := W8.heap.size + 1) (Nat.le_refl _))
              have hlt3 : Hid (∀ j, (Value.slice pv x.2.2.length qv).ownBlock = some j → j < V.heap.size) := fun j hj => k4.lt j hj
              have OP := (OL.low (B' := W8.heap.size + 1) hvs.out).push ka (fun j hj hj2 => by
                have h1 := hlt3.out j (mem_opt.1 hj)
                have h2 := (OL.ins j hj2).1
                omega) (k := signs.length + 1) (v' := .slice (some ⟨g6, 0, none⟩) (signs.length + 1) c6) (g := g6) (ownsRow_low hown6 hvs.out) (by simp) hgrow6 rfl hat6
              have BW6 := BW5.grown hgrow6 BW5.size (fun k hk => by have h := (OL.ins k (List.mem_append_left _ (mem_opt.2 hk))).1; have := BW4.size; omega)
              have OQ := OP.low (B' := w.heap.size) (by have := hws.out; omega)
              rw [← swL_ok HU.out] at OQ
              clear k4 k5 hown6 hgrow6 hat6 hnew hrow5 ka BW5 OP OL AA
              go_wp2_with fail
              exact bodyPost_ret (v := .tuple #[.slice (some ⟨g6, 0, none⟩) (signs.length + 1) c6, .int .i64 0]) (by simp [results, Try.results58, go_sem]) rfl ⟨_, _, _, by rw [HU.out], OQ, BW6⟩
            · have h5I : 40 ≤ (signs.length : Int) := by omega
              have HU : Hid (swO list lk signs x.1 x.2.1 x.2.2 = 2) := by show _ = _; rw [HO.out, h1, h2, h3, if_pos rfl, if_pos rfl, if_pos rfl, if_pos HQ.out, if_neg h5]
              have B8 := Below.step BW BB
              go_wp2
              exact bodyPost_ret (v := .tuple #[.slice none 0 0, .int .i64 2]) (by simp [results, Try.results58, go_sem]) rfl ⟨_, [], [], by rw [HU.out], by rw [swL_bad HU.out (by decide)]; exact nil_ownS _ _, B8⟩
set_option maxRecDepth 4000 in
set_option maxHeartbeats 2000000 in
theorem specSw_c (list : List CertD) (lk : List Int) (signs : List SignD) (id by' : Int) (d : List UInt8) (pc pl ps pd : Option Addr) (qc ql qs qd : Nat) (w : World)
    (rc : RdL certC w pc qc list) (rl : RdI w pl ql lk) (rs : RdL signC w ps qs signs) (rd : Rd w pd qd d) :
    Calls Try.prog 23 #[.slice pc list.length qc, .slice pl lk.length ql, .slice ps signs.length qs, .int .i64 id, .int .i64 by', .slice pd d.length qd] w fun e w' => ∃ v xs fp, e = .returned (.agg #[.int .i64 (swD list lk signs id by' d).1, .int .i64 (swD list lk signs id by' d).2.1, v]) ∧ OwnL 49 signC w' w.heap.size v (swD list lk signs id by' d).2.2 xs fp ∧ Below w.heap.size w w' := by
  have BW := alloc_below w (.cells #[.int .i64 0, .int .i64 0, .slice none 0 0] 45)
  have R := Arr.new w [.int .i64 0, .int .i64 0, .slice none 0 0] 45
  have HRC := rc.keep BW
  have HRL := rl.keep BW
  have HRS := rs.keep BW
  have HRD := rd.keep BW
  have hqs1 : signs.length ≤ qs := rs.1
  have hqs2 : qs ≤ 2 ^ 63 - 1 := rs.2.1
  have KF : Hid (Calls Try.prog 49 #[.slice pc list.length qc] _ _) := l12Fault_c list pc qc _ HRC
  have KG : Hid (Calls Try.prog 57 #[.slice ps signs.length qs] _ _) := l12Signs_c signs ps qs _ HRS
  have HC : Hid (swC list lk signs id by' d = _) := swC.eq_1 list lk signs id by' d
  have r0 := R.cell 0
  have r1 := R.cell 1
  have r2 := R.cell 2
  have fr := R.frozen
  simp at r0 r1 r2
  have HB : Hid (∀ z, z ≠ 0 → swC list lk signs id by' d = z → swD list lk signs id by' d = (z, 0, [])) := fun z hz h => by unfold swD; rw [h, if_neg hz]
  clear rc rl rs rd
  by_cases hf : ctC list = 0
  · rw [hf] at KF
    by_cases hg : sgC signs = 0
    · rw [hg] at KG
      have KS := l12Sign_c list lk signs (id, by', d) pc pl ps pd qc ql qs qd _ HRC HRL HRS HRD hg
      have HSO : Hid (swC list lk signs id by' d = swO list lk signs id by' d) := by show _ = _; rw [HC.out, if_pos hf, if_pos hg]
      by_cases ho : swO list lk signs id by' d = 0
      · have HD : Hid (swD list lk signs id by' d = (0, (signs.length : Int), signs ++ [(id, by', d)])) := by show _ = _; unfold swD; rw [if_pos (by rw [HSO.out, ho])]
        have HL : Hid (swL list lk signs (id, by', d) = signs ++ [(id, by', d)]) := swL_ok ho
        rw [HL.out] at KS
        simp only [ho] at KS
        have KK : Hid (Calls Try.prog 58 #[.slice pc list.length qc, .slice pl lk.length ql, .slice ps signs.length qs, .agg #[.int .i64 id, .int .i64 by', .slice pd d.length qd]] _ _) := KS
        rw [HD.out]
        clear KS HC HSO HB ho hf hg HL
        go_enter Try.func23, Try.ntmps23
        go_wp2_with fail
        refine KF.out.mono ?_
        rintro e w2 ⟨rfl, hw⟩
        subst hw
        go_wp2_with fail
        refine KG.out.mono ?_
        rintro e w2 ⟨rfl, hw⟩
        subst hw
        go_wp2_with fail
        refine KK.out.mono ?_
        rintro e w3 ⟨v, xs, fp, rfl, ko, hb⟩
        rw [size_alloc] at ko
        have R3 := R.stay hb
        have B3 := Below.step BW hb
        have s0 := R3.cell 0
        have s1 := R3.cell 1
        have s2 := R3.cell 2
        have fs := R3.frozen
        simp at s0 s1 s2
        obtain ⟨po, qo, rfl, -⟩ := ko.rd
        obtain ⟨out, HO⟩ : ∃ out, Hid (out = signs ++ [(id, by', d)]) := ⟨_, rfl⟩
        have hins := ko.ins
        rw [← HO.out] at ko ⊢
        clear KF KG KK R R3 hb r0 r1 r2 fr BW HRC HRL HRS HRD
        go_wp2_with fail
        refine bodyPost_ret (v := .agg #[.int .i64 0, .int .i64 signs.length, .slice po out.length qo]) (by simp [results, Try.results23, go_sem, s0, s1, s2]) rfl ⟨_, xs, fp, rfl, ?_, ((B3.setCell (Nat.le_refl _) _).setCell (Nat.le_refl _) _).setCell (Nat.le_refl _) _⟩
        rw [← HO.out] at hins ⊢
        exact (ko.fr (fun j hj => by rw [heap_setCell_other _ _ j _ (by have := (hins j hj).1; show j ≠ w.heap.size; omega), heap_setCell_other _ _ j _ (by have := (hins j hj).1; show j ≠ w.heap.size; omega), heap_setCell_other _ _ j _ (by have := (hins j hj).1; show j ≠ w.heap.size; omega)])).low (by omega)
      · obtain ⟨z, hz⟩ : ∃ z, Hid (swO list lk signs id by' d = z) := ⟨_, rfl⟩
        have HD : Hid (swD list lk signs id by' d = (z, 0, [])) := HB.out z (by rw [← hz.out]; exact ho) (by rw [HSO.out, hz.out])
        have dz : (z != 0) = true := by rw [bne_iff_ne, ← hz.out]; exact ho
        have HL : Hid (swL list lk signs (id, by', d) = []) := swL_bad rfl ho
        rw [HL.out] at KS
        simp only [hz.out] at KS
        have KK : Hid (Calls Try.prog 58 #[.slice pc list.length qc, .slice pl lk.length ql, .slice ps signs.length qs, .agg #[.int .i64 id, .int .i64 by', .slice pd d.length qd]] _ _) := KS
        rw [HD.out]
        clear KS HC HSO HB ho hf hg HL hz
        go_enter Try.func23, Try.ntmps23
        go_wp2_with fail
        refine KF.out.mono ?_
        rintro e w2 ⟨rfl, hw⟩
        subst hw
        go_wp2_with fail
        refine KG.out.mono ?_
        rintro e w2 ⟨rfl, hw⟩
        subst hw
        go_wp2_with fail
        refine KK.out.mono ?_
        rintro e w3 ⟨v, xs, fp, rfl, ko, hb⟩
        have R3 := R.stay hb
        have B3 := Below.step BW hb
        have s0 := R3.cell 0
        have s1 := R3.cell 1
        have s2 := R3.cell 2
        have fs := R3.frozen
        simp at s0 s1 s2
        obtain ⟨po, qo, rfl, -⟩ := ko.rd
        clear KF KG KK R R3 hb r0 r1 r2 fr BW HRC HRL HRS HRD ko
        go_wp2_with fail
        exact bodyPost_ret (v := .agg #[.int .i64 z, .int .i64 0, .slice none 0 0]) (by simp [results, Try.results23, go_sem, s0, s1, s2]) rfl ⟨_, _, _, rfl, nil_ownS _ _, ((B3.setCell (Nat.le_refl _) _).setCell (Nat.le_refl _) _).setCell (Nat.le_refl _) _⟩
    · obtain ⟨z, hz⟩ : ∃ z, Hid (sgC signs = z) := ⟨_, rfl⟩
      have HD : Hid (swD list lk signs id by' d = (z, 0, [])) := HB.out z (by rw [← hz.out]; exact hg) (by rw [HC.out, if_pos hf, if_neg hg, hz.out])
      have dz : (z != 0) = true := by rw [bne_iff_ne, ← hz.out]; exact hg
      rw [hz.out] at KG
      rw [HD.out]
      clear HC HB hf hg hz
      go_enter Try.func23, Try.ntmps23
      go_wp2_with fail
      refine KF.out.mono ?_
      rintro e w2 ⟨rfl, hw⟩
      subst hw
      go_wp2_with fail
      refine KG.out.mono ?_
      rintro e w2 ⟨rfl, hw⟩
      subst hw
      go_wp2_with fail
      exact bodyPost_ret (v := .agg #[.int .i64 z, .int .i64 0, .slice none 0 0]) (by simp [results, Try.results23, go_sem]) rfl ⟨_, _, _, rfl, nil_ownS _ _, alloc_below _ _⟩
  · obtain ⟨z, hz⟩ : ∃ z, Hid (ctC list = z) := ⟨_, rfl⟩
    have HD : Hid (swD list lk signs id by' d = (z, 0, [])) := HB.out z (by rw [← hz.out]; exact hf) (by rw [HC.out, if_neg hf, hz.out])
    have dz : (z != 0) = true := by rw [bne_iff_ne, ← hz.out]; exact hf
    rw [hz.out] at KF
    rw [HD.out]
    clear HC HB hf hz
    go_enter Try.func23, Try.ntmps23
    go_wp2_with fail
    refine KF.out.mono ?_
    rintro e w2 ⟨rfl, hw⟩
    subst hw
    go_wp2_with fail
    exact bodyPost_ret (v := .agg #[.int .i64 z, .int .i64 0, .slice none 0 0]) (by simp [results, Try.results23, go_sem]) rfl ⟨_, _, _, rfl, nil_ownS _ _, alloc_below _ _⟩
end Go.Proofs.Ytklglpmlfboglaa

