/- The walk of FnContexts, where the two tables hold what the program's text lays (written by tools/walk_contexts.py). -/
import Derived.Test.YtbaldmmbphbinaaGreatDoorDrawHa
import Derived.Test.YtbaldmmbphbinaaGreatDoorJoint32
import Derived.Test.YtbaldmmbphbinaaGreatDoorJoint31
import Derived.Test.YtbaldmmbphbinaaGreatDoorSesA
import Derived.Test.YtbaldmmbphbinaaGreatDoorJoint8
import Derived.Test.YtbaldmmbphbinaaGreatDoorJoint7
namespace Go.Proofs.YtbaldmmbphbinaaGreatDoor
open Go.ChangeShapes Go.WideShapes Go.ChangeAt Go.RowKit

theorem wf_h {x : Int} (h1 : -9223372036854775808 ≤ x) (h2 : x ≤ 9223372036854775807) : (Lit.int .i64 x).wf = true := by
  have e1 : IntKind.i64.min = -9223372036854775808 := by kernel_rfl
  have e2 : IntKind.i64.max = 9223372036854775807 := by kernel_rfl
  simp only [Lit.wf, e1, e2, Bool.and_eq_true, decide_eq_true_eq]
  omega
theorem ses_caps {w : World} {x : SesD} {p1 p3 p4 p5 : Option Addr} {q1 q3 q4 q5 : Nat} (h : sessionC.rep w x [.slice p1 x.1.length q1, .int .i64 x.2.1, .slice p3 x.2.2.1.length q3, .slice p4 x.2.2.2.1.length q4, .slice p5 x.2.2.2.2.length q5]) : (x.2.2.1.length ≤ q3 ∧ q3 ≤ 2 ^ 63 - 1) ∧ (x.2.2.2.1.length ≤ q4 ∧ q4 ≤ 2 ^ 63 - 1) ∧ (x.2.2.2.2.length ≤ q5 ∧ q5 ≤ 2 ^ 63 - 1) := by
  obtain ⟨a1, b1, a3, b3, a4, b4, a5, b5, e, r1, r3, r4, r5⟩ := session_rep h
  simp only [List.cons.injEq, Value.slice.injEq, and_true, true_and] at e
  obtain ⟨⟨rfl, rfl⟩, ⟨rfl, rfl⟩, ⟨rfl, rfl⟩, rfl, rfl⟩ := e
  exact ⟨⟨r3.1, r3.2.1⟩, ⟨r4.1, r4.2.1⟩, ⟨r5.1, r5.2.1⟩⟩
theorem sesR_f0 (c : Int) (vs : List Value) (w : World) : (Instr.field 31 (.agg (.int .i64 c :: vs).toArray) 0).run Tryz.prog w = .ok (.int .i64 c) w := by kernel_rfl
set_option maxRecDepth 4000 in
set_option maxHeartbeats 8000000 in
theorem fnContexts_walk (b : Option Addr) (cap : Nat) (bs0 : List UInt8) (w : World) (r0 : Rd w b cap bs0) (hT : Tabs w) :
    Calls Tryz.prog 3 #[.slice b bs0.length cap] w fun e w' => e = .returned (.bool true) ∧ Below w.heap.size w w' := by
  by_cases hl0 : 1048576 < bs0.length
  · go_enter Tryz.func3, Tryz.ntmps3
    go_wp2_with fail
    refine (lwBig_yes _ _ _ _ hl0).mono ?_
    rintro e w1 ⟨rfl, rfl⟩
    go_wp2
    go_ret
    exact ⟨rfl, Below.refl _ _⟩
  replace hl0 : bs0.length ≤ 1048576 := by omega
  have HR0 : Hid (Rd w b cap bs0) := r0
  have HT : Hid (Tabs w) := hT
  clear r0 hT
  go_enter Tryz.func3, Tryz.ntmps3
  go_wp2_with fail
  refine (lwBig_no _ _ _ _ hl0).mono ?_
  rintro e w1 ⟨rfl, hw1⟩
  rw [hw1]
  clear hw1 w1
  go_wp2_with fail
  refine (drawAx_c _ _ bs0 _ HR0.out).mono ?_
  rintro e w1 ⟨x, vs, tk, pt, qt, rfl, RX, RT, hdd, BW⟩
  obtain ⟨px1, qx1, px3, qx3, px4, qx4, px5, qx5, rfl, -, -, -, -⟩ := session_rep RX
  have HDX : Hid (hdC x.2.2.2.2 = hdS x.2.2.2.2) := hdd
  have hb := alloc_below w1 (.cells #[.slice px1 x.1.length qx1, .int .i64 x.2.1, .slice px3 x.2.2.1.length qx3, .slice px4 x.2.2.2.1.length qx4, .slice px5 x.2.2.2.2.length qx5] 27)
  have AX := Arr.new w1 [.slice px1 x.1.length qx1, .int .i64 x.2.1, .slice px3 x.2.2.1.length qx3, .slice px4 x.2.2.2.1.length qx4, .slice px5 x.2.2.2.2.length qx5] 27
  replace RX := sessionC.keep RX hb
  replace RT := RT.keep hb
  replace BW := Below.step BW hb
  clear hb hdd
  have x0 := (AX.cell 0).trans (show _ = some _ from rfl)
  have x1 := (AX.cell 1).trans (show _ = some _ from rfl)
  have x2 := (AX.cell 2).trans (show _ = some _ from rfl)
  have x3 := (AX.cell 3).trans (show _ = some _ from rfl)
  have x4 := (AX.cell 4).trans (show _ = some _ from rfl)
  go_wp2_with fail
  generalize hV : w1.alloc (.cells #[.slice px1 x.1.length qx1, .int .i64 x.2.1, .slice px3 x.2.2.1.length qx3, .slice px4 x.2.2.2.1.length qx4, .slice px5 x.2.2.2.2.length qx5] 27) = V1 at *
  clear hV
  refine (implAc_k x _ tk pt qt V1 RX RT).mono ?_
  rintro e w2 ⟨us, fp, rfl, ko, hb⟩
  have F1 := sesR_f0
  clear x0 x1 x2 x3 x4
  replace AX := AX.stay hb
  replace RX := sessionC.keep RX hb
  replace RT := RT.keep hb
  replace BW := Below.step BW hb
  clear hb
  by_cases ha : acC hdC x tk = 0
  case neg =>
    have KS : Hid (∀ W : World, sessionC.rep W x [.slice px1 x.1.length qx1, .int .i64 x.2.1, .slice px3 x.2.2.1.length qx3, .slice px4 x.2.2.2.1.length qx4, .slice px5 x.2.2.2.2.length qx5] → Rd W pt qt tk → Calls Tryz.prog 7 #[.agg #[.slice px1 x.1.length qx1, .int .i64 x.2.1, .slice px3 x.2.2.1.length qx3, .slice px4 x.2.2.2.1.length qx4, .slice px5 x.2.2.2.2.length qx5], .slice pt tk.length qt] W fun e w' => ∃ vs : List Value, e = .returned (.agg (.int .i64 (acC hdC x tk) :: vs).toArray) ∧ Below W.heap.size W w') := fun W hW hW2 => by
      have he : acC hdS x tk = acC hdC x tk := by unfold acC; rw [se_agree HDX.out]
      have h := specAc_bad x _ tk pt qt W hW hW2 (by rw [he]; exact ha)
      rw [he] at h
      exact h
    obtain ⟨z, hz⟩ : ∃ z, zeroSes = z := ⟨_, rfl⟩
    rw [acD, if_neg ha, hz] at ko
    generalize acC hdC x tk = c at *
    have dn : (c != 0) = true := by rw [bne_iff_ne]; exact ha
    have dd : (c == c) = true := beq_self_eq_true c
    clear hz ha
    have kr := sessionResultC.toRep ko
    obtain ⟨pz1, qz1, pz3, qz3, pz4, qz4, pz5, qz5, rfl, z1, z3, z4, z5⟩ := sessionResult_rep kr
    simp only [] at z1 z3 z4 z5
    have RZ : sessionC.rep w2 z [.slice pz1 z.1.length qz1, .int .i64 z.2.1, .slice pz3 z.2.2.1.length qz3, .slice pz4 z.2.2.2.1.length qz4, .slice pz5 z.2.2.2.2.length qz5] := session_mk z1 z3 z4 z5
    have hb := alloc_below w2 (.cells #[.int .i64 c, .int .i64 0, .slice pz1 z.1.length qz1, .int .i64 z.2.1, .slice pz3 z.2.2.1.length qz3, .slice pz4 z.2.2.2.1.length qz4, .slice pz5 z.2.2.2.2.length qz5] 31)
    have AZ := Arr.new w2 [.int .i64 c, .int .i64 0, .slice pz1 z.1.length qz1, .int .i64 z.2.1, .slice pz3 z.2.2.1.length qz3, .slice pz4 z.2.2.2.1.length qz4, .slice pz5 z.2.2.2.2.length qz5] 31
    replace RZ := sessionC.keep RZ hb
    replace AX := AX.stay hb
    replace RX := sessionC.keep RX hb
    replace RT := RT.keep hb
    replace BW := Below.step BW hb
    clear hb ko kr z1 z3 z4 z5
    have z0 := (AZ.cell 0).trans (show _ = some _ from rfl)
    have z1 := (AZ.cell 1).trans (show _ = some _ from rfl)
    have z2 := (AZ.cell 2).trans (show _ = some _ from rfl)
    have z3 := (AZ.cell 3).trans (show _ = some _ from rfl)
    have z4 := (AZ.cell 4).trans (show _ = some _ from rfl)
    have z5 := (AZ.cell 5).trans (show _ = some _ from rfl)
    have z6 := (AZ.cell 6).trans (show _ = some _ from rfl)
    go_wp2_with fail
    generalize hV : w2.alloc (.cells #[.int .i64 c, .int .i64 0, .slice pz1 z.1.length qz1, .int .i64 z.2.1, .slice pz3 z.2.2.1.length qz3, .slice pz4 z.2.2.2.1.length qz4, .slice pz5 z.2.2.2.2.length qz5] 31) = V2 at *
    clear hV
    have x0 := (AX.cell 0).trans (show _ = some _ from rfl)
    have x1 := (AX.cell 1).trans (show _ = some _ from rfl)
    have x2 := (AX.cell 2).trans (show _ = some _ from rfl)
    have x3 := (AX.cell 3).trans (show _ = some _ from rfl)
    have x4 := (AX.cell 4).trans (show _ = some _ from rfl)
    clear z0 z1 z2 z3 z4 z5 z6
    have z0 := (AZ.cell 0).trans (show _ = some _ from rfl)
    have z1 := (AZ.cell 1).trans (show _ = some _ from rfl)
    have z2 := (AZ.cell 2).trans (show _ = some _ from rfl)
    have z3 := (AZ.cell 3).trans (show _ = some _ from rfl)
    have z4 := (AZ.cell 4).trans (show _ = some _ from rfl)
    have z5 := (AZ.cell 5).trans (show _ = some _ from rfl)
    have z6 := (AZ.cell 6).trans (show _ = some _ from rfl)
    have hne := HW.some V2
    have gz0 := HW.at z0
    have gz1 := HW.at z1
    have gz2 := HW.at z2
    have gz3 := HW.at z3
    have gz4 := HW.at z4
    have gz5 := HW.at z5
    have gz6 := HW.at z6
    have gx0 := HW.at x0
    have gx1 := HW.at x1
    have gx2 := HW.at x2
    have gx3 := HW.at x3
    have gx4 := HW.at x4
    clear z0 z1 z2 z3 z4 z5 z6 x0 x1 x2 x3 x4
    refine wp_region_pick [0, 1, 4, 5] 7 3 1 rfl rfl rfl (by kernel_rfl) (by kernel_rfl) (by kernel_rfl) (by kernel_rfl) ?_
    simp only [opsAt, List.getElem?_toArray, List.getElem?_cons_zero, List.getElem?_cons_succ]
    repeat (go_big_quiet_step (fail))
    refine wpQuiet_nil ?_
    refine wpM_only (i := 2) (by kernel_rfl) ?_
    refine mOp_call rfl (by go_simp) 7 _ #[.agg #[.slice px1 x.1.length qx1, .int .i64 x.2.1, .slice px3 x.2.2.1.length qx3, .slice px4 x.2.2.2.1.length qx4, .slice px5 x.2.2.2.2.length qx5], .slice pt tk.length qt] (fun w => by go_simp) rfl ?_
    rintro _ ⟨sg0, rfl⟩
    refine (KS.out _ (sessionC.keep RX sg0.h) (RT.keep sg0.h)).mono ?_
    rintro e wg0 ⟨vs, rfl, hbx⟩
    have hbg := Below.step sg0.h hbx
    refine ⟨_, rfl, ⟨⟨wg0, hbx⟩, rfl⟩, ?_⟩
    replace gz0 := HW.down gz0 hbg
    replace gz1 := HW.down gz1 hbg
    replace gz2 := HW.down gz2 hbg
    replace gz3 := HW.down gz3 hbg
    replace gz4 := HW.down gz4 hbg
    replace gz5 := HW.down gz5 hbg
    replace gz6 := HW.down gz6 hbg
    replace gx0 := HW.down gx0 hbg
    replace gx1 := HW.down gx1 hbg
    replace gx2 := HW.down gx2 hbg
    replace gx3 := HW.down gx3 hbg
    replace gx4 := HW.down gx4 hbg
    replace RX := sessionC.keep RX hbg
    replace RT := RT.keep hbg
    replace BW := Below.step BW hbg
    replace hne := HW.some wg0
    clear hbg hbx
    refine wpM_more [3, 6] 2 0 rfl (by kernel_rfl) (by kernel_rfl) (by kernel_rfl) (by kernel_rfl) ?_
    simp only [opsAt, List.getElem?_toArray, List.getElem?_cons_zero, List.getElem?_cons_succ]
    go_simp
    repeat (go_big_quiet_step (fail))
    refine wpQuiet_nil ?_
    refine wpM_end (by kernel_rfl) rfl (by kernel_rfl) (by decide) ?_
    rintro _ ⟨sgz, rfl⟩
    simp only [List.drop_succ_cons, List.drop_zero]
    go_wp2
    go_ret
    exact ⟨rfl, Below.step BW sgz.h⟩
  obtain ⟨f1, f2, f3, f4⟩ := ask_all ha
  obtain ⟨z, hz⟩ : ∃ z, askN x tk = z := ⟨_, rfl⟩
  rw [acD, if_pos ha, hz] at ko
  rw [hz] at f1 f2 f3 f4
  have HZ1 : Hid (seF hdC z = 0) := f1
  have HZ2 : Hid (acC hdC z tk = 6) := f2
  have HZ3 : Hid (z.2.2.1.length = x.2.2.1.length + 1) := f3
  have HZ4 : Hid (z.2.2.2.2.length = x.2.2.2.2.length) := f4
  have HXL : Hid (x.2.2.1.length ≤ 6) := (acC_all ha).1.ln.1
  clear f1 f2 f3 f4 hz ha
  have kr := sessionResultC.toRep ko
  obtain ⟨pz1, qz1, pz3, qz3, pz4, qz4, pz5, qz5, rfl, z1, z3, z4, z5⟩ := sessionResult_rep kr
  simp only [] at z1 z3 z4 z5
  have RZ : sessionC.rep w2 z [.slice pz1 z.1.length qz1, .int .i64 z.2.1, .slice pz3 z.2.2.1.length qz3, .slice pz4 z.2.2.2.1.length qz4, .slice pz5 z.2.2.2.2.length qz5] := session_mk z1 z3 z4 z5
  have hb := alloc_below w2 (.cells #[.int .i64 0, .int .i64 0, .slice pz1 z.1.length qz1, .int .i64 z.2.1, .slice pz3 z.2.2.1.length qz3, .slice pz4 z.2.2.2.1.length qz4, .slice pz5 z.2.2.2.2.length qz5] 31)
  have AZ := Arr.new w2 [.int .i64 0, .int .i64 0, .slice pz1 z.1.length qz1, .int .i64 z.2.1, .slice pz3 z.2.2.1.length qz3, .slice pz4 z.2.2.2.1.length qz4, .slice pz5 z.2.2.2.2.length qz5] 31
  replace RZ := sessionC.keep RZ hb
  replace AX := AX.stay hb
  replace RX := sessionC.keep RX hb
  replace RT := RT.keep hb
  replace BW := Below.step BW hb
  clear hb ko kr z1 z3 z4 z5
  have z0 := (AZ.cell 0).trans (show _ = some _ from rfl)
  have z1 := (AZ.cell 1).trans (show _ = some _ from rfl)
  have z2 := (AZ.cell 2).trans (show _ = some _ from rfl)
  have z3 := (AZ.cell 3).trans (show _ = some _ from rfl)
  have z4 := (AZ.cell 4).trans (show _ = some _ from rfl)
  have z5 := (AZ.cell 5).trans (show _ = some _ from rfl)
  have z6 := (AZ.cell 6).trans (show _ = some _ from rfl)
  go_wp2_with fail
  generalize hV : w2.alloc (.cells #[.int .i64 0, .int .i64 0, .slice pz1 z.1.length qz1, .int .i64 z.2.1, .slice pz3 z.2.2.1.length qz3, .slice pz4 z.2.2.2.1.length qz4, .slice pz5 z.2.2.2.2.length qz5] 31) = V2 at *
  clear hV
  clear z0 z1 z2 z3 z4 z5 z6
  refine (drawHa_c _ _ bs0 V2 (HR0.out.keep BW)).mono ?_
  rintro e w3 ⟨y, vs, l, s, now, d, pc, ps, pd, qc, qs, qd, rfl, RY, RC, RS, RU, hdd, hnow, hb⟩
  obtain ⟨py1, qy1, py3, qy3, py4, qy4, py5, qy5, rfl, -, -, -, -⟩ := session_rep RY
  have HDY : Hid (hdC y.2.2.2.2 = hdS y.2.2.2.2) := hdd
  have HNW : Hid (0 ≤ now ∧ now ≤ 60) := hnow
  replace AX := AX.stay hb
  replace RX := sessionC.keep RX hb
  replace RT := RT.keep hb
  replace AZ := AZ.stay hb
  replace RZ := sessionC.keep RZ hb
  replace BW := Below.step BW hb
  have hb2 := alloc_below w3 (.cells #[.slice py1 y.1.length qy1, .int .i64 y.2.1, .slice py3 y.2.2.1.length qy3, .slice py4 y.2.2.2.1.length qy4, .slice py5 y.2.2.2.2.length qy5] 27)
  have AY := Arr.new w3 [.slice py1 y.1.length qy1, .int .i64 y.2.1, .slice py3 y.2.2.1.length qy3, .slice py4 y.2.2.2.1.length qy4, .slice py5 y.2.2.2.2.length qy5] 27
  replace RY := sessionC.keep RY hb2
  replace AX := AX.stay hb2
  replace RX := sessionC.keep RX hb2
  replace RT := RT.keep hb2
  replace AZ := AZ.stay hb2
  replace RZ := sessionC.keep RZ hb2
  replace RC := RC.keep hb2
  replace RS := RS.keep hb2
  replace RU := RU.keep hb2
  replace BW := Below.step BW hb2
  clear hb hb2 hdd hnow
  have y0 := (AY.cell 0).trans (show _ = some _ from rfl)
  have y1 := (AY.cell 1).trans (show _ = some _ from rfl)
  have y2 := (AY.cell 2).trans (show _ = some _ from rfl)
  have y3 := (AY.cell 3).trans (show _ = some _ from rfl)
  have y4 := (AY.cell 4).trans (show _ = some _ from rfl)
  go_wp2_with fail
  generalize hV : w3.alloc (.cells #[.slice py1 y.1.length qy1, .int .i64 y.2.1, .slice py3 y.2.2.1.length qy3, .slice py4 y.2.2.2.1.length qy4, .slice py5 y.2.2.2.2.length qy5] 27) = V3 at *
  clear hV
  clear y0 y1 y2 y3 y4
  refine (implHa_k y _ l s now d pc ps pd qc qs qd V3 RY RC RS RU (HT.out.keep BW)).mono ?_
  rintro e w4 ⟨ys, rfl, hok, hno, hb⟩
  have KS : Hid (∀ W : World, sessionC.rep W y [.slice py1 y.1.length qy1, .int .i64 y.2.1, .slice py3 y.2.2.1.length qy3, .slice py4 y.2.2.2.1.length qy4, .slice py5 y.2.2.2.2.length qy5] → RdL certC W pc qc l → RdL signC W ps qs s → Rd W pd qd d → Calls Tryz.prog 10 #[.agg #[.slice py1 y.1.length qy1, .int .i64 y.2.1, .slice py3 y.2.2.1.length qy3, .slice py4 y.2.2.2.1.length qy4, .slice py5 y.2.2.2.2.length qy5], .slice pc l.length qc, .slice ps s.length qs, .int .i64 now, .slice pd d.length qd] W fun e w' => ∃ vs : List Value, e = .returned (.agg (.int .i64 (haC hdC y l s now d) :: vs).toArray) ∧ Below W.heap.size W w') := fun W h1 h2 h3 h4 => by
    have he : haC hdS y l s now d = haC hdC y l s now d := by unfold haC; rw [se_agree HDY.out]
    have h := specHa_k y _ l s now d pc ps pd qc qs qd W h1 h2 h3 h4
    rw [he] at h
    exact h
  by_cases hc : haC hdC y l s now d = 0
  case neg =>
    have hys := hno hc
    subst hys
    replace AX := AX.stay hb
    replace RX := sessionC.keep RX hb
    replace RT := RT.keep hb
    replace AZ := AZ.stay hb
    replace RZ := sessionC.keep RZ hb
    replace RC := RC.keep hb
    replace RS := RS.keep hb
    replace RU := RU.keep hb
    replace AY := AY.stay hb
    replace RY := sessionC.keep RY hb
    replace BW := Below.step BW hb
    clear hb hok hno
    generalize haC hdC y l s now d = c at *
    have dn : (c == 0) = false := by rw [beq_eq_false_iff_ne]; exact hc
    have dd : (c != c) = false := by rw [bne_eq_false_iff_eq]
    clear hc
    have hb := alloc_below w4 (.cells #[.int .i64 c, .int .i64 0, .slice none 0 0, .int .i64 0, .slice none 0 0, .slice none 0 0, .slice none 0 0] 31)
    have AH := Arr.new w4 [.int .i64 c, .int .i64 0, .slice none 0 0, .int .i64 0, .slice none 0 0, .slice none 0 0, .slice none 0 0] 31
    replace AX := AX.stay hb
    replace RX := sessionC.keep RX hb
    replace RT := RT.keep hb
    replace AZ := AZ.stay hb
    replace RZ := sessionC.keep RZ hb
    replace RC := RC.keep hb
    replace RS := RS.keep hb
    replace RU := RU.keep hb
    replace AY := AY.stay hb
    replace RY := sessionC.keep RY hb
    replace BW := Below.step BW hb
    clear hb
    go_wp2_with fail
    generalize hV : w4.alloc (.cells #[.int .i64 c, .int .i64 0, .slice none 0 0, .int .i64 0, .slice none 0 0, .slice none 0 0, .slice none 0 0] 31) = V4 at *
    clear hV
    have h0 := (AH.cell 0).trans (show _ = some _ from rfl)
    have h1 := (AH.cell 1).trans (show _ = some _ from rfl)
    have h2 := (AH.cell 2).trans (show _ = some _ from rfl)
    have h3 := (AH.cell 3).trans (show _ = some _ from rfl)
    have h4 := (AH.cell 4).trans (show _ = some _ from rfl)
    have h5 := (AH.cell 5).trans (show _ = some _ from rfl)
    have h6 := (AH.cell 6).trans (show _ = some _ from rfl)
    have y0 := (AY.cell 0).trans (show _ = some _ from rfl)
    have y1 := (AY.cell 1).trans (show _ = some _ from rfl)
    have y2 := (AY.cell 2).trans (show _ = some _ from rfl)
    have y3 := (AY.cell 3).trans (show _ = some _ from rfl)
    have y4 := (AY.cell 4).trans (show _ = some _ from rfl)
    have hne := HW.some V4
    have gh0 := HW.at h0
    have gh1 := HW.at h1
    have gh2 := HW.at h2
    have gh3 := HW.at h3
    have gh4 := HW.at h4
    have gh5 := HW.at h5
    have gh6 := HW.at h6
    have gy0 := HW.at y0
    have gy1 := HW.at y1
    have gy2 := HW.at y2
    have gy3 := HW.at y3
    have gy4 := HW.at y4
    clear h0 h1 h2 h3 h4 h5 h6 y0 y1 y2 y3 y4
    refine wp_region_pick [0, 1, 2, 3, 4, 5, 6] 9 2 1 rfl rfl rfl (by kernel_rfl) (by kernel_rfl) (by kernel_rfl) (by kernel_rfl) ?_
    simp only [opsAt, List.getElem?_toArray, List.getElem?_cons_zero, List.getElem?_cons_succ]
    repeat (go_big_quiet_step (fail))
    refine wpQuiet_nil ?_
    refine wpM_only (i := 7) (by kernel_rfl) ?_
    refine mOp_call rfl (by go_simp) 10 _ #[.agg #[.slice py1 y.1.length qy1, .int .i64 y.2.1, .slice py3 y.2.2.1.length qy3, .slice py4 y.2.2.2.1.length qy4, .slice py5 y.2.2.2.2.length qy5], .slice pc l.length qc, .slice ps s.length qs, .int .i64 now, .slice pd d.length qd] (fun w => by go_simp) rfl ?_
    rintro _ ⟨sg0, rfl⟩
    refine (KS.out _ (sessionC.keep RY sg0.h) (RC.keep sg0.h) (RS.keep sg0.h) (RU.keep sg0.h)).mono ?_
    rintro e wg0 ⟨vs, rfl, hbx⟩
    have hbg := Below.step sg0.h hbx
    refine ⟨_, rfl, ⟨⟨wg0, hbx⟩, rfl⟩, ?_⟩
    replace AX := AX.stay hbg
    replace RX := sessionC.keep RX hbg
    replace RT := RT.keep hbg
    replace AZ := AZ.stay hbg
    replace RZ := sessionC.keep RZ hbg
    replace RC := RC.keep hbg
    replace RS := RS.keep hbg
    replace RU := RU.keep hbg
    replace AY := AY.stay hbg
    replace RY := sessionC.keep RY hbg
    replace AH := AH.stay hbg
    replace BW := Below.step BW hbg
    replace hne := HW.some wg0
    clear hbg hbx gh0 gh1 gh2 gh3 gh4 gh5 gh6 gy0 gy1 gy2 gy3 gy4
    refine wpM_more [8] 1 0 rfl (by kernel_rfl) (by kernel_rfl) (by kernel_rfl) (by kernel_rfl) ?_
    simp only [opsAt, List.getElem?_toArray, List.getElem?_cons_zero, List.getElem?_cons_succ]
    go_simp
    repeat (go_big_quiet_step (fail))
    refine wpQuiet_nil ?_
    refine wpM_end (by kernel_rfl) rfl (by kernel_rfl) (by decide) ?_
    rintro _ ⟨sgz, rfl⟩
    simp only [List.drop_succ_cons, List.drop_zero]
    have hbg : Below _ _ sgz.w := sgz.h
    replace AX := AX.stay hbg
    replace RX := sessionC.keep RX hbg
    replace RT := RT.keep hbg
    replace AZ := AZ.stay hbg
    replace RZ := sessionC.keep RZ hbg
    replace RC := RC.keep hbg
    replace RS := RS.keep hbg
    replace RU := RU.keep hbg
    replace AY := AY.stay hbg
    replace RY := sessionC.keep RY hbg
    replace AH := AH.stay hbg
    replace BW := Below.step BW hbg
    clear hbg hne
    generalize sgz.w = V5 at *
    clear sgz
    clear KS
    have h0 := (AH.cell 0).trans (show _ = some _ from rfl)
    have h1 := (AH.cell 1).trans (show _ = some _ from rfl)
    have h2 := (AH.cell 2).trans (show _ = some _ from rfl)
    have h3 := (AH.cell 3).trans (show _ = some _ from rfl)
    have h4 := (AH.cell 4).trans (show _ = some _ from rfl)
    have h5 := (AH.cell 5).trans (show _ = some _ from rfl)
    have h6 := (AH.cell 6).trans (show _ = some _ from rfl)
    have KA : Hid (∀ W : World, sessionC.rep W z [.slice pz1 z.1.length qz1, .int .i64 z.2.1, .slice pz3 z.2.2.1.length qz3, .slice pz4 z.2.2.2.1.length qz4, .slice pz5 z.2.2.2.2.length qz5] → Rd W pt qt tk → Calls Tryz.prog 6 #[.agg #[.slice pz1 z.1.length qz1, .int .i64 z.2.1, .slice pz3 z.2.2.1.length qz3, .slice pz4 z.2.2.2.1.length qz4, .slice pz5 z.2.2.2.2.length qz5], .slice pt tk.length qt] W fun e w' => ∃ vs : List Value, e = .returned (.agg (.int .i64 6 :: vs).toArray) ∧ Below W.heap.size W w') := fun W h1 h2 => by
      refine (implAc_k z _ tk pt qt W h1 h2).mono ?_
      rintro e w' ⟨vs, fp, rfl, ko, hb⟩
      rw [acD, if_neg (by rw [HZ2.out]; decide), HZ2.out] at ko
      obtain ⟨_, _, _, _, _, _, _, _, rfl, -⟩ := sessionResult_rep (sessionResultC.toRep ko)
      exact ⟨_, rfl, hb⟩
    have KZ : Hid (∀ W : World, sessionC.rep W z [.slice pz1 z.1.length qz1, .int .i64 z.2.1, .slice pz3 z.2.2.1.length qz3, .slice pz4 z.2.2.2.1.length qz4, .slice pz5 z.2.2.2.2.length qz5] → Calls Tryz.prog 11 #[.agg #[.slice pz1 z.1.length qz1, .int .i64 z.2.1, .slice pz3 z.2.2.1.length qz3, .slice pz4 z.2.2.2.1.length qz4, .slice pz5 z.2.2.2.2.length qz5]] W fun e w' => e = .returned (.int .i64 0) ∧ Below W.heap.size W w') := fun W hW => by
      have h := sessFault_k z _ W hW
      rw [HZ1.out] at h
      exact h
    have z0 := (AZ.cell 0).trans (show _ = some _ from rfl)
    have z1 := (AZ.cell 1).trans (show _ = some _ from rfl)
    have z2 := (AZ.cell 2).trans (show _ = some _ from rfl)
    have z3 := (AZ.cell 3).trans (show _ = some _ from rfl)
    have z4 := (AZ.cell 4).trans (show _ = some _ from rfl)
    have z5 := (AZ.cell 5).trans (show _ = some _ from rfl)
    have z6 := (AZ.cell 6).trans (show _ = some _ from rfl)
    go_wp2_with fail
    refine (KA.out _ RZ RT).mono ?_
    rintro e wa ⟨vs, rfl, hb⟩
    replace AX := AX.stay hb
    replace RX := sessionC.keep RX hb
    replace RT := RT.keep hb
    replace AZ := AZ.stay hb
    replace RZ := sessionC.keep RZ hb
    replace RC := RC.keep hb
    replace RS := RS.keep hb
    replace RU := RU.keep hb
    replace AY := AY.stay hb
    replace RY := sessionC.keep RY hb
    replace AH := AH.stay hb
    replace BW := Below.step BW hb
    clear z0 z1 z2 z3 z4 z5 z6
    have z0 := (AZ.cell 0).trans (show _ = some _ from rfl)
    have z1 := (AZ.cell 1).trans (show _ = some _ from rfl)
    have z2 := (AZ.cell 2).trans (show _ = some _ from rfl)
    have z3 := (AZ.cell 3).trans (show _ = some _ from rfl)
    have z4 := (AZ.cell 4).trans (show _ = some _ from rfl)
    have z5 := (AZ.cell 5).trans (show _ = some _ from rfl)
    have z6 := (AZ.cell 6).trans (show _ = some _ from rfl)
    clear hb
    go_wp2_with fail
    refine (KZ.out _ RZ).mono ?_
    rintro e wb ⟨rfl, hb⟩
    replace AX := AX.stay hb
    replace RX := sessionC.keep RX hb
    replace RT := RT.keep hb
    replace AZ := AZ.stay hb
    replace RZ := sessionC.keep RZ hb
    replace RC := RC.keep hb
    replace RS := RS.keep hb
    replace RU := RU.keep hb
    replace AY := AY.stay hb
    replace RY := sessionC.keep RY hb
    replace AH := AH.stay hb
    replace BW := Below.step BW hb
    clear z0 z1 z2 z3 z4 z5 z6
    have z0 := (AZ.cell 0).trans (show _ = some _ from rfl)
    have z1 := (AZ.cell 1).trans (show _ = some _ from rfl)
    have z2 := (AZ.cell 2).trans (show _ = some _ from rfl)
    have z3 := (AZ.cell 3).trans (show _ = some _ from rfl)
    have z4 := (AZ.cell 4).trans (show _ = some _ from rfl)
    have z5 := (AZ.cell 5).trans (show _ = some _ from rfl)
    have z6 := (AZ.cell 6).trans (show _ = some _ from rfl)
    have x0 := (AX.cell 0).trans (show _ = some _ from rfl)
    have x1 := (AX.cell 1).trans (show _ = some _ from rfl)
    have x2 := (AX.cell 2).trans (show _ = some _ from rfl)
    have x3 := (AX.cell 3).trans (show _ = some _ from rfl)
    have x4 := (AX.cell 4).trans (show _ = some _ from rfl)
    clear hb
    have hwx : wrap64 ((x.2.2.1.length : Int) + 1) = (x.2.2.1.length : Int) + 1 := by have := HXL.out; unfold wrap64; omega
    have hl3 : ((z.2.2.1.length : Int) == (x.2.2.1.length : Int) + 1) = true := by have := HZ3.out; rw [beq_iff_eq]; omega
    have hl4 : ((z.2.2.2.2.length : Int) == (x.2.2.2.2.length : Int)) = true := by have := HZ4.out; rw [beq_iff_eq]; omega
    obtain ⟨hbz3, hbz4, hbz5⟩ := ses_caps RZ
    have hcz3 := hbz3.1
    have hdz3 := hbz3.2
    have hcz4 := hbz4.1
    have hdz4 := hbz4.2
    have hcz5 := hbz5.1
    have hdz5 := hbz5.2
    clear hbz3 hbz4 hbz5
    obtain ⟨hbx3, hbx4, hbx5⟩ := ses_caps RX
    have hcx3 := hbx3.1
    have hdx3 := hbx3.2
    have hcx4 := hbx4.1
    have hdx4 := hbx4.2
    have hcx5 := hbx5.1
    have hdx5 := hbx5.2
    clear hbx3 hbx4 hbx5
    go_wp2_with fail
    go_ret
    exact ⟨rfl, BW⟩
  obtain ⟨a, zs, hra, rfl, hn⟩ := hok hc
  obtain ⟨f1, f2, f3, f4, f5, f6⟩ := ans_all hc hra
  obtain ⟨h, hh⟩ : ∃ h, ansN y a = h := ⟨_, rfl⟩
  rw [hh] at f1 f2 f3 f4 f5 hn
  have RH := hn.rep
  obtain ⟨ph1, qh1, ph3, qh3, ph4, qh4, ph5, qh5, rfl, -, -, -, -⟩ := session_rep RH
  have HH1 : Hid (seF hdC h = 0) := f1
  have HH2 : Hid (haC hdC h l s now d = 8) := f2
  have HH3 : Hid (h.2.2.2.1.length = y.2.2.2.1.length + 1) := f3
  have HH4 : Hid (h.2.2.1.length + 1 = y.2.2.1.length) := f4
  have HYL : Hid (y.2.2.2.1.length ≤ 40 ∧ y.2.2.1.length ≤ 6) := ⟨(haC_all hc).1.ln.2.1, (haC_all hc).1.ln.1⟩
  obtain ⟨id, hid⟩ : ∃ id, a.2.1.1 = id := ⟨_, rfl⟩
  rw [hid] at f5 f6
  have HH5 : Hid (hoB hdS h id now = true) := f5
  have HH6 : Hid (0 ≤ id ∧ id ≤ 100) := f6
  rw [hc] at KS
  rw [hc, hid]
  clear f1 f2 f3 f4 f5 f6 hok hno hn hh hra hid hc
  replace AX := AX.stay hb
  replace RX := sessionC.keep RX hb
  replace RT := RT.keep hb
  replace AZ := AZ.stay hb
  replace RZ := sessionC.keep RZ hb
  replace RC := RC.keep hb
  replace RS := RS.keep hb
  replace RU := RU.keep hb
  replace AY := AY.stay hb
  replace RY := sessionC.keep RY hb
  replace BW := Below.step BW hb
  clear hb
  have hb := alloc_below w4 (.cells #[.int .i64 0, .int .i64 id, .slice ph1 h.1.length qh1, .int .i64 h.2.1, .slice ph3 h.2.2.1.length qh3, .slice ph4 h.2.2.2.1.length qh4, .slice ph5 h.2.2.2.2.length qh5] 31)
  have AH := Arr.new w4 [.int .i64 0, .int .i64 id, .slice ph1 h.1.length qh1, .int .i64 h.2.1, .slice ph3 h.2.2.1.length qh3, .slice ph4 h.2.2.2.1.length qh4, .slice ph5 h.2.2.2.2.length qh5] 31
  replace RH := sessionC.keep RH hb
  replace AX := AX.stay hb
  replace RX := sessionC.keep RX hb
  replace RT := RT.keep hb
  replace AZ := AZ.stay hb
  replace RZ := sessionC.keep RZ hb
  replace RC := RC.keep hb
  replace RS := RS.keep hb
  replace RU := RU.keep hb
  replace AY := AY.stay hb
  replace RY := sessionC.keep RY hb
  replace BW := Below.step BW hb
  clear hb
  go_wp2_with fail
  generalize hV : w4.alloc (.cells #[.int .i64 0, .int .i64 id, .slice ph1 h.1.length qh1, .int .i64 h.2.1, .slice ph3 h.2.2.1.length qh3, .slice ph4 h.2.2.2.1.length qh4, .slice ph5 h.2.2.2.2.length qh5] 31) = V4 at *
  clear hV
  have h0 := (AH.cell 0).trans (show _ = some _ from rfl)
  have h1 := (AH.cell 1).trans (show _ = some _ from rfl)
  have h2 := (AH.cell 2).trans (show _ = some _ from rfl)
  have h3 := (AH.cell 3).trans (show _ = some _ from rfl)
  have h4 := (AH.cell 4).trans (show _ = some _ from rfl)
  have h5 := (AH.cell 5).trans (show _ = some _ from rfl)
  have h6 := (AH.cell 6).trans (show _ = some _ from rfl)
  have y0 := (AY.cell 0).trans (show _ = some _ from rfl)
  have y1 := (AY.cell 1).trans (show _ = some _ from rfl)
  have y2 := (AY.cell 2).trans (show _ = some _ from rfl)
  have y3 := (AY.cell 3).trans (show _ = some _ from rfl)
  have y4 := (AY.cell 4).trans (show _ = some _ from rfl)
  have hne := HW.some V4
  have gh0 := HW.at h0
  have gh1 := HW.at h1
  have gh2 := HW.at h2
  have gh3 := HW.at h3
  have gh4 := HW.at h4
  have gh5 := HW.at h5
  have gh6 := HW.at h6
  have gy0 := HW.at y0
  have gy1 := HW.at y1
  have gy2 := HW.at y2
  have gy3 := HW.at y3
  have gy4 := HW.at y4
  clear h0 h1 h2 h3 h4 h5 h6 y0 y1 y2 y3 y4
  refine wp_region_pick [0, 1, 2, 3, 4, 5, 6] 9 2 1 rfl rfl rfl (by kernel_rfl) (by kernel_rfl) (by kernel_rfl) (by kernel_rfl) ?_
  simp only [opsAt, List.getElem?_toArray, List.getElem?_cons_zero, List.getElem?_cons_succ]
  repeat (go_big_quiet_step (fail))
  refine wpQuiet_nil ?_
  refine wpM_only (i := 7) (by kernel_rfl) ?_
  refine mOp_call rfl (by go_simp) 10 _ #[.agg #[.slice py1 y.1.length qy1, .int .i64 y.2.1, .slice py3 y.2.2.1.length qy3, .slice py4 y.2.2.2.1.length qy4, .slice py5 y.2.2.2.2.length qy5], .slice pc l.length qc, .slice ps s.length qs, .int .i64 now, .slice pd d.length qd] (fun w => by go_simp) rfl ?_
  rintro _ ⟨sg0, rfl⟩
  refine (KS.out _ (sessionC.keep RY sg0.h) (RC.keep sg0.h) (RS.keep sg0.h) (RU.keep sg0.h)).mono ?_
  rintro e wg0 ⟨vs, rfl, hbx⟩
  have hbg := Below.step sg0.h hbx
  refine ⟨_, rfl, ⟨⟨wg0, hbx⟩, rfl⟩, ?_⟩
  replace AX := AX.stay hbg
  replace RX := sessionC.keep RX hbg
  replace RT := RT.keep hbg
  replace AZ := AZ.stay hbg
  replace RZ := sessionC.keep RZ hbg
  replace RC := RC.keep hbg
  replace RS := RS.keep hbg
  replace RU := RU.keep hbg
  replace AY := AY.stay hbg
  replace RY := sessionC.keep RY hbg
  replace AH := AH.stay hbg
  replace RH := sessionC.keep RH hbg
  replace BW := Below.step BW hbg
  replace hne := HW.some wg0
  clear hbg hbx gh0 gh1 gh2 gh3 gh4 gh5 gh6 gy0 gy1 gy2 gy3 gy4
  refine wpM_more [8] 1 0 rfl (by kernel_rfl) (by kernel_rfl) (by kernel_rfl) (by kernel_rfl) ?_
  simp only [opsAt, List.getElem?_toArray, List.getElem?_cons_zero, List.getElem?_cons_succ]
  go_simp
  repeat (go_big_quiet_step (fail))
  refine wpQuiet_nil ?_
  refine wpM_end (by kernel_rfl) rfl (by kernel_rfl) (by decide) ?_
  rintro _ ⟨sgz, rfl⟩
  simp only [List.drop_succ_cons, List.drop_zero]
  have hbg : Below _ _ sgz.w := sgz.h
  replace AX := AX.stay hbg
  replace RX := sessionC.keep RX hbg
  replace RT := RT.keep hbg
  replace AZ := AZ.stay hbg
  replace RZ := sessionC.keep RZ hbg
  replace RC := RC.keep hbg
  replace RS := RS.keep hbg
  replace RU := RU.keep hbg
  replace AY := AY.stay hbg
  replace RY := sessionC.keep RY hbg
  replace AH := AH.stay hbg
  replace RH := sessionC.keep RH hbg
  replace BW := Below.step BW hbg
  clear hbg hne
  generalize sgz.w = V5 at *
  clear sgz
  clear KS
  have KH : Hid (∀ W : World, sessionC.rep W h [.slice ph1 h.1.length qh1, .int .i64 h.2.1, .slice ph3 h.2.2.1.length qh3, .slice ph4 h.2.2.2.1.length qh4, .slice ph5 h.2.2.2.2.length qh5] → RdL certC W pc qc l → RdL signC W ps qs s → Rd W pd qd d → Below w.heap.size w W → Calls Tryz.prog 9 #[.agg #[.slice ph1 h.1.length qh1, .int .i64 h.2.1, .slice ph3 h.2.2.1.length qh3, .slice ph4 h.2.2.2.1.length qh4, .slice ph5 h.2.2.2.2.length qh5], .slice pc l.length qc, .slice ps s.length qs, .int .i64 now, .slice pd d.length qd] W fun e w' => ∃ vs : List Value, e = .returned (.agg (.int .i64 8 :: vs).toArray) ∧ Below W.heap.size W w') := fun W h1 h2 h3 h4 h5 => by
    refine (implHa_k h _ l s now d pc ps pd qc qs qd W h1 h2 h3 h4 (HT.out.keep h5)).mono ?_
    rintro e w' ⟨vs, rfl, -, -, hb⟩
    rw [HH2.out]
    exact ⟨_, rfl, hb⟩
  have KF : Hid (∀ W : World, sessionC.rep W h [.slice ph1 h.1.length qh1, .int .i64 h.2.1, .slice ph3 h.2.2.1.length qh3, .slice ph4 h.2.2.2.1.length qh4, .slice ph5 h.2.2.2.2.length qh5] → Calls Tryz.prog 11 #[.agg #[.slice ph1 h.1.length qh1, .int .i64 h.2.1, .slice ph3 h.2.2.1.length qh3, .slice ph4 h.2.2.2.1.length qh4, .slice ph5 h.2.2.2.2.length qh5]] W fun e w' => e = .returned (.int .i64 0) ∧ Below W.heap.size W w') := fun W hW => by
    have h := sessFault_k h _ W hW
    rw [HH1.out] at h
    exact h
  have KO : Hid (∀ W : World, sessionC.rep W h [.slice ph1 h.1.length qh1, .int .i64 h.2.1, .slice ph3 h.2.2.1.length qh3, .slice ph4 h.2.2.2.1.length qh4, .slice ph5 h.2.2.2.2.length qh5] → Calls Tryz.prog 12 #[.agg #[.slice ph1 h.1.length qh1, .int .i64 h.2.1, .slice ph3 h.2.2.1.length qh3, .slice ph4 h.2.2.2.1.length qh4, .slice ph5 h.2.2.2.2.length qh5], .int .i64 id, .int .i64 now] W fun e w' => e = .returned (.bool true) ∧ Below W.heap.size W w') := fun W hW => by
    have h := implHo_s h _ id now W hW (wf_h (by have := HH6.out; omega) (by have := HH6.out; omega))
    rw [HH5.out] at h
    exact h
  have h0 := (AH.cell 0).trans (show _ = some _ from rfl)
  have h1 := (AH.cell 1).trans (show _ = some _ from rfl)
  have h2 := (AH.cell 2).trans (show _ = some _ from rfl)
  have h3 := (AH.cell 3).trans (show _ = some _ from rfl)
  have h4 := (AH.cell 4).trans (show _ = some _ from rfl)
  have h5 := (AH.cell 5).trans (show _ = some _ from rfl)
  have h6 := (AH.cell 6).trans (show _ = some _ from rfl)
  go_wp2_with fail
  refine (KH.out _ RH RC RS RU BW).mono ?_
  rintro e w6 ⟨vs, rfl, hb⟩
  replace AX := AX.stay hb
  replace RX := sessionC.keep RX hb
  replace RT := RT.keep hb
  replace AZ := AZ.stay hb
  replace RZ := sessionC.keep RZ hb
  replace RC := RC.keep hb
  replace RS := RS.keep hb
  replace RU := RU.keep hb
  replace AY := AY.stay hb
  replace RY := sessionC.keep RY hb
  replace AH := AH.stay hb
  replace RH := sessionC.keep RH hb
  replace BW := Below.step BW hb
  clear h0 h1 h2 h3 h4 h5 h6
  have h0 := (AH.cell 0).trans (show _ = some _ from rfl)
  have h1 := (AH.cell 1).trans (show _ = some _ from rfl)
  have h2 := (AH.cell 2).trans (show _ = some _ from rfl)
  have h3 := (AH.cell 3).trans (show _ = some _ from rfl)
  have h4 := (AH.cell 4).trans (show _ = some _ from rfl)
  have h5 := (AH.cell 5).trans (show _ = some _ from rfl)
  have h6 := (AH.cell 6).trans (show _ = some _ from rfl)
  have y0 := (AY.cell 0).trans (show _ = some _ from rfl)
  have y1 := (AY.cell 1).trans (show _ = some _ from rfl)
  have y2 := (AY.cell 2).trans (show _ = some _ from rfl)
  have y3 := (AY.cell 3).trans (show _ = some _ from rfl)
  have y4 := (AY.cell 4).trans (show _ = some _ from rfl)
  clear hb KH
  have hwy : wrap64 ((y.2.2.2.1.length : Int) + 1) = (y.2.2.2.1.length : Int) + 1 := by have := HYL.out; unfold wrap64; omega
  have hwy2 : wrap64 ((y.2.2.1.length : Int) - 1) = (y.2.2.1.length : Int) - 1 := by have := HYL.out; unfold wrap64; omega
  have hm3 : ((h.2.2.2.1.length : Int) != (y.2.2.2.1.length : Int) + 1) = false := by have := HH3.out; rw [bne_eq_false_iff_eq]; omega
  have hm4 : ((h.2.2.1.length : Int) != (y.2.2.1.length : Int) - 1) = false := by have := HH4.out; rw [bne_eq_false_iff_eq]; omega
  obtain ⟨hbh3, hbh4, hbh5⟩ := ses_caps RH
  have hch3 := hbh3.1
  have hdh3 := hbh3.2
  have hch4 := hbh4.1
  have hdh4 := hbh4.2
  have hch5 := hbh5.1
  have hdh5 := hbh5.2
  clear hbh3 hbh4 hbh5
  obtain ⟨hby3, hby4, hby5⟩ := ses_caps RY
  have hcy3 := hby3.1
  have hdy3 := hby3.2
  have hcy4 := hby4.1
  have hdy4 := hby4.2
  have hcy5 := hby5.1
  have hdy5 := hby5.2
  clear hby3 hby4 hby5
  go_wp2_with fail
  refine (KF.out _ RH).mono ?_
  rintro e w7 ⟨rfl, hb⟩
  replace AX := AX.stay hb
  replace RX := sessionC.keep RX hb
  replace RT := RT.keep hb
  replace AZ := AZ.stay hb
  replace RZ := sessionC.keep RZ hb
  replace RC := RC.keep hb
  replace RS := RS.keep hb
  replace RU := RU.keep hb
  replace AY := AY.stay hb
  replace RY := sessionC.keep RY hb
  replace AH := AH.stay hb
  replace RH := sessionC.keep RH hb
  replace BW := Below.step BW hb
  clear h0 h1 h2 h3 h4 h5 h6
  clear y0 y1 y2 y3 y4
  have h0 := (AH.cell 0).trans (show _ = some _ from rfl)
  have h1 := (AH.cell 1).trans (show _ = some _ from rfl)
  have h2 := (AH.cell 2).trans (show _ = some _ from rfl)
  have h3 := (AH.cell 3).trans (show _ = some _ from rfl)
  have h4 := (AH.cell 4).trans (show _ = some _ from rfl)
  have h5 := (AH.cell 5).trans (show _ = some _ from rfl)
  have h6 := (AH.cell 6).trans (show _ = some _ from rfl)
  clear hb KF
  go_wp2_with fail
  refine (KO.out _ RH).mono ?_
  rintro e w8 ⟨rfl, hb⟩
  replace AX := AX.stay hb
  replace RX := sessionC.keep RX hb
  replace RT := RT.keep hb
  replace AZ := AZ.stay hb
  replace RZ := sessionC.keep RZ hb
  replace RC := RC.keep hb
  replace RS := RS.keep hb
  replace RU := RU.keep hb
  replace AY := AY.stay hb
  replace RY := sessionC.keep RY hb
  replace AH := AH.stay hb
  replace RH := sessionC.keep RH hb
  replace BW := Below.step BW hb
  clear h0 h1 h2 h3 h4 h5 h6
  clear hb KO
  have KA : Hid (∀ W : World, sessionC.rep W z [.slice pz1 z.1.length qz1, .int .i64 z.2.1, .slice pz3 z.2.2.1.length qz3, .slice pz4 z.2.2.2.1.length qz4, .slice pz5 z.2.2.2.2.length qz5] → Rd W pt qt tk → Calls Tryz.prog 6 #[.agg #[.slice pz1 z.1.length qz1, .int .i64 z.2.1, .slice pz3 z.2.2.1.length qz3, .slice pz4 z.2.2.2.1.length qz4, .slice pz5 z.2.2.2.2.length qz5], .slice pt tk.length qt] W fun e w' => ∃ vs : List Value, e = .returned (.agg (.int .i64 6 :: vs).toArray) ∧ Below W.heap.size W w') := fun W h1 h2 => by
    refine (implAc_k z _ tk pt qt W h1 h2).mono ?_
    rintro e w' ⟨vs, fp, rfl, ko, hb⟩
    rw [acD, if_neg (by rw [HZ2.out]; decide), HZ2.out] at ko
    obtain ⟨_, _, _, _, _, _, _, _, rfl, -⟩ := sessionResult_rep (sessionResultC.toRep ko)
    exact ⟨_, rfl, hb⟩
  have KZ : Hid (∀ W : World, sessionC.rep W z [.slice pz1 z.1.length qz1, .int .i64 z.2.1, .slice pz3 z.2.2.1.length qz3, .slice pz4 z.2.2.2.1.length qz4, .slice pz5 z.2.2.2.2.length qz5] → Calls Tryz.prog 11 #[.agg #[.slice pz1 z.1.length qz1, .int .i64 z.2.1, .slice pz3 z.2.2.1.length qz3, .slice pz4 z.2.2.2.1.length qz4, .slice pz5 z.2.2.2.2.length qz5]] W fun e w' => e = .returned (.int .i64 0) ∧ Below W.heap.size W w') := fun W hW => by
    have h := sessFault_k z _ W hW
    rw [HZ1.out] at h
    exact h
  have z0 := (AZ.cell 0).trans (show _ = some _ from rfl)
  have z1 := (AZ.cell 1).trans (show _ = some _ from rfl)
  have z2 := (AZ.cell 2).trans (show _ = some _ from rfl)
  have z3 := (AZ.cell 3).trans (show _ = some _ from rfl)
  have z4 := (AZ.cell 4).trans (show _ = some _ from rfl)
  have z5 := (AZ.cell 5).trans (show _ = some _ from rfl)
  have z6 := (AZ.cell 6).trans (show _ = some _ from rfl)
  go_wp2_with fail
  refine (KA.out _ RZ RT).mono ?_
  rintro e wa ⟨vs, rfl, hb⟩
  replace AX := AX.stay hb
  replace RX := sessionC.keep RX hb
  replace RT := RT.keep hb
  replace AZ := AZ.stay hb
  replace RZ := sessionC.keep RZ hb
  replace RC := RC.keep hb
  replace RS := RS.keep hb
  replace RU := RU.keep hb
  replace AY := AY.stay hb
  replace RY := sessionC.keep RY hb
  replace AH := AH.stay hb
  replace RH := sessionC.keep RH hb
  replace BW := Below.step BW hb
  clear z0 z1 z2 z3 z4 z5 z6
  have z0 := (AZ.cell 0).trans (show _ = some _ from rfl)
  have z1 := (AZ.cell 1).trans (show _ = some _ from rfl)
  have z2 := (AZ.cell 2).trans (show _ = some _ from rfl)
  have z3 := (AZ.cell 3).trans (show _ = some _ from rfl)
  have z4 := (AZ.cell 4).trans (show _ = some _ from rfl)
  have z5 := (AZ.cell 5).trans (show _ = some _ from rfl)
  have z6 := (AZ.cell 6).trans (show _ = some _ from rfl)
  clear hb
  go_wp2_with fail
  refine (KZ.out _ RZ).mono ?_
  rintro e wb ⟨rfl, hb⟩
  replace AX := AX.stay hb
  replace RX := sessionC.keep RX hb
  replace RT := RT.keep hb
  replace AZ := AZ.stay hb
  replace RZ := sessionC.keep RZ hb
  replace RC := RC.keep hb
  replace RS := RS.keep hb
  replace RU := RU.keep hb
  replace AY := AY.stay hb
  replace RY := sessionC.keep RY hb
  replace AH := AH.stay hb
  replace RH := sessionC.keep RH hb
  replace BW := Below.step BW hb
  clear z0 z1 z2 z3 z4 z5 z6
  have z0 := (AZ.cell 0).trans (show _ = some _ from rfl)
  have z1 := (AZ.cell 1).trans (show _ = some _ from rfl)
  have z2 := (AZ.cell 2).trans (show _ = some _ from rfl)
  have z3 := (AZ.cell 3).trans (show _ = some _ from rfl)
  have z4 := (AZ.cell 4).trans (show _ = some _ from rfl)
  have z5 := (AZ.cell 5).trans (show _ = some _ from rfl)
  have z6 := (AZ.cell 6).trans (show _ = some _ from rfl)
  have x0 := (AX.cell 0).trans (show _ = some _ from rfl)
  have x1 := (AX.cell 1).trans (show _ = some _ from rfl)
  have x2 := (AX.cell 2).trans (show _ = some _ from rfl)
  have x3 := (AX.cell 3).trans (show _ = some _ from rfl)
  have x4 := (AX.cell 4).trans (show _ = some _ from rfl)
  clear hb
  have hwx : wrap64 ((x.2.2.1.length : Int) + 1) = (x.2.2.1.length : Int) + 1 := by have := HXL.out; unfold wrap64; omega
  have hl3 : ((z.2.2.1.length : Int) == (x.2.2.1.length : Int) + 1) = true := by have := HZ3.out; rw [beq_iff_eq]; omega
  have hl4 : ((z.2.2.2.2.length : Int) == (x.2.2.2.2.length : Int)) = true := by have := HZ4.out; rw [beq_iff_eq]; omega
  obtain ⟨hbz3, hbz4, hbz5⟩ := ses_caps RZ
  have hcz3 := hbz3.1
  have hdz3 := hbz3.2
  have hcz4 := hbz4.1
  have hdz4 := hbz4.2
  have hcz5 := hbz5.1
  have hdz5 := hbz5.2
  clear hbz3 hbz4 hbz5
  obtain ⟨hbx3, hbx4, hbx5⟩ := ses_caps RX
  have hcx3 := hbx3.1
  have hdx3 := hbx3.2
  have hcx4 := hbx4.1
  have hdx4 := hbx4.2
  have hcx5 := hbx5.1
  have hdx5 := hbx5.2
  clear hbx3 hbx4 hbx5
  go_wp2_with fail
  go_ret
  exact ⟨rfl, BW⟩
end Go.Proofs.YtbaldmmbphbinaaGreatDoor

