/- The walk of FnHolds (written by tools/walk_holds.py). -/
import Derived.Test.YtflhoefocjmihaaDrawHo
import Derived.Test.YtflhoefocjmihaaSesO
import Derived.Test.YtflhoefocjmihaaSesM
import Derived.Test.YtflhoefocjmihaaSesT
import Derived.Test.YtflhoefocjmihaaJoint5
import Derived.Test.YtflhoefocjmihaaJoint4
namespace Go.Proofs.Ytflhoefocjmihaa
open Go.ChangeShapes Go.WideShapes Go.ChangeAt Go.RowKit

theorem wf_h {x : Int} (h1 : -9223372036854775808 ≤ x) (h2 : x ≤ 9223372036854775807) : (Lit.int .i64 x).wf = true := by
  have e1 : IntKind.i64.min = -9223372036854775808 := by kernel_rfl
  have e2 : IntKind.i64.max = 9223372036854775807 := by kernel_rfl
  simp only [Lit.wf, e1, e2, Bool.and_eq_true, decide_eq_true_eq]
  omega
theorem sesR_f0 (c : Int) (vs : List Value) (w : World) : (Instr.field 31 (.agg (.int .i64 c :: vs).toArray) 0).run Try.prog w = .ok (.int .i64 c) w := by kernel_rfl
set_option maxRecDepth 4000 in
set_option maxHeartbeats 8000000 in
theorem fnHolds_walk (a : Option Addr) (cap : Nat) (bs0 : List UInt8) (w : World) (r0 : Rd w a cap bs0) :
    Calls Try.prog 3 #[.slice a bs0.length cap] w fun e w' => e = .returned (.bool true) ∧ Below w.heap.size w w' := by
  by_cases hl0 : 1048576 < bs0.length
  · go_enter Try.func3, Try.ntmps3
    go_wp2_with fail
    refine (lwBig_yes _ _ _ _ hl0).mono ?_
    rintro e w1 ⟨rfl, rfl⟩
    go_wp2
    go_ret
    exact ⟨rfl, Below.refl _ _⟩
  replace hl0 : bs0.length ≤ 1048576 := by omega
  have HR0 : Hid (Rd w a cap bs0) := r0
  clear r0
  go_enter Try.func3, Try.ntmps3
  go_wp2_with fail
  refine (lwBig_no _ _ _ _ hl0).mono ?_
  rintro e w1 ⟨rfl, hw1⟩
  rw [hw1]
  clear hw1 w1
  go_wp2_with fail
  refine (drawRv_c _ _ bs0 _ HR0.out).mono ?_
  rintro e w1 ⟨x, vs, id, rfl, RX, hdd, hid, BW⟩
  obtain ⟨px1, qx1, px3, qx3, px4, qx4, px5, qx5, rfl, -, -, -, -⟩ := session_rep RX
  have HDX : Hid (hdC x.2.2.2.2 = hdS x.2.2.2.2) := hdd
  have HID : Hid (0 ≤ id ∧ id ≤ 100) := hid
  have hb := alloc_below w1 (.cells #[.slice px1 x.1.length qx1, .int .i64 x.2.1, .slice px3 x.2.2.1.length qx3, .slice px4 x.2.2.2.1.length qx4, .slice px5 x.2.2.2.2.length qx5] 27)
  have AX := Arr.new w1 [.slice px1 x.1.length qx1, .int .i64 x.2.1, .slice px3 x.2.2.1.length qx3, .slice px4 x.2.2.2.1.length qx4, .slice px5 x.2.2.2.2.length qx5] 27
  replace RX := sessionC.keep RX hb
  replace BW := Below.step BW hb
  clear hb hdd hid
  go_wp2_with fail
  generalize hV : w1.alloc (.cells #[.slice px1 x.1.length qx1, .int .i64 x.2.1, .slice px3 x.2.2.1.length qx3, .slice px4 x.2.2.2.1.length qx4, .slice px5 x.2.2.2.2.length qx5] 27) = V1 at *
  clear hV
  refine (drawTi_c _ _ bs0 V1 (HR0.out.keep BW)).mono ?_
  rintro e w2 ⟨y, vs, now, rfl, RY, hdd, hb⟩
  obtain ⟨py1, qy1, py3, qy3, py4, qy4, py5, qy5, rfl, -, -, -, -⟩ := session_rep RY
  have HDY : Hid (hdC y.2.2.2.2 = hdS y.2.2.2.2) := hdd
  replace AX := AX.stay hb
  replace RX := sessionC.keep RX hb
  replace BW := Below.step BW hb
  have hb2 := alloc_below w2 (.cells #[.slice py1 y.1.length qy1, .int .i64 y.2.1, .slice py3 y.2.2.1.length qy3, .slice py4 y.2.2.2.1.length qy4, .slice py5 y.2.2.2.2.length qy5] 27)
  have AY := Arr.new w2 [.slice py1 y.1.length qy1, .int .i64 y.2.1, .slice py3 y.2.2.1.length qy3, .slice py4 y.2.2.2.1.length qy4, .slice py5 y.2.2.2.2.length qy5] 27
  replace RY := sessionC.keep RY hb2
  replace AX := AX.stay hb2
  replace RX := sessionC.keep RX hb2
  replace BW := Below.step BW hb2
  clear hb hb2 hdd
  go_wp2_with fail
  generalize hV : w2.alloc (.cells #[.slice py1 y.1.length qy1, .int .i64 y.2.1, .slice py3 y.2.2.1.length qy3, .slice py4 y.2.2.2.1.length qy4, .slice py5 y.2.2.2.2.length qy5] 27) = V2 at *
  clear hV
  have y0 := (AY.cell 0).trans (show _ = some _ from rfl)
  have y1 := (AY.cell 1).trans (show _ = some _ from rfl)
  have y2 := (AY.cell 2).trans (show _ = some _ from rfl)
  have y3 := (AY.cell 3).trans (show _ = some _ from rfl)
  have y4 := (AY.cell 4).trans (show _ = some _ from rfl)
  refine (implTm_k y _ now V2 RY).mono ?_
  rintro e w3 ⟨us, fp, rfl, ko, hb⟩
  have KS : Hid (∀ W : World, sessionC.rep W y [.slice py1 y.1.length qy1, .int .i64 y.2.1, .slice py3 y.2.2.1.length qy3, .slice py4 y.2.2.2.1.length qy4, .slice py5 y.2.2.2.2.length qy5] → Calls Try.prog 8 #[.agg #[.slice py1 y.1.length qy1, .int .i64 y.2.1, .slice py3 y.2.2.1.length qy3, .slice py4 y.2.2.2.1.length qy4, .slice py5 y.2.2.2.2.length qy5], .int .i64 now] W fun e w' => ∃ vs : List Value, e = .returned (.agg (.int .i64 (tmC hdC y now) :: vs).toArray) ∧ Below W.heap.size W w') := fun W hW => by
    have h := specTi_k y _ now W hW
    rw [show tmC hdS y now = tmC hdC y now by unfold tmC; rw [se_agree HDY.out]] at h
    exact h
  have F1 := sesR_f0
  clear y0 y1 y2 y3 y4
  replace AX := AX.stay hb
  replace RX := sessionC.keep RX hb
  replace AY := AY.stay hb
  replace RY := sessionC.keep RY hb
  replace BW := Below.step BW hb
  clear hb
  by_cases ht : tmC hdC y now = 0
  · skip
    have hy : seF hdC y = 0 := by
      by_cases h : seF hdC y = 0
      · exact h
      · rw [tmC, if_neg h] at ht; exact absurd ht h
    obtain ⟨z, hz⟩ : ∃ z, timN y now = z := ⟨_, rfl⟩
    rw [tmD, if_pos ht, hz] at ko
    rw [ht] at KS
    have HZF : Hid (seF hdC z = 0) := by show _ = _; rw [← hz]; exact seC_iff.2 ((seC_iff.1 hy).tim now)
    have HZH : Hid (∀ k, hoB hdC z k now = hoB hdC y k now) := fun k => by rw [hoB, if_pos HZF.out, hoB, if_pos hy, ← hz]; exact hn_now
    clear hz hy ht
    have kr := sessionResultC.toRep ko
    obtain ⟨pz1, qz1, pz3, qz3, pz4, qz4, pz5, qz5, rfl, z1, z3, z4, z5⟩ := sessionResult_rep kr
    simp only [] at z1 z3 z4 z5
    have RZ : sessionC.rep w3 z [.slice pz1 z.1.length qz1, .int .i64 z.2.1, .slice pz3 z.2.2.1.length qz3, .slice pz4 z.2.2.2.1.length qz4, .slice pz5 z.2.2.2.2.length qz5] := session_mk z1 z3 z4 z5
    have hb := alloc_below w3 (.cells #[.int .i64 0, .int .i64 0, .slice pz1 z.1.length qz1, .int .i64 z.2.1, .slice pz3 z.2.2.1.length qz3, .slice pz4 z.2.2.2.1.length qz4, .slice pz5 z.2.2.2.2.length qz5] 31)
    have AZ := Arr.new w3 [.int .i64 0, .int .i64 0, .slice pz1 z.1.length qz1, .int .i64 z.2.1, .slice pz3 z.2.2.1.length qz3, .slice pz4 z.2.2.2.1.length qz4, .slice pz5 z.2.2.2.2.length qz5] 31
    replace RZ := sessionC.keep RZ hb
    replace AX := AX.stay hb
    replace RX := sessionC.keep RX hb
    replace AY := AY.stay hb
    replace RY := sessionC.keep RY hb
    replace BW := Below.step BW hb
    clear hb ko kr z1 z3 z4 z5
    go_wp2_with fail
    generalize hV : w3.alloc (.cells #[.int .i64 0, .int .i64 0, .slice pz1 z.1.length qz1, .int .i64 z.2.1, .slice pz3 z.2.2.1.length qz3, .slice pz4 z.2.2.2.1.length qz4, .slice pz5 z.2.2.2.2.length qz5] 31) = V3 at *
    clear hV
    have z0 := (AZ.cell 0).trans (show _ = some _ from rfl)
    have z1 := (AZ.cell 1).trans (show _ = some _ from rfl)
    have z2 := (AZ.cell 2).trans (show _ = some _ from rfl)
    have z3 := (AZ.cell 3).trans (show _ = some _ from rfl)
    have z4 := (AZ.cell 4).trans (show _ = some _ from rfl)
    have z5 := (AZ.cell 5).trans (show _ = some _ from rfl)
    have z6 := (AZ.cell 6).trans (show _ = some _ from rfl)
    have y0 := (AY.cell 0).trans (show _ = some _ from rfl)
    have y1 := (AY.cell 1).trans (show _ = some _ from rfl)
    have y2 := (AY.cell 2).trans (show _ = some _ from rfl)
    have y3 := (AY.cell 3).trans (show _ = some _ from rfl)
    have y4 := (AY.cell 4).trans (show _ = some _ from rfl)
    have hne := HW.some V3
    have gz0 := HW.at z0
    have gz1 := HW.at z1
    have gz2 := HW.at z2
    have gz3 := HW.at z3
    have gz4 := HW.at z4
    have gz5 := HW.at z5
    have gz6 := HW.at z6
    have gy0 := HW.at y0
    have gy1 := HW.at y1
    have gy2 := HW.at y2
    have gy3 := HW.at y3
    have gy4 := HW.at y4
    clear z0 z1 z2 z3 z4 z5 z6 y0 y1 y2 y3 y4
    refine wp_region_pick [0, 1, 2, 3] 6 2 1 rfl rfl rfl (by kernel_rfl) (by kernel_rfl) (by kernel_rfl) (by kernel_rfl) ?_
    simp only [opsAt, List.getElem?_toArray, List.getElem?_cons_zero, List.getElem?_cons_succ]
    repeat (go_big_quiet_step (fail))
    refine wpQuiet_nil ?_
    refine wpM_only (i := 4) (by kernel_rfl) ?_
    refine mOp_call rfl (by go_simp) 8 _ #[.agg #[.slice py1 y.1.length qy1, .int .i64 y.2.1, .slice py3 y.2.2.1.length qy3, .slice py4 y.2.2.2.1.length qy4, .slice py5 y.2.2.2.2.length qy5], .int .i64 now] (fun w => by go_simp) rfl ?_
    rintro _ ⟨sg0, rfl⟩
    refine (KS.out _ (sessionC.keep RY sg0.h)).mono ?_
    rintro e wg0 ⟨vs, rfl, hbx⟩
    have hbg := Below.step sg0.h hbx
    refine ⟨_, rfl, ⟨⟨wg0, hbx⟩, rfl⟩, ?_⟩
    replace AX := AX.stay hbg
    replace RX := sessionC.keep RX hbg
    replace AY := AY.stay hbg
    replace RY := sessionC.keep RY hbg
    replace AZ := AZ.stay hbg
    replace RZ := sessionC.keep RZ hbg
    replace BW := Below.step BW hbg
    replace hne := HW.some wg0
    clear hbg hbx gz0 gz1 gz2 gz3 gz4 gz5 gz6 gy0 gy1 gy2 gy3 gy4
    refine wpM_more [5] 1 0 rfl (by kernel_rfl) (by kernel_rfl) (by kernel_rfl) (by kernel_rfl) ?_
    simp only [opsAt, List.getElem?_toArray, List.getElem?_cons_zero, List.getElem?_cons_succ]
    go_simp
    repeat (go_big_quiet_step (fail))
    refine wpQuiet_nil ?_
    refine wpM_end (by kernel_rfl) rfl (by kernel_rfl) (by decide) ?_
    rintro _ ⟨sgz, rfl⟩
    simp only [List.drop_succ_cons, List.drop_zero]
    have hbg : Below _ _ sgz.w := sgz.h
    replace AX := AX.stay hbg
    replace RX := sessionC.keep RX hbg
    replace AY := AY.stay hbg
    replace RY := sessionC.keep RY hbg
    replace AZ := AZ.stay hbg
    replace RZ := sessionC.keep RZ hbg
    replace BW := Below.step BW hbg
    clear hbg hne
    generalize sgz.w = V4 at *
    clear sgz
    clear KS
    have HLV : Hid (Below w.heap.size w V4) := BW
    go_wp2_with fail
    go_loopw [8] (fun i wr => ∃ k : Nat, 1 ≤ k ∧ k ≤ 7 ∧ i = .int .i64 k ∧ Below V4.heap.size V4 wr)
      (fun i _ => 7 - (intOf i).toNat)
    case atStart => exact ⟨1, Nat.le_refl _, by decide, rfl, Below.refl _ _⟩
    case round =>
      obtain ⟨k, hk1, hk7, rfl, hb⟩ := hrel
      replace AX := AX.stay hb
      replace RX := sessionC.keep RX hb
      replace AY := AY.stay hb
      replace RY := sessionC.keep RY hb
      replace AZ := AZ.stay hb
      replace RZ := sessionC.keep RZ hb
      replace BW := Below.step BW hb
      have z0 := (AZ.cell 0).trans (show _ = some _ from rfl)
      have z1 := (AZ.cell 1).trans (show _ = some _ from rfl)
      have z2 := (AZ.cell 2).trans (show _ = some _ from rfl)
      have z3 := (AZ.cell 3).trans (show _ = some _ from rfl)
      have z4 := (AZ.cell 4).trans (show _ = some _ from rfl)
      have z5 := (AZ.cell 5).trans (show _ = some _ from rfl)
      have z6 := (AZ.cell 6).trans (show _ = some _ from rfl)
      have y0 := (AY.cell 0).trans (show _ = some _ from rfl)
      have y1 := (AY.cell 1).trans (show _ = some _ from rfl)
      have y2 := (AY.cell 2).trans (show _ = some _ from rfl)
      have y3 := (AY.cell 3).trans (show _ = some _ from rfl)
      have y4 := (AY.cell 4).trans (show _ = some _ from rfl)
      by_cases hlt : k ≤ 6
      · have hI : (k : Int) ≤ 6 := by omega
        have hkw : (Lit.int .i64 (k : Int)).wf = true := wf_h (by omega) (by omega)
        go_wp2_with fail
        have hne := HW.some wr
        have gz0 := HW.at z0
        have gz1 := HW.at z1
        have gz2 := HW.at z2
        have gz3 := HW.at z3
        have gz4 := HW.at z4
        have gz5 := HW.at z5
        have gz6 := HW.at z6
        have gy0 := HW.at y0
        have gy1 := HW.at y1
        have gy2 := HW.at y2
        have gy3 := HW.at y3
        have gy4 := HW.at y4
        clear z0 z1 z2 z3 z4 z5 z6 y0 y1 y2 y3 y4
        replace BW := hb
        refine wp_region_pick [0, 1, 2, 3, 5, 6, 7] 9 2 1 rfl rfl rfl (by kernel_rfl) (by kernel_rfl) (by kernel_rfl) (by kernel_rfl) ?_
        simp only [opsAt, List.getElem?_toArray, List.getElem?_cons_zero, List.getElem?_cons_succ]
        repeat (go_big_quiet_step (fail))
        refine wpQuiet_nil ?_
        refine wpM_only (i := 4) (by kernel_rfl) ?_
        refine mOp_call rfl (by go_simp) 9 _ #[.agg #[.slice pz1 z.1.length qz1, .int .i64 z.2.1, .slice pz3 z.2.2.1.length qz3, .slice pz4 z.2.2.2.1.length qz4, .slice pz5 z.2.2.2.2.length qz5], .int .i64 (k : Int), .int .i64 now] (fun w => by go_simp) rfl ?_
        rintro _ ⟨sg0, rfl⟩
        refine (implHo_k z _ (k : Int) now _ (sessionC.keep RZ sg0.h) hkw).mono ?_
        rintro e wg0 ⟨rfl, hbx⟩
        have hbg := Below.step sg0.h hbx
        refine ⟨_, rfl, ⟨⟨wg0, hbx⟩, rfl⟩, ?_⟩
        replace RY := sessionC.keep RY hbg
        replace RZ := sessionC.keep RZ hbg
        replace BW := Below.step BW hbg
        replace hne := HW.some wg0
        clear hbg hbx gz0 gz1 gz2 gz3 gz4 gz5 gz6 gy0 gy1 gy2 gy3 gy4
        refine wpM_only (i := 8) (by kernel_rfl) ?_
        refine mOp_call rfl (by go_simp) 9 _ #[.agg #[.slice py1 y.1.length qy1, .int .i64 y.2.1, .slice py3 y.2.2.1.length qy3, .slice py4 y.2.2.2.1.length qy4, .slice py5 y.2.2.2.2.length qy5], .int .i64 (k : Int), .int .i64 now] (fun w => by go_simp) rfl ?_
        rintro _ ⟨sg1, rfl⟩
        refine (implHo_k y _ (k : Int) now _ (sessionC.keep RY sg1.h) hkw).mono ?_
        rintro e wg1 ⟨rfl, hbx⟩
        have hbg := Below.step sg1.h hbx
        refine ⟨_, rfl, ⟨⟨wg1, hbx⟩, rfl⟩, ?_⟩
        replace RY := sessionC.keep RY hbg
        replace RZ := sessionC.keep RZ hbg
        replace BW := Below.step BW hbg
        replace hne := HW.some wg1
        clear hbg hbx
        refine wpM_end (by kernel_rfl) rfl (by kernel_rfl) (by decide) ?_
        rintro _ ⟨sgz, rfl⟩
        simp only [List.drop_succ_cons, List.drop_zero]
        have hbg : Below _ _ sgz.w := sgz.h
        replace RY := sessionC.keep RY hbg
        replace RZ := sessionC.keep RZ hbg
        replace BW := Below.step BW hbg
        clear hbg hne
        generalize sgz.w = V5 at *
        clear sgz
        rw [HZH.out (k : Int)]
        have dd : (hoB hdC y (k : Int) now != hoB hdC y (k : Int) now) = false := by rw [bne_eq_false_iff_eq]
        generalize hoB hdC y (k : Int) now = hh at *
        go_wp2_with fail
        go_roundw
        case rel => exact ⟨k + 1, by omega, by omega, by go_num, BW⟩
        case measure => simp [intOf]; omega
      · have hI : ¬ (k : Int) ≤ 6 := by omega
        clear hb
        have x0 := (AX.cell 0).trans (show _ = some _ from rfl)
        have x1 := (AX.cell 1).trans (show _ = some _ from rfl)
        have x2 := (AX.cell 2).trans (show _ = some _ from rfl)
        have x3 := (AX.cell 3).trans (show _ = some _ from rfl)
        have x4 := (AX.cell 4).trans (show _ = some _ from rfl)
        go_wp2_with fail
        clear z0 z1 z2 z3 z4 z5 z6 y0 y1 y2 y3 y4
        refine (implRv_k x _ id wr RX (wf_h (by have := HID.out; omega) (by have := HID.out; omega))).mono ?_
        rintro e w5 ⟨us, fp, rfl, ko, hb⟩
        replace AX := AX.stay hb
        replace RX := sessionC.keep RX hb
        replace AY := AY.stay hb
        replace RY := sessionC.keep RY hb
        replace AZ := AZ.stay hb
        replace RZ := sessionC.keep RZ hb
        replace BW := Below.step BW hb
        clear x0 x1 x2 x3 x4
        clear hb
        by_cases hr : rvC hdC x id = 0
        · have hx : seF hdC x = 0 := by
            by_cases h : seF hdC x = 0
            · exact h
            · rw [rvC, if_neg h] at hr; exact absurd hr h
          have hh : hasH x.2.2.2.2 id = true := by
            rw [rvC, if_pos hx] at hr
            cases h : hasH x.2.2.2.2 id
            · rw [h] at hr; exact absurd hr (by decide)
            · rfl
          obtain ⟨r, hr2⟩ : ∃ r, revN x id = r := ⟨_, rfl⟩
          rw [rvD, if_pos hr, hr2] at ko
          have HRF : Hid (seF hdC r = 0) := by show _ = _; rw [← hr2]; exact seC_iff.2 ((seC_iff.1 hx).rev id)
          have HRH : Hid (∀ k, hoB hdC r k 0 = (!(k == id) && hoB hdC x k 0)) := fun k => by rw [hoB, if_pos HRF.out, hoB, if_pos hx, ← hr2]; exact hn_go
          have HRL : Hid (r.2.2.2.2.length + 1 = x.2.2.2.2.length) := by show _ = _; rw [← hr2]; exact go_len (seC_iff.1 hx).rs hh
          have HR4 : Hid (rvC hdC r id = 4) := by show _ = _; rw [rvC, if_pos HRF.out, ← hr2, show hasH (revN x id).2.2.2.2 id = false from has_go]; rfl
          clear hr2 hx hh hr
          have kr := sessionResultC.toRep ko
          obtain ⟨pr1, qr1, pr3, qr3, pr4, qr4, pr5, qr5, rfl, r1, r3, r4, r5⟩ := sessionResult_rep kr
          simp only [] at r1 r3 r4 r5
          have RR : sessionC.rep w5 r [.slice pr1 r.1.length qr1, .int .i64 r.2.1, .slice pr3 r.2.2.1.length qr3, .slice pr4 r.2.2.2.1.length qr4, .slice pr5 r.2.2.2.2.length qr5] := session_mk r1 r3 r4 r5
          have hb := alloc_below w5 (.cells #[.int .i64 0, .int .i64 0, .slice pr1 r.1.length qr1, .int .i64 r.2.1, .slice pr3 r.2.2.1.length qr3, .slice pr4 r.2.2.2.1.length qr4, .slice pr5 r.2.2.2.2.length qr5] 31)
          have AR := Arr.new w5 [.int .i64 0, .int .i64 0, .slice pr1 r.1.length qr1, .int .i64 r.2.1, .slice pr3 r.2.2.1.length qr3, .slice pr4 r.2.2.2.1.length qr4, .slice pr5 r.2.2.2.2.length qr5] 31
          replace RR := sessionC.keep RR hb
          replace AX := AX.stay hb
          replace RX := sessionC.keep RX hb
          replace AY := AY.stay hb
          replace RY := sessionC.keep RY hb
          replace AZ := AZ.stay hb
          replace RZ := sessionC.keep RZ hb
          replace BW := Below.step BW hb
          clear hb ko kr r1 r3 r4 r5
          go_wp2_with fail
          generalize hV : w5.alloc (.cells #[.int .i64 0, .int .i64 0, .slice pr1 r.1.length qr1, .int .i64 r.2.1, .slice pr3 r.2.2.1.length qr3, .slice pr4 r.2.2.2.1.length qr4, .slice pr5 r.2.2.2.2.length qr5] 31) = V6 at *
          clear hV
          have r0 := (AR.cell 0).trans (show _ = some _ from rfl)
          have r1 := (AR.cell 1).trans (show _ = some _ from rfl)
          have r2 := (AR.cell 2).trans (show _ = some _ from rfl)
          have r3 := (AR.cell 3).trans (show _ = some _ from rfl)
          have r4 := (AR.cell 4).trans (show _ = some _ from rfl)
          have r5 := (AR.cell 5).trans (show _ = some _ from rfl)
          have r6 := (AR.cell 6).trans (show _ = some _ from rfl)
          go_wp2_with fail
          go_loopw [10] (fun i wr => ∃ k : Nat, 1 ≤ k ∧ k ≤ 7 ∧ i = .int .i64 k ∧ Below V6.heap.size V6 wr)
            (fun i _ => 7 - (intOf i).toNat)
          case atStart => exact ⟨1, Nat.le_refl _, by decide, rfl, Below.refl _ _⟩
          case round =>
            clear r0 r1 r2 r3 r4 r5 r6
            obtain ⟨k, hk1, hk7, rfl, hb⟩ := hrel
            replace AX := AX.stay hb
            replace RX := sessionC.keep RX hb
            replace AY := AY.stay hb
            replace RY := sessionC.keep RY hb
            replace AZ := AZ.stay hb
            replace RZ := sessionC.keep RZ hb
            replace AR := AR.stay hb
            replace RR := sessionC.keep RR hb
            replace BW := Below.step BW hb
            have r0 := (AR.cell 0).trans (show _ = some _ from rfl)
            have r1 := (AR.cell 1).trans (show _ = some _ from rfl)
            have r2 := (AR.cell 2).trans (show _ = some _ from rfl)
            have r3 := (AR.cell 3).trans (show _ = some _ from rfl)
            have r4 := (AR.cell 4).trans (show _ = some _ from rfl)
            have r5 := (AR.cell 5).trans (show _ = some _ from rfl)
            have r6 := (AR.cell 6).trans (show _ = some _ from rfl)
            have x0 := (AX.cell 0).trans (show _ = some _ from rfl)
            have x1 := (AX.cell 1).trans (show _ = some _ from rfl)
            have x2 := (AX.cell 2).trans (show _ = some _ from rfl)
            have x3 := (AX.cell 3).trans (show _ = some _ from rfl)
            have x4 := (AX.cell 4).trans (show _ = some _ from rfl)
            by_cases hlt : k ≤ 6
            · have hI : (k : Int) ≤ 6 := by omega
              have hkw : (Lit.int .i64 (k : Int)).wf = true := wf_h (by omega) (by omega)
              have HBK : Hid (Below V6.heap.size V6 wr) := hb
              go_wp2_with fail
              refine (implHo_k r _ (k : Int) 0 _ RR hkw).mono ?_
              rintro e w7 ⟨rfl, hb7⟩
              rw [HRH.out (k : Int)]
              replace AX := AX.stay hb7
              replace RX := sessionC.keep RX hb7
              clear x0 x1 x2 x3 x4
              clear r0 r1 r2 r3 r4 r5 r6
              have x0 := (AX.cell 0).trans (show _ = some _ from rfl)
              have x1 := (AX.cell 1).trans (show _ = some _ from rfl)
              have x2 := (AX.cell 2).trans (show _ = some _ from rfl)
              have x3 := (AX.cell 3).trans (show _ = some _ from rfl)
              have x4 := (AX.cell 4).trans (show _ = some _ from rfl)
              have HB7 := Below.step HBK.out hb7
              clear hb7 hb
              by_cases he : (k : Int) = id
              · have de : ((k : Int) != id) = false := by rw [bne_eq_false_iff_eq]; exact he
                have df : ((k : Int) == id) = true := by rw [beq_iff_eq]; exact he
                rw [df]
                clear he df
                go_wp2_with fail
                go_roundw
                case rel => exact ⟨k + 1, by omega, by omega, by go_num, HB7⟩
                case measure => simp [intOf]; omega
              · have de : ((k : Int) != id) = true := by rw [bne_iff_ne]; exact he
                have df : ((k : Int) == id) = false := by rw [beq_eq_false_iff_ne]; exact he
                rw [df]
                clear he df
                go_wp2_with fail
                refine (implHo_k x _ (k : Int) 0 _ RX hkw).mono ?_
                rintro e w8 ⟨rfl, hb8⟩
                have dh : ((!false && hoB hdC x (k : Int) 0) != hoB hdC x (k : Int) 0) = false := by rw [bne_eq_false_iff_eq]; rfl
                generalize hoB hdC x (k : Int) 0 = hh at *
                have HB8 := Below.step HB7 hb8
                clear hb8
                go_wp2_with fail
                go_roundw
                case rel => exact ⟨k + 1, by omega, by omega, by go_num, HB8⟩
                case measure => simp [intOf]; omega
            · have hI : ¬ (k : Int) ≤ 6 := by omega
              clear hb
              have KF : Hid (∀ W : World, sessionC.rep W r [.slice pr1 r.1.length qr1, .int .i64 r.2.1, .slice pr3 r.2.2.1.length qr3, .slice pr4 r.2.2.2.1.length qr4, .slice pr5 r.2.2.2.2.length qr5] → Calls Try.prog 12 #[.agg #[.slice pr1 r.1.length qr1, .int .i64 r.2.1, .slice pr3 r.2.2.1.length qr3, .slice pr4 r.2.2.2.1.length qr4, .slice pr5 r.2.2.2.2.length qr5]] W fun e w' => e = .returned (.int .i64 0) ∧ Below W.heap.size W w') := fun W hW => by
                have h := sessFault_k r _ W hW
                rw [HRF.out] at h
                exact h
              have KR : Hid (∀ W : World, sessionC.rep W r [.slice pr1 r.1.length qr1, .int .i64 r.2.1, .slice pr3 r.2.2.1.length qr3, .slice pr4 r.2.2.2.1.length qr4, .slice pr5 r.2.2.2.2.length qr5] → Calls Try.prog 10 #[.agg #[.slice pr1 r.1.length qr1, .int .i64 r.2.1, .slice pr3 r.2.2.1.length qr3, .slice pr4 r.2.2.2.1.length qr4, .slice pr5 r.2.2.2.2.length qr5], .int .i64 id] W fun e w' => ∃ vs : List Value, e = .returned (.agg (.int .i64 4 :: vs).toArray) ∧ Below W.heap.size W w') := fun W hW => by
                refine (implRv_k r _ id W hW (wf_h (by have := HID.out; omega) (by have := HID.out; omega))).mono ?_
                rintro e w' ⟨vs, fp, rfl, ko, hb⟩
                rw [rvD, if_neg (by rw [HR4.out]; decide), HR4.out] at ko
                obtain ⟨_, _, _, _, _, _, _, _, rfl, -⟩ := sessionResult_rep (sessionResultC.toRep ko)
                exact ⟨_, rfl, hb⟩
              have hxl : x.2.2.2.2.length ≤ qx5 := by obtain ⟨_, _, _, _, _, _, _, _, e9, -, -, -, r9⟩ := session_rep RX; simp only [List.cons.injEq, Value.slice.injEq, and_true, true_and] at e9; obtain ⟨-, -, -, -, rfl⟩ := e9; exact r9.1
              have hxq : qx5 ≤ 2 ^ 63 - 1 := by obtain ⟨_, _, _, _, _, _, _, _, e9, -, -, -, r9⟩ := session_rep RX; simp only [List.cons.injEq, Value.slice.injEq, and_true, true_and] at e9; obtain ⟨-, -, -, -, rfl⟩ := e9; exact r9.2.1
              have hll : wrap64 ((x.2.2.2.2.length : Int) - 1) = (r.2.2.2.2.length : Int) := by have := HRL.out; unfold wrap64; omega
              clear hxl hxq
              go_wp2_with fail
              refine (KF.out _ RR).mono ?_
              rintro e w7 ⟨rfl, hb7⟩
              replace AX := AX.stay hb7
              replace AR := AR.stay hb7
              replace RR := sessionC.keep RR hb7
              replace BW := Below.step BW hb7
              clear x0 x1 x2 x3 x4
              clear r0 r1 r2 r3 r4 r5 r6
              have x0 := (AX.cell 0).trans (show _ = some _ from rfl)
              have x1 := (AX.cell 1).trans (show _ = some _ from rfl)
              have x2 := (AX.cell 2).trans (show _ = some _ from rfl)
              have x3 := (AX.cell 3).trans (show _ = some _ from rfl)
              have x4 := (AX.cell 4).trans (show _ = some _ from rfl)
              have r0 := (AR.cell 0).trans (show _ = some _ from rfl)
              have r1 := (AR.cell 1).trans (show _ = some _ from rfl)
              have r2 := (AR.cell 2).trans (show _ = some _ from rfl)
              have r3 := (AR.cell 3).trans (show _ = some _ from rfl)
              have r4 := (AR.cell 4).trans (show _ = some _ from rfl)
              have r5 := (AR.cell 5).trans (show _ = some _ from rfl)
              have r6 := (AR.cell 6).trans (show _ = some _ from rfl)
              clear hb7
              go_wp2_with fail
              refine (KR.out _ RR).mono ?_
              rintro e w8 ⟨vs, rfl, hb8⟩
              have BE := Below.step BW hb8
              clear hb8
              go_wp2_with fail
              go_ret
              exact ⟨rfl, BE⟩
        · obtain ⟨r, hr2⟩ : ∃ r, zeroSes = r := ⟨_, rfl⟩
          rw [rvD, if_neg hr, hr2] at ko
          have KS : Hid (∀ W : World, sessionC.rep W x [.slice px1 x.1.length qx1, .int .i64 x.2.1, .slice px3 x.2.2.1.length qx3, .slice px4 x.2.2.2.1.length qx4, .slice px5 x.2.2.2.2.length qx5] → Calls Try.prog 11 #[.agg #[.slice px1 x.1.length qx1, .int .i64 x.2.1, .slice px3 x.2.2.1.length qx3, .slice px4 x.2.2.2.1.length qx4, .slice px5 x.2.2.2.2.length qx5], .int .i64 id] W fun e w' => ∃ vs : List Value, e = .returned (.agg (.int .i64 (rvC hdC x id) :: vs).toArray) ∧ Below W.heap.size W w') := fun W hW => by
            have he : rvC hdS x id = rvC hdC x id := by unfold rvC; rw [se_agree HDX.out]
            have h := specRv_bad x _ id W hW (by rw [he]; exact hr)
            rw [he] at h
            exact h
          generalize rvC hdC x id = d at *
          have dd : (d != 0) = true := by rw [bne_iff_ne]; exact hr
          clear hr2 hr
          have kr := sessionResultC.toRep ko
          obtain ⟨pr1, qr1, pr3, qr3, pr4, qr4, pr5, qr5, rfl, r1, r3, r4, r5⟩ := sessionResult_rep kr
          simp only [] at r1 r3 r4 r5
          have RR : sessionC.rep w5 r [.slice pr1 r.1.length qr1, .int .i64 r.2.1, .slice pr3 r.2.2.1.length qr3, .slice pr4 r.2.2.2.1.length qr4, .slice pr5 r.2.2.2.2.length qr5] := session_mk r1 r3 r4 r5
          have hb := alloc_below w5 (.cells #[.int .i64 d, .int .i64 0, .slice pr1 r.1.length qr1, .int .i64 r.2.1, .slice pr3 r.2.2.1.length qr3, .slice pr4 r.2.2.2.1.length qr4, .slice pr5 r.2.2.2.2.length qr5] 31)
          have AR := Arr.new w5 [.int .i64 d, .int .i64 0, .slice pr1 r.1.length qr1, .int .i64 r.2.1, .slice pr3 r.2.2.1.length qr3, .slice pr4 r.2.2.2.1.length qr4, .slice pr5 r.2.2.2.2.length qr5] 31
          replace RR := sessionC.keep RR hb
          replace AX := AX.stay hb
          replace RX := sessionC.keep RX hb
          replace AY := AY.stay hb
          replace RY := sessionC.keep RY hb
          replace AZ := AZ.stay hb
          replace RZ := sessionC.keep RZ hb
          replace BW := Below.step BW hb
          clear hb ko kr r1 r3 r4 r5
          go_wp2_with fail
          generalize hV : w5.alloc (.cells #[.int .i64 d, .int .i64 0, .slice pr1 r.1.length qr1, .int .i64 r.2.1, .slice pr3 r.2.2.1.length qr3, .slice pr4 r.2.2.2.1.length qr4, .slice pr5 r.2.2.2.2.length qr5] 31) = V6 at *
          clear hV
          have r0 := (AR.cell 0).trans (show _ = some _ from rfl)
          have r1 := (AR.cell 1).trans (show _ = some _ from rfl)
          have r2 := (AR.cell 2).trans (show _ = some _ from rfl)
          have r3 := (AR.cell 3).trans (show _ = some _ from rfl)
          have r4 := (AR.cell 4).trans (show _ = some _ from rfl)
          have r5 := (AR.cell 5).trans (show _ = some _ from rfl)
          have r6 := (AR.cell 6).trans (show _ = some _ from rfl)
          have x0 := (AX.cell 0).trans (show _ = some _ from rfl)
          have x1 := (AX.cell 1).trans (show _ = some _ from rfl)
          have x2 := (AX.cell 2).trans (show _ = some _ from rfl)
          have x3 := (AX.cell 3).trans (show _ = some _ from rfl)
          have x4 := (AX.cell 4).trans (show _ = some _ from rfl)
          have z0 := (AZ.cell 0).trans (show _ = some _ from rfl)
          have z1 := (AZ.cell 1).trans (show _ = some _ from rfl)
          have z2 := (AZ.cell 2).trans (show _ = some _ from rfl)
          have z3 := (AZ.cell 3).trans (show _ = some _ from rfl)
          have z4 := (AZ.cell 4).trans (show _ = some _ from rfl)
          have z5 := (AZ.cell 5).trans (show _ = some _ from rfl)
          have z6 := (AZ.cell 6).trans (show _ = some _ from rfl)
          have d2 : (d == d) = true := beq_self_eq_true d
          go_wp2_with fail
          have hne := HW.some V6
          have gr0 := HW.at r0
          have gr1 := HW.at r1
          have gr2 := HW.at r2
          have gr3 := HW.at r3
          have gr4 := HW.at r4
          have gr5 := HW.at r5
          have gr6 := HW.at r6
          have gx0 := HW.at x0
          have gx1 := HW.at x1
          have gx2 := HW.at x2
          have gx3 := HW.at x3
          have gx4 := HW.at x4
          have gz0 := HW.at z0
          have gz1 := HW.at z1
          have gz2 := HW.at z2
          have gz3 := HW.at z3
          have gz4 := HW.at z4
          have gz5 := HW.at z5
          have gz6 := HW.at z6
          clear r0 r1 r2 r3 r4 r5 r6 x0 x1 x2 x3 x4 z0 z1 z2 z3 z4 z5 z6
          have KF : Hid (∀ W : World, sessionC.rep W z [.slice pz1 z.1.length qz1, .int .i64 z.2.1, .slice pz3 z.2.2.1.length qz3, .slice pz4 z.2.2.2.1.length qz4, .slice pz5 z.2.2.2.2.length qz5] → Calls Try.prog 12 #[.agg #[.slice pz1 z.1.length qz1, .int .i64 z.2.1, .slice pz3 z.2.2.1.length qz3, .slice pz4 z.2.2.2.1.length qz4, .slice pz5 z.2.2.2.2.length qz5]] W fun e w' => e = .returned (.int .i64 0) ∧ Below W.heap.size W w') := fun W hW => by
            have h := sessFault_k z _ W hW
            rw [HZF.out] at h
            exact h
          refine wp_region_pick [0, 1, 4, 5] 18 14 1 rfl rfl rfl (by kernel_rfl) (by kernel_rfl) (by kernel_rfl) (by kernel_rfl) ?_
          simp only [opsAt, List.getElem?_toArray, List.getElem?_cons_zero, List.getElem?_cons_succ]
          repeat (go_big_quiet_step (fail))
          refine wpQuiet_nil ?_
          refine wpM_only (i := 2) (by kernel_rfl) ?_
          refine mOp_call rfl (by go_simp) 11 _ #[.agg #[.slice px1 x.1.length qx1, .int .i64 x.2.1, .slice px3 x.2.2.1.length qx3, .slice px4 x.2.2.2.1.length qx4, .slice px5 x.2.2.2.2.length qx5], .int .i64 id] (fun w => by go_simp) rfl ?_
          rintro _ ⟨sg0, rfl⟩
          refine (KS.out _ (sessionC.keep RX sg0.h)).mono ?_
          rintro e wg0 ⟨vs, rfl, hbx⟩
          have hbg := Below.step sg0.h hbx
          refine ⟨_, rfl, ⟨⟨wg0, hbx⟩, rfl⟩, ?_⟩
          replace gr0 := HW.down gr0 hbg
          replace gr1 := HW.down gr1 hbg
          replace gr2 := HW.down gr2 hbg
          replace gr3 := HW.down gr3 hbg
          replace gr4 := HW.down gr4 hbg
          replace gr5 := HW.down gr5 hbg
          replace gr6 := HW.down gr6 hbg
          replace gx0 := HW.down gx0 hbg
          replace gx1 := HW.down gx1 hbg
          replace gx2 := HW.down gx2 hbg
          replace gx3 := HW.down gx3 hbg
          replace gx4 := HW.down gx4 hbg
          replace gz0 := HW.down gz0 hbg
          replace gz1 := HW.down gz1 hbg
          replace gz2 := HW.down gz2 hbg
          replace gz3 := HW.down gz3 hbg
          replace gz4 := HW.down gz4 hbg
          replace gz5 := HW.down gz5 hbg
          replace gz6 := HW.down gz6 hbg
          replace RX := sessionC.keep RX hbg
          replace RZ := sessionC.keep RZ hbg
          replace BW := Below.step BW hbg
          replace hne := HW.some wg0
          clear hbg hbx
          refine wpM_more [3, 6, 7, 8, 9, 10, 11, 12, 13] 13 4 rfl (by kernel_rfl) (by kernel_rfl) (by kernel_rfl) (by kernel_rfl) ?_
          simp only [opsAt, List.getElem?_toArray, List.getElem?_cons_zero, List.getElem?_cons_succ]
          go_simp
          repeat (go_big_quiet_step (fail))
          refine wpQuiet_nil ?_
          refine wpM_only (i := 14) (by kernel_rfl) ?_
          refine mOp_call rfl (by go_simp) 12 _ #[.agg #[.slice pz1 z.1.length qz1, .int .i64 z.2.1, .slice pz3 z.2.2.1.length qz3, .slice pz4 z.2.2.2.1.length qz4, .slice pz5 z.2.2.2.2.length qz5]] (fun w => by go_simp) rfl ?_
          rintro _ ⟨sg2, rfl⟩
          refine (KF.out _ (sessionC.keep RZ sg2.h)).mono ?_
          rintro e wg2 ⟨rfl, hbx⟩
          have hbg := Below.step sg2.h hbx
          refine ⟨_, rfl, ⟨⟨wg2, hbx⟩, rfl⟩, ?_⟩
          replace gr0 := HW.down gr0 hbg
          replace gr1 := HW.down gr1 hbg
          replace gr2 := HW.down gr2 hbg
          replace gr3 := HW.down gr3 hbg
          replace gr4 := HW.down gr4 hbg
          replace gr5 := HW.down gr5 hbg
          replace gr6 := HW.down gr6 hbg
          replace gx0 := HW.down gx0 hbg
          replace gx1 := HW.down gx1 hbg
          replace gx2 := HW.down gx2 hbg
          replace gx3 := HW.down gx3 hbg
          replace gx4 := HW.down gx4 hbg
          replace gz0 := HW.down gz0 hbg
          replace gz1 := HW.down gz1 hbg
          replace gz2 := HW.down gz2 hbg
          replace gz3 := HW.down gz3 hbg
          replace gz4 := HW.down gz4 hbg
          replace gz5 := HW.down gz5 hbg
          replace gz6 := HW.down gz6 hbg
          replace RX := sessionC.keep RX hbg
          replace RZ := sessionC.keep RZ hbg
          replace BW := Below.step BW hbg
          replace hne := HW.some wg2
          clear hbg hbx
          refine wpM_more [15, 16, 17] 3 0 rfl (by kernel_rfl) (by kernel_rfl) (by kernel_rfl) (by kernel_rfl) ?_
          simp only [opsAt, List.getElem?_toArray, List.getElem?_cons_zero, List.getElem?_cons_succ]
          go_simp
          repeat (go_big_quiet_step (fail))
          refine wpQuiet_nil ?_
          refine wpM_end (by kernel_rfl) rfl (by kernel_rfl) (by decide) ?_
          rintro _ ⟨sgz, rfl⟩
          simp only [List.drop_succ_cons, List.drop_zero]
          go_wp2
          go_ret
          exact ⟨rfl, Below.step BW sgz.h⟩
  · skip
    obtain ⟨z, hz⟩ : ∃ z, zeroSes = z := ⟨_, rfl⟩
    rw [tmD, if_neg ht, hz] at ko
    generalize tmC hdC y now = c at *
    have dc : (c == 0) = false := by rw [beq_eq_false_iff_ne]; exact ht
    have dn : (c != 0) = true := by rw [bne_iff_ne]; exact ht
    clear hz ht
    have kr := sessionResultC.toRep ko
    obtain ⟨pz1, qz1, pz3, qz3, pz4, qz4, pz5, qz5, rfl, z1, z3, z4, z5⟩ := sessionResult_rep kr
    simp only [] at z1 z3 z4 z5
    have RZ : sessionC.rep w3 z [.slice pz1 z.1.length qz1, .int .i64 z.2.1, .slice pz3 z.2.2.1.length qz3, .slice pz4 z.2.2.2.1.length qz4, .slice pz5 z.2.2.2.2.length qz5] := session_mk z1 z3 z4 z5
    have hb := alloc_below w3 (.cells #[.int .i64 c, .int .i64 0, .slice pz1 z.1.length qz1, .int .i64 z.2.1, .slice pz3 z.2.2.1.length qz3, .slice pz4 z.2.2.2.1.length qz4, .slice pz5 z.2.2.2.2.length qz5] 31)
    have AZ := Arr.new w3 [.int .i64 c, .int .i64 0, .slice pz1 z.1.length qz1, .int .i64 z.2.1, .slice pz3 z.2.2.1.length qz3, .slice pz4 z.2.2.2.1.length qz4, .slice pz5 z.2.2.2.2.length qz5] 31
    replace RZ := sessionC.keep RZ hb
    replace AX := AX.stay hb
    replace RX := sessionC.keep RX hb
    replace AY := AY.stay hb
    replace RY := sessionC.keep RY hb
    replace BW := Below.step BW hb
    clear hb ko kr z1 z3 z4 z5
    go_wp2_with fail
    generalize hV : w3.alloc (.cells #[.int .i64 c, .int .i64 0, .slice pz1 z.1.length qz1, .int .i64 z.2.1, .slice pz3 z.2.2.1.length qz3, .slice pz4 z.2.2.2.1.length qz4, .slice pz5 z.2.2.2.2.length qz5] 31) = V3 at *
    clear hV
    have z0 := (AZ.cell 0).trans (show _ = some _ from rfl)
    have z1 := (AZ.cell 1).trans (show _ = some _ from rfl)
    have z2 := (AZ.cell 2).trans (show _ = some _ from rfl)
    have z3 := (AZ.cell 3).trans (show _ = some _ from rfl)
    have z4 := (AZ.cell 4).trans (show _ = some _ from rfl)
    have z5 := (AZ.cell 5).trans (show _ = some _ from rfl)
    have z6 := (AZ.cell 6).trans (show _ = some _ from rfl)
    have y0 := (AY.cell 0).trans (show _ = some _ from rfl)
    have y1 := (AY.cell 1).trans (show _ = some _ from rfl)
    have y2 := (AY.cell 2).trans (show _ = some _ from rfl)
    have y3 := (AY.cell 3).trans (show _ = some _ from rfl)
    have y4 := (AY.cell 4).trans (show _ = some _ from rfl)
    have hne := HW.some V3
    have gz0 := HW.at z0
    have gz1 := HW.at z1
    have gz2 := HW.at z2
    have gz3 := HW.at z3
    have gz4 := HW.at z4
    have gz5 := HW.at z5
    have gz6 := HW.at z6
    have gy0 := HW.at y0
    have gy1 := HW.at y1
    have gy2 := HW.at y2
    have gy3 := HW.at y3
    have gy4 := HW.at y4
    clear z0 z1 z2 z3 z4 z5 z6 y0 y1 y2 y3 y4
    refine wp_region_pick [0, 1, 2, 3] 6 2 1 rfl rfl rfl (by kernel_rfl) (by kernel_rfl) (by kernel_rfl) (by kernel_rfl) ?_
    simp only [opsAt, List.getElem?_toArray, List.getElem?_cons_zero, List.getElem?_cons_succ]
    repeat (go_big_quiet_step (fail))
    refine wpQuiet_nil ?_
    refine wpM_only (i := 4) (by kernel_rfl) ?_
    refine mOp_call rfl (by go_simp) 8 _ #[.agg #[.slice py1 y.1.length qy1, .int .i64 y.2.1, .slice py3 y.2.2.1.length qy3, .slice py4 y.2.2.2.1.length qy4, .slice py5 y.2.2.2.2.length qy5], .int .i64 now] (fun w => by go_simp) rfl ?_
    rintro _ ⟨sg0, rfl⟩
    refine (KS.out _ (sessionC.keep RY sg0.h)).mono ?_
    rintro e wg0 ⟨vs, rfl, hbx⟩
    have hbg := Below.step sg0.h hbx
    refine ⟨_, rfl, ⟨⟨wg0, hbx⟩, rfl⟩, ?_⟩
    replace AX := AX.stay hbg
    replace RX := sessionC.keep RX hbg
    replace AY := AY.stay hbg
    replace RY := sessionC.keep RY hbg
    replace AZ := AZ.stay hbg
    replace RZ := sessionC.keep RZ hbg
    replace BW := Below.step BW hbg
    replace hne := HW.some wg0
    clear hbg hbx gz0 gz1 gz2 gz3 gz4 gz5 gz6 gy0 gy1 gy2 gy3 gy4
    refine wpM_more [5] 1 0 rfl (by kernel_rfl) (by kernel_rfl) (by kernel_rfl) (by kernel_rfl) ?_
    simp only [opsAt, List.getElem?_toArray, List.getElem?_cons_zero, List.getElem?_cons_succ]
    go_simp
    repeat (go_big_quiet_step (fail))
    refine wpQuiet_nil ?_
    refine wpM_end (by kernel_rfl) rfl (by kernel_rfl) (by decide) ?_
    rintro _ ⟨sgz, rfl⟩
    simp only [List.drop_succ_cons, List.drop_zero]
    have hbg : Below _ _ sgz.w := sgz.h
    replace AX := AX.stay hbg
    replace RX := sessionC.keep RX hbg
    replace AY := AY.stay hbg
    replace RY := sessionC.keep RY hbg
    replace AZ := AZ.stay hbg
    replace RZ := sessionC.keep RZ hbg
    replace BW := Below.step BW hbg
    clear hbg hne
    generalize sgz.w = V4 at *
    clear sgz
    clear KS
    go_wp2_with fail
    go_loopw [8] (fun i wr => i = .int .i64 1 ∧ wr = V4)
      (fun _ _ => 0)
    case atStart => exact ⟨rfl, rfl⟩
    case round =>
      obtain ⟨rfl, hw⟩ := hrel
      rw [hw]
      clear hw wr
      have z0 := (AZ.cell 0).trans (show _ = some _ from rfl)
      have z1 := (AZ.cell 1).trans (show _ = some _ from rfl)
      have z2 := (AZ.cell 2).trans (show _ = some _ from rfl)
      have z3 := (AZ.cell 3).trans (show _ = some _ from rfl)
      have z4 := (AZ.cell 4).trans (show _ = some _ from rfl)
      have z5 := (AZ.cell 5).trans (show _ = some _ from rfl)
      have z6 := (AZ.cell 6).trans (show _ = some _ from rfl)
      have x0 := (AX.cell 0).trans (show _ = some _ from rfl)
      have x1 := (AX.cell 1).trans (show _ = some _ from rfl)
      have x2 := (AX.cell 2).trans (show _ = some _ from rfl)
      have x3 := (AX.cell 3).trans (show _ = some _ from rfl)
      have x4 := (AX.cell 4).trans (show _ = some _ from rfl)
      go_wp2_with fail
      clear z0 z1 z2 z3 z4 z5 z6
      refine (implRv_k x _ id V4 RX (wf_h (by have := HID.out; omega) (by have := HID.out; omega))).mono ?_
      rintro e w5 ⟨us, fp, rfl, ko, hb⟩
      replace AX := AX.stay hb
      replace RX := sessionC.keep RX hb
      replace AY := AY.stay hb
      replace RY := sessionC.keep RY hb
      replace AZ := AZ.stay hb
      replace RZ := sessionC.keep RZ hb
      replace BW := Below.step BW hb
      clear x0 x1 x2 x3 x4
      clear hb
      by_cases hr : rvC hdC x id = 0
      · have hx : seF hdC x = 0 := by
          by_cases h : seF hdC x = 0
          · exact h
          · rw [rvC, if_neg h] at hr; exact absurd hr h
        have hh : hasH x.2.2.2.2 id = true := by
          rw [rvC, if_pos hx] at hr
          cases h : hasH x.2.2.2.2 id
          · rw [h] at hr; exact absurd hr (by decide)
          · rfl
        obtain ⟨r, hr2⟩ : ∃ r, revN x id = r := ⟨_, rfl⟩
        rw [rvD, if_pos hr, hr2] at ko
        have HRF : Hid (seF hdC r = 0) := by show _ = _; rw [← hr2]; exact seC_iff.2 ((seC_iff.1 hx).rev id)
        have HRH : Hid (∀ k, hoB hdC r k 0 = (!(k == id) && hoB hdC x k 0)) := fun k => by rw [hoB, if_pos HRF.out, hoB, if_pos hx, ← hr2]; exact hn_go
        have HRL : Hid (r.2.2.2.2.length + 1 = x.2.2.2.2.length) := by show _ = _; rw [← hr2]; exact go_len (seC_iff.1 hx).rs hh
        have HR4 : Hid (rvC hdC r id = 4) := by show _ = _; rw [rvC, if_pos HRF.out, ← hr2, show hasH (revN x id).2.2.2.2 id = false from has_go]; rfl
        clear hr2 hx hh hr
        have kr := sessionResultC.toRep ko
        obtain ⟨pr1, qr1, pr3, qr3, pr4, qr4, pr5, qr5, rfl, r1, r3, r4, r5⟩ := sessionResult_rep kr
        simp only [] at r1 r3 r4 r5
        have RR : sessionC.rep w5 r [.slice pr1 r.1.length qr1, .int .i64 r.2.1, .slice pr3 r.2.2.1.length qr3, .slice pr4 r.2.2.2.1.length qr4, .slice pr5 r.2.2.2.2.length qr5] := session_mk r1 r3 r4 r5
        have hb := alloc_below w5 (.cells #[.int .i64 0, .int .i64 0, .slice pr1 r.1.length qr1, .int .i64 r.2.1, .slice pr3 r.2.2.1.length qr3, .slice pr4 r.2.2.2.1.length qr4, .slice pr5 r.2.2.2.2.length qr5] 31)
        have AR := Arr.new w5 [.int .i64 0, .int .i64 0, .slice pr1 r.1.length qr1, .int .i64 r.2.1, .slice pr3 r.2.2.1.length qr3, .slice pr4 r.2.2.2.1.length qr4, .slice pr5 r.2.2.2.2.length qr5] 31
        replace RR := sessionC.keep RR hb
        replace AX := AX.stay hb
        replace RX := sessionC.keep RX hb
        replace AY := AY.stay hb
        replace RY := sessionC.keep RY hb
        replace AZ := AZ.stay hb
        replace RZ := sessionC.keep RZ hb
        replace BW := Below.step BW hb
        clear hb ko kr r1 r3 r4 r5
        go_wp2_with fail
        generalize hV : w5.alloc (.cells #[.int .i64 0, .int .i64 0, .slice pr1 r.1.length qr1, .int .i64 r.2.1, .slice pr3 r.2.2.1.length qr3, .slice pr4 r.2.2.2.1.length qr4, .slice pr5 r.2.2.2.2.length qr5] 31) = V6 at *
        clear hV
        have r0 := (AR.cell 0).trans (show _ = some _ from rfl)
        have r1 := (AR.cell 1).trans (show _ = some _ from rfl)
        have r2 := (AR.cell 2).trans (show _ = some _ from rfl)
        have r3 := (AR.cell 3).trans (show _ = some _ from rfl)
        have r4 := (AR.cell 4).trans (show _ = some _ from rfl)
        have r5 := (AR.cell 5).trans (show _ = some _ from rfl)
        have r6 := (AR.cell 6).trans (show _ = some _ from rfl)
        go_wp2_with fail
        go_loopw [10] (fun i wr => ∃ k : Nat, 1 ≤ k ∧ k ≤ 7 ∧ i = .int .i64 k ∧ Below V6.heap.size V6 wr)
          (fun i _ => 7 - (intOf i).toNat)
        case atStart => exact ⟨1, Nat.le_refl _, by decide, rfl, Below.refl _ _⟩
        case round =>
          clear r0 r1 r2 r3 r4 r5 r6
          obtain ⟨k, hk1, hk7, rfl, hb⟩ := hrel
          replace AX := AX.stay hb
          replace RX := sessionC.keep RX hb
          replace AY := AY.stay hb
          replace RY := sessionC.keep RY hb
          replace AZ := AZ.stay hb
          replace RZ := sessionC.keep RZ hb
          replace AR := AR.stay hb
          replace RR := sessionC.keep RR hb
          replace BW := Below.step BW hb
          have r0 := (AR.cell 0).trans (show _ = some _ from rfl)
          have r1 := (AR.cell 1).trans (show _ = some _ from rfl)
          have r2 := (AR.cell 2).trans (show _ = some _ from rfl)
          have r3 := (AR.cell 3).trans (show _ = some _ from rfl)
          have r4 := (AR.cell 4).trans (show _ = some _ from rfl)
          have r5 := (AR.cell 5).trans (show _ = some _ from rfl)
          have r6 := (AR.cell 6).trans (show _ = some _ from rfl)
          have x0 := (AX.cell 0).trans (show _ = some _ from rfl)
          have x1 := (AX.cell 1).trans (show _ = some _ from rfl)
          have x2 := (AX.cell 2).trans (show _ = some _ from rfl)
          have x3 := (AX.cell 3).trans (show _ = some _ from rfl)
          have x4 := (AX.cell 4).trans (show _ = some _ from rfl)
          by_cases hlt : k ≤ 6
          · have hI : (k : Int) ≤ 6 := by omega
            have hkw : (Lit.int .i64 (k : Int)).wf = true := wf_h (by omega) (by omega)
            have HBK : Hid (Below V6.heap.size V6 wr) := hb
            go_wp2_with fail
            refine (implHo_k r _ (k : Int) 0 _ RR hkw).mono ?_
            rintro e w7 ⟨rfl, hb7⟩
            rw [HRH.out (k : Int)]
            replace AX := AX.stay hb7
            replace RX := sessionC.keep RX hb7
            clear x0 x1 x2 x3 x4
            clear r0 r1 r2 r3 r4 r5 r6
            have x0 := (AX.cell 0).trans (show _ = some _ from rfl)
            have x1 := (AX.cell 1).trans (show _ = some _ from rfl)
            have x2 := (AX.cell 2).trans (show _ = some _ from rfl)
            have x3 := (AX.cell 3).trans (show _ = some _ from rfl)
            have x4 := (AX.cell 4).trans (show _ = some _ from rfl)
            have HB7 := Below.step HBK.out hb7
            clear hb7 hb
            by_cases he : (k : Int) = id
            · have de : ((k : Int) != id) = false := by rw [bne_eq_false_iff_eq]; exact he
              have df : ((k : Int) == id) = true := by rw [beq_iff_eq]; exact he
              rw [df]
              clear he df
              go_wp2_with fail
              go_roundw
              case rel => exact ⟨k + 1, by omega, by omega, by go_num, HB7⟩
              case measure => simp [intOf]; omega
            · have de : ((k : Int) != id) = true := by rw [bne_iff_ne]; exact he
              have df : ((k : Int) == id) = false := by rw [beq_eq_false_iff_ne]; exact he
              rw [df]
              clear he df
              go_wp2_with fail
              refine (implHo_k x _ (k : Int) 0 _ RX hkw).mono ?_
              rintro e w8 ⟨rfl, hb8⟩
              have dh : ((!false && hoB hdC x (k : Int) 0) != hoB hdC x (k : Int) 0) = false := by rw [bne_eq_false_iff_eq]; rfl
              generalize hoB hdC x (k : Int) 0 = hh at *
              have HB8 := Below.step HB7 hb8
              clear hb8
              go_wp2_with fail
              go_roundw
              case rel => exact ⟨k + 1, by omega, by omega, by go_num, HB8⟩
              case measure => simp [intOf]; omega
          · have hI : ¬ (k : Int) ≤ 6 := by omega
            clear hb
            have KF : Hid (∀ W : World, sessionC.rep W r [.slice pr1 r.1.length qr1, .int .i64 r.2.1, .slice pr3 r.2.2.1.length qr3, .slice pr4 r.2.2.2.1.length qr4, .slice pr5 r.2.2.2.2.length qr5] → Calls Try.prog 12 #[.agg #[.slice pr1 r.1.length qr1, .int .i64 r.2.1, .slice pr3 r.2.2.1.length qr3, .slice pr4 r.2.2.2.1.length qr4, .slice pr5 r.2.2.2.2.length qr5]] W fun e w' => e = .returned (.int .i64 0) ∧ Below W.heap.size W w') := fun W hW => by
              have h := sessFault_k r _ W hW
              rw [HRF.out] at h
              exact h
            have KR : Hid (∀ W : World, sessionC.rep W r [.slice pr1 r.1.length qr1, .int .i64 r.2.1, .slice pr3 r.2.2.1.length qr3, .slice pr4 r.2.2.2.1.length qr4, .slice pr5 r.2.2.2.2.length qr5] → Calls Try.prog 10 #[.agg #[.slice pr1 r.1.length qr1, .int .i64 r.2.1, .slice pr3 r.2.2.1.length qr3, .slice pr4 r.2.2.2.1.length qr4, .slice pr5 r.2.2.2.2.length qr5], .int .i64 id] W fun e w' => ∃ vs : List Value, e = .returned (.agg (.int .i64 4 :: vs).toArray) ∧ Below W.heap.size W w') := fun W hW => by
              refine (implRv_k r _ id W hW (wf_h (by have := HID.out; omega) (by have := HID.out; omega))).mono ?_
              rintro e w' ⟨vs, fp, rfl, ko, hb⟩
              rw [rvD, if_neg (by rw [HR4.out]; decide), HR4.out] at ko
              obtain ⟨_, _, _, _, _, _, _, _, rfl, -⟩ := sessionResult_rep (sessionResultC.toRep ko)
              exact ⟨_, rfl, hb⟩
            have hxl : x.2.2.2.2.length ≤ qx5 := by obtain ⟨_, _, _, _, _, _, _, _, e9, -, -, -, r9⟩ := session_rep RX; simp only [List.cons.injEq, Value.slice.injEq, and_true, true_and] at e9; obtain ⟨-, -, -, -, rfl⟩ := e9; exact r9.1
            have hxq : qx5 ≤ 2 ^ 63 - 1 := by obtain ⟨_, _, _, _, _, _, _, _, e9, -, -, -, r9⟩ := session_rep RX; simp only [List.cons.injEq, Value.slice.injEq, and_true, true_and] at e9; obtain ⟨-, -, -, -, rfl⟩ := e9; exact r9.2.1
            have hll : wrap64 ((x.2.2.2.2.length : Int) - 1) = (r.2.2.2.2.length : Int) := by have := HRL.out; unfold wrap64; omega
            clear hxl hxq
            go_wp2_with fail
            refine (KF.out _ RR).mono ?_
            rintro e w7 ⟨rfl, hb7⟩
            replace AX := AX.stay hb7
            replace AR := AR.stay hb7
            replace RR := sessionC.keep RR hb7
            replace BW := Below.step BW hb7
            clear x0 x1 x2 x3 x4
            clear r0 r1 r2 r3 r4 r5 r6
            have x0 := (AX.cell 0).trans (show _ = some _ from rfl)
            have x1 := (AX.cell 1).trans (show _ = some _ from rfl)
            have x2 := (AX.cell 2).trans (show _ = some _ from rfl)
            have x3 := (AX.cell 3).trans (show _ = some _ from rfl)
            have x4 := (AX.cell 4).trans (show _ = some _ from rfl)
            have r0 := (AR.cell 0).trans (show _ = some _ from rfl)
            have r1 := (AR.cell 1).trans (show _ = some _ from rfl)
            have r2 := (AR.cell 2).trans (show _ = some _ from rfl)
            have r3 := (AR.cell 3).trans (show _ = some _ from rfl)
            have r4 := (AR.cell 4).trans (show _ = some _ from rfl)
            have r5 := (AR.cell 5).trans (show _ = some _ from rfl)
            have r6 := (AR.cell 6).trans (show _ = some _ from rfl)
            clear hb7
            go_wp2_with fail
            refine (KR.out _ RR).mono ?_
            rintro e w8 ⟨vs, rfl, hb8⟩
            have BE := Below.step BW hb8
            clear hb8
            go_wp2_with fail
            go_ret
            exact ⟨rfl, BE⟩
      · obtain ⟨r, hr2⟩ : ∃ r, zeroSes = r := ⟨_, rfl⟩
        rw [rvD, if_neg hr, hr2] at ko
        have KS : Hid (∀ W : World, sessionC.rep W x [.slice px1 x.1.length qx1, .int .i64 x.2.1, .slice px3 x.2.2.1.length qx3, .slice px4 x.2.2.2.1.length qx4, .slice px5 x.2.2.2.2.length qx5] → Calls Try.prog 11 #[.agg #[.slice px1 x.1.length qx1, .int .i64 x.2.1, .slice px3 x.2.2.1.length qx3, .slice px4 x.2.2.2.1.length qx4, .slice px5 x.2.2.2.2.length qx5], .int .i64 id] W fun e w' => ∃ vs : List Value, e = .returned (.agg (.int .i64 (rvC hdC x id) :: vs).toArray) ∧ Below W.heap.size W w') := fun W hW => by
          have he : rvC hdS x id = rvC hdC x id := by unfold rvC; rw [se_agree HDX.out]
          have h := specRv_bad x _ id W hW (by rw [he]; exact hr)
          rw [he] at h
          exact h
        generalize rvC hdC x id = d at *
        have dd : (d != 0) = true := by rw [bne_iff_ne]; exact hr
        clear hr2 hr
        have kr := sessionResultC.toRep ko
        obtain ⟨pr1, qr1, pr3, qr3, pr4, qr4, pr5, qr5, rfl, r1, r3, r4, r5⟩ := sessionResult_rep kr
        simp only [] at r1 r3 r4 r5
        have RR : sessionC.rep w5 r [.slice pr1 r.1.length qr1, .int .i64 r.2.1, .slice pr3 r.2.2.1.length qr3, .slice pr4 r.2.2.2.1.length qr4, .slice pr5 r.2.2.2.2.length qr5] := session_mk r1 r3 r4 r5
        have hb := alloc_below w5 (.cells #[.int .i64 d, .int .i64 0, .slice pr1 r.1.length qr1, .int .i64 r.2.1, .slice pr3 r.2.2.1.length qr3, .slice pr4 r.2.2.2.1.length qr4, .slice pr5 r.2.2.2.2.length qr5] 31)
        have AR := Arr.new w5 [.int .i64 d, .int .i64 0, .slice pr1 r.1.length qr1, .int .i64 r.2.1, .slice pr3 r.2.2.1.length qr3, .slice pr4 r.2.2.2.1.length qr4, .slice pr5 r.2.2.2.2.length qr5] 31
        replace RR := sessionC.keep RR hb
        replace AX := AX.stay hb
        replace RX := sessionC.keep RX hb
        replace AY := AY.stay hb
        replace RY := sessionC.keep RY hb
        replace AZ := AZ.stay hb
        replace RZ := sessionC.keep RZ hb
        replace BW := Below.step BW hb
        clear hb ko kr r1 r3 r4 r5
        go_wp2_with fail
        generalize hV : w5.alloc (.cells #[.int .i64 d, .int .i64 0, .slice pr1 r.1.length qr1, .int .i64 r.2.1, .slice pr3 r.2.2.1.length qr3, .slice pr4 r.2.2.2.1.length qr4, .slice pr5 r.2.2.2.2.length qr5] 31) = V6 at *
        clear hV
        have r0 := (AR.cell 0).trans (show _ = some _ from rfl)
        have r1 := (AR.cell 1).trans (show _ = some _ from rfl)
        have r2 := (AR.cell 2).trans (show _ = some _ from rfl)
        have r3 := (AR.cell 3).trans (show _ = some _ from rfl)
        have r4 := (AR.cell 4).trans (show _ = some _ from rfl)
        have r5 := (AR.cell 5).trans (show _ = some _ from rfl)
        have r6 := (AR.cell 6).trans (show _ = some _ from rfl)
        have x0 := (AX.cell 0).trans (show _ = some _ from rfl)
        have x1 := (AX.cell 1).trans (show _ = some _ from rfl)
        have x2 := (AX.cell 2).trans (show _ = some _ from rfl)
        have x3 := (AX.cell 3).trans (show _ = some _ from rfl)
        have x4 := (AX.cell 4).trans (show _ = some _ from rfl)
        have z0 := (AZ.cell 0).trans (show _ = some _ from rfl)
        have z1 := (AZ.cell 1).trans (show _ = some _ from rfl)
        have z2 := (AZ.cell 2).trans (show _ = some _ from rfl)
        have z3 := (AZ.cell 3).trans (show _ = some _ from rfl)
        have z4 := (AZ.cell 4).trans (show _ = some _ from rfl)
        have z5 := (AZ.cell 5).trans (show _ = some _ from rfl)
        have z6 := (AZ.cell 6).trans (show _ = some _ from rfl)
        have d2 : (d == d) = true := beq_self_eq_true d
        go_wp2_with fail
        have hne := HW.some V6
        have gr0 := HW.at r0
        have gr1 := HW.at r1
        have gr2 := HW.at r2
        have gr3 := HW.at r3
        have gr4 := HW.at r4
        have gr5 := HW.at r5
        have gr6 := HW.at r6
        have gx0 := HW.at x0
        have gx1 := HW.at x1
        have gx2 := HW.at x2
        have gx3 := HW.at x3
        have gx4 := HW.at x4
        have gz0 := HW.at z0
        have gz1 := HW.at z1
        have gz2 := HW.at z2
        have gz3 := HW.at z3
        have gz4 := HW.at z4
        have gz5 := HW.at z5
        have gz6 := HW.at z6
        clear r0 r1 r2 r3 r4 r5 r6 x0 x1 x2 x3 x4 z0 z1 z2 z3 z4 z5 z6
        refine wp_region_pick [0, 1, 4, 5] 18 14 1 rfl rfl rfl (by kernel_rfl) (by kernel_rfl) (by kernel_rfl) (by kernel_rfl) ?_
        simp only [opsAt, List.getElem?_toArray, List.getElem?_cons_zero, List.getElem?_cons_succ]
        repeat (go_big_quiet_step (fail))
        refine wpQuiet_nil ?_
        refine wpM_only (i := 2) (by kernel_rfl) ?_
        refine mOp_call rfl (by go_simp) 11 _ #[.agg #[.slice px1 x.1.length qx1, .int .i64 x.2.1, .slice px3 x.2.2.1.length qx3, .slice px4 x.2.2.2.1.length qx4, .slice px5 x.2.2.2.2.length qx5], .int .i64 id] (fun w => by go_simp) rfl ?_
        rintro _ ⟨sg0, rfl⟩
        refine (KS.out _ (sessionC.keep RX sg0.h)).mono ?_
        rintro e wg0 ⟨vs, rfl, hbx⟩
        have hbg := Below.step sg0.h hbx
        refine ⟨_, rfl, ⟨⟨wg0, hbx⟩, rfl⟩, ?_⟩
        replace gr0 := HW.down gr0 hbg
        replace gr1 := HW.down gr1 hbg
        replace gr2 := HW.down gr2 hbg
        replace gr3 := HW.down gr3 hbg
        replace gr4 := HW.down gr4 hbg
        replace gr5 := HW.down gr5 hbg
        replace gr6 := HW.down gr6 hbg
        replace gx0 := HW.down gx0 hbg
        replace gx1 := HW.down gx1 hbg
        replace gx2 := HW.down gx2 hbg
        replace gx3 := HW.down gx3 hbg
        replace gx4 := HW.down gx4 hbg
        replace gz0 := HW.down gz0 hbg
        replace gz1 := HW.down gz1 hbg
        replace gz2 := HW.down gz2 hbg
        replace gz3 := HW.down gz3 hbg
        replace gz4 := HW.down gz4 hbg
        replace gz5 := HW.down gz5 hbg
        replace gz6 := HW.down gz6 hbg
        replace RX := sessionC.keep RX hbg
        replace RZ := sessionC.keep RZ hbg
        replace BW := Below.step BW hbg
        replace hne := HW.some wg0
        clear hbg hbx
        refine wpM_more [3, 6, 7, 8, 9, 10, 11, 12, 13] 13 4 rfl (by kernel_rfl) (by kernel_rfl) (by kernel_rfl) (by kernel_rfl) ?_
        simp only [opsAt, List.getElem?_toArray, List.getElem?_cons_zero, List.getElem?_cons_succ]
        go_simp
        repeat (go_big_quiet_step (fail))
        refine wpQuiet_nil ?_
        refine wpM_only (i := 14) (by kernel_rfl) ?_
        refine mOp_skip rfl (by go_simp) ?_
        refine wpM_more [15, 16, 17] 3 0 rfl (by kernel_rfl) (by kernel_rfl) (by kernel_rfl) (by kernel_rfl) ?_
        simp only [opsAt, List.getElem?_toArray, List.getElem?_cons_zero, List.getElem?_cons_succ]
        go_simp
        repeat (go_big_quiet_step (fail))
        refine wpQuiet_nil ?_
        refine wpM_end (by kernel_rfl) rfl (by kernel_rfl) (by decide) ?_
        rintro _ ⟨sgz, rfl⟩
        simp only [List.drop_succ_cons, List.drop_zero]
        go_wp2
        go_ret
        exact ⟨rfl, Below.step BW sgz.h⟩
end Go.Proofs.Ytflhoefocjmihaa

