/- The walk of FnShares. -/
import Derived.Test.YtdolhafkihkocaaDrawP
import Derived.Test.YtdolhafkihkocaaPowI
import Derived.Test.YtdolhafkihkocaaBig
import Derived.Test.YtdolhafkihkocaaArr
import Derived.Test.YtdolhafkihkocaaOdd
import Derived.Test.YtdolhafkihkocaaPick
import Derived.Test.YtdolhafkihkocaaFields
namespace Go.Proofs.Ytdolhafkihkocaa
open Go.ChangeShapes Go.WideShapes Go.ChangeAt Go.RowKit

theorem getB_put2 (v : Nat) (h : v < 65536) : getB (putB v 2) = v := by
  have e2 : putB v 2 = [UInt8.ofNat (v / 256 % 256), UInt8.ofNat (v / 1 % 256)] := rfl
  rw [e2]
  simp only [getB, List.foldl_cons, List.foldl_nil, UInt8.toNat_ofNat']
  omega

set_option maxRecDepth 4000 in
set_option maxHeartbeats 8000000 in
theorem fnShares_walk (a : Option Addr) (cap : Nat) (bs0 : List UInt8) (w : World) (r0 : Rd w a cap bs0) :
    Calls Try.prog 3 #[.slice a bs0.length cap] w fun e w' => e = .returned (.bool true) ∧ Below w.heap.size w w' := by
  by_cases hl0 : 1048576 < bs0.length
  · go_enter Try.func3, Try.ntmps3
    go_wp2_with fail
    refine (lwBig_yes _ _ _ _ hl0).mono ?_
    rintro e w1 ⟨rfl, rfl⟩
    go_wp2
    go_ret
    exact ⟨rfl, Below.refl _ _⟩
  replace hl0 : bs0.length ≤ 1048576 := by omega
  have if0 := int_f0
  have if1 := int_f1
  go_enter Try.func3, Try.ntmps3
  go_wp2_with fail
  refine (lwBig_no _ _ _ _ hl0).mono ?_
  rintro e w1 ⟨rfl, hw1⟩
  rw [hw1]
  clear hw1 w1
  go_wp2_with fail
  refine (drawSd_c _ _ bs0 _ r0).mono ?_
  rintro e w1 ⟨x, y, rfl, hx0, hx1, hy0, hy1, BW⟩
  clear r0
  obtain ⟨xc, HXC⟩ : ∃ c, Hid (c = shC x) := ⟨_, rfl⟩
  obtain ⟨xv, HXV⟩ : ∃ c, Hid (c = shV x) := ⟨_, rfl⟩
  obtain ⟨yc, HYC⟩ : ∃ c, Hid (c = shC y) := ⟨_, rfl⟩
  obtain ⟨yv, HYV⟩ : ∃ c, Hid (c = shV y) := ⟨_, rfl⟩
  have KX : Hid (∀ w, Calls Try.prog 11 #[.int .i64 x] w fun e w' => e = .returned (.agg #[.int .i64 xc, .int .i64 xv]) ∧ Below w.heap.size w w') := fun w => by rw [HXC.out, HXV.out]; exact implSh_c x w
  have KY : Hid (∀ w, Calls Try.prog 11 #[.int .i64 y] w fun e w' => e = .returned (.agg #[.int .i64 yc, .int .i64 yv]) ∧ Below w.heap.size w w') := fun w => by rw [HYC.out, HYV.out]; exact implSh_c y w
  go_wp2_with fail
  refine (KX.out _).mono ?_
  rintro e w2 ⟨rfl, hb2⟩
  have A1 := Arr.new w2 [.int .i64 xc, .int .i64 xv] 27
  replace hb2 := Below.mk hb2 (.cells #[.int .i64 xc, .int .i64 xv] 27)
  replace BW := Below.step BW hb2
  clear hb2 KX
  go_wp2_with fail
  refine (KY.out _).mono ?_
  rintro e w3 ⟨rfl, hb3⟩
  have A2 := Arr.new w3 [.int .i64 yc, .int .i64 yv] 27
  replace hb3 := Below.mk hb3 (.cells #[.int .i64 yc, .int .i64 yv] 27)
  replace A1 := A1.stay hb3
  replace BW := Below.step BW hb3
  clear hb3 KY
  have c0 := A1.cell 0
  have c1 := A1.cell 1
  have d0 := A2.cell 0
  have d1 := A2.cell 1
  simp at c0 c1 d0 d1
  by_cases hc : xc = 0 ∧ yc = 0
  · obtain ⟨hc1, hc2⟩ := hc
    subst hc1 hc2
    have hx : inB x 1 65519 = true := by have := HXC.out; unfold shC at this; cases h : inB x 1 65519 <;> simp [h] at this ⊢
    have hy : inB y 1 65519 = true := by have := HYC.out; unfold shC at this; cases h : inB y 1 65519 <;> simp [h] at this ⊢
    obtain ⟨xn, rfl, hxa, hxb⟩ := nat_of_in hx (by decide)
    obtain ⟨yn, rfl, hya, hyb⟩ := nat_of_in hy (by decide)
    have EX : xv = ((powN 17 xn : Nat) : Int) := by rw [HXV.out, shV, if_pos HXC.out.symm]; rfl
    have EY : yv = ((powN 17 yn : Nat) : Int) := by rw [HYV.out, shV, if_pos HYC.out.symm]; rfl
    have px := powN_pos (b := 17) (e := xn) (by decide) (by decide) (by omega)
    have py := powN_pos (b := 17) (e := yn) (by decide) (by decide) (by omega)
    have lx := powN_lt 17 xn
    have ly := powN_lt 17 yn
    have HPQ := powN_comm 17 yn xn
    have ix : inB ((powN 17 xn : Nat) : Int) 1 65520 = true := by simp [inB]; omega
    have iy : inB ((powN 17 yn : Nat) : Int) 1 65520 = true := by simp [inB]; omega
    have hsd1 : sdC (xn : Int) ((powN 17 yn : Nat) : Int) = 0 := by simp [sdC, hx, iy]
    have hsd2 : sdC (yn : Int) ((powN 17 xn : Nat) : Int) = 0 := by simp [sdC, hy, ix]
    obtain ⟨pv, HP⟩ : ∃ p, Hid (p = powN (powN 17 yn) xn) := ⟨_, rfl⟩
    have ppos : 1 ≤ pv := by rw [HP.out]; exact powN_pos py (by omega) (by omega)
    have plt : pv < 65521 := by rw [HP.out]; exact powN_lt _ _
    have KP : Hid (∀ w, Calls Try.prog 13 #[.int .i64 (xn : Int), .int .i64 ((powN 17 yn : Nat) : Int)] w fun e w' => e = .returned (.agg #[.int .i64 0, .int .i64 (pv : Int)]) ∧ Below w.heap.size w w') := fun w => by
      have g := implSd_c xn ((powN 17 yn : Nat) : Int) w
      rw [hsd1, show sdV (xn : Int) ((powN 17 yn : Nat) : Int) = (pv : Int) by rw [sdV, if_pos hsd1, HP.out]; rfl] at g
      exact g
    have KQ : Hid (∀ w, Calls Try.prog 13 #[.int .i64 (yn : Int), .int .i64 ((powN 17 xn : Nat) : Int)] w fun e w' => e = .returned (.agg #[.int .i64 0, .int .i64 (pv : Int)]) ∧ Below w.heap.size w w') := fun w => by
      have g := implSd_c yn ((powN 17 xn : Nat) : Int) w
      rw [hsd2, show sdV (yn : Int) ((powN 17 xn : Nat) : Int) = (pv : Int) by rw [sdV, if_pos hsd2, HP.out, HPQ]; rfl] at g
      exact g
    have KB : Hid (∀ w, Calls Try.prog 15 #[.int .i64 ((powN 17 xn : Nat) : Int)] w fun e w' => ∃ (p : Option Addr) (q : Nat), e = .returned (.agg #[.int .i64 0, .slice p 2 q]) ∧ Rd w' p q (putB (powN 17 xn) 2) ∧ Below w.heap.size w w') := fun w => by
      have g := implSb_c ((powN 17 xn : Nat) : Int) w
      have h0 : shbC ((powN 17 xn : Nat) : Int) = 0 := by simp [shbC, ix]
      rw [h0, show shbL ((powN 17 xn : Nat) : Int) = putB (powN 17 xn) 2 by rw [shbL, if_pos h0]; rfl] at g
      refine g.mono ?_
      rintro e w' ⟨u, rfl, ho, hb⟩
      obtain ⟨p, q, rfl, r⟩ := ho.rd
      rw [putB_len]
      exact ⟨p, q, rfl, r, hb⟩
    have KV : Hid (∀ (w : World) (p : Option Addr) (q : Nat), Rd w p q (putB (powN 17 xn) 2) → Calls Try.prog 16 #[.slice p 2 q] w fun e w' => e = .returned (.agg #[.int .i64 0, .int .i64 ((powN 17 xn : Nat) : Int)]) ∧ Below w.heap.size w w') := fun w p q h => by
      have g := implBs_c p q (putB (powN 17 xn) 2) w h
      have hg := getB_put2 (powN 17 xn) (by omega)
      have h0 : bsC (putB (powN 17 xn) 2) = 0 := by rw [bsC, if_pos (putB_len _ _), hg, ix]; rfl
      rw [putB_len, h0, show bsV (putB (powN 17 xn) 2) = ((powN 17 xn : Nat) : Int) by rw [bsV, if_pos h0, hg]] at g
      exact g
    have KW : Hid (∀ w, Calls Try.prog 17 #[.int .i64 17, .int .i64 (xn : Int)] w fun e w' => e = .returned (.agg #[.int .i64 0, .int .i64 ((powN 17 xn : Nat) : Int)]) ∧ Below w.heap.size w w') := fun w => by
      have g := implPo_c 17 xn w
      have h3 : inB (xn : Int) 0 65521 = true := by simp [inB]; omega
      have h0 : poC 17 (xn : Int) = 0 := by rw [poC, h3]; rfl
      rw [h0, show poV 17 (xn : Int) = ((powN 17 xn : Nat) : Int) by rw [poV, if_pos h0]; rfl] at g
      exact g
    rw [← EX] at KQ KB KV KW
    rw [← EY] at KP
    rw [← EX] at ix
    have hxv1 : 1 ≤ xv := by rw [EX]; omega
    obtain ⟨bs2, HB2⟩ : ∃ b, Hid (b = putB (powN 17 xn) 2) := ⟨_, rfl⟩
    rw [← HB2.out] at KB KV
    clear EX EY px py lx ly HPQ iy hsd1 hsd2 HB2 HXC HXV HYC HYV hx hy ix HP
    --@tail
    go_wp2_with fail
    refine (KP.out _).mono ?_
    rintro e w4 ⟨rfl, hb4⟩
    have A3 := Arr.new w4 [.int .i64 0, .int .i64 (pv : Int)] 27
    replace hb4 := Below.mk hb4 (.cells #[.int .i64 0, .int .i64 (pv : Int)] 27)
    replace c1 := cell_keep c1 hb4
    replace BW := Below.step BW hb4
    clear hb4 KP A1 A2 c0 d0 d1
    go_wp2_with fail
    refine (KQ.out _).mono ?_
    rintro e w5 ⟨rfl, hb5⟩
    have A4 := Arr.new w5 [.int .i64 0, .int .i64 (pv : Int)] 27
    replace hb5 := Below.mk hb5 (.cells #[.int .i64 0, .int .i64 (pv : Int)] 27)
    replace c1 := cell_keep c1 hb5
    replace A3 := A3.stay hb5
    replace BW := Below.step BW hb5
    clear hb5 KQ
    go_wp2_with fail
    refine (KB.out _).mono ?_
    rintro e w6 ⟨p6, q6, rfl, r6, hb6⟩
    have A5 := Arr.new w6 [.int .i64 0, .slice p6 2 q6] 31
    replace r6 := r6.keep (alloc_below _ (.cells #[.int .i64 0, .slice p6 2 q6] 31))
    replace hb6 := Below.mk hb6 (.cells #[.int .i64 0, .slice p6 2 q6] 31)
    replace c1 := cell_keep c1 hb6
    replace A3 := A3.stay hb6
    replace A4 := A4.stay hb6
    replace BW := Below.step BW hb6
    clear hb6 KB
    go_wp2_with fail
    refine (KV.out _ p6 q6 r6).mono ?_
    rintro e w7 ⟨rfl, hb7⟩
    have A6 := Arr.new w7 [.int .i64 0, .int .i64 xv] 27
    replace hb7 := Below.mk hb7 (.cells #[.int .i64 0, .int .i64 xv] 27)
    replace c1 := cell_keep c1 hb7
    replace A3 := A3.stay hb7
    replace A4 := A4.stay hb7
    replace A5 := A5.stay hb7
    replace BW := Below.step BW hb7
    clear hb7 KV r6
    have g0 := HW.at ((A3.cell 0).trans (show _ = some (Value.int .i64 0) from rfl))
    have g1 := HW.at ((A3.cell 1).trans (show _ = some (Value.int .i64 (pv : Int)) from rfl))
    have g2 := HW.at ((A4.cell 0).trans (show _ = some (Value.int .i64 0) from rfl))
    have g3 := HW.at ((A4.cell 1).trans (show _ = some (Value.int .i64 (pv : Int)) from rfl))
    have g4 := HW.at ((A5.cell 0).trans (show _ = some (Value.int .i64 0) from rfl))
    have g5 := HW.at ((A6.cell 0).trans (show _ = some (Value.int .i64 0) from rfl))
    have g6 := HW.at ((A6.cell 1).trans (show _ = some (Value.int .i64 xv) from rfl))
    have g7 := HW.at c1
    have hpI : (1 : Int) ≤ (pv : Int) := by omega
    have hlI : (pv : Int) < 65521 := by omega
    clear A3 A4 A5 A6 c1
    go_wp2_with fail
    generalize w7.alloc (Obj.cells #[Value.int IntKind.i64 0, Value.int IntKind.i64 xv] 27) = V at *
    have hne := HW.some V
    refine wp_region_odd_seg 46 5 rfl (by kernel_rfl) (by kernel_rfl) (by kernel_rfl) (by kernel_rfl) ?_
    simp only [List.take_succ_cons, List.take_zero]
    repeat (go_big_quiet_step (fail))
    refine wpQuiet_nil ?_
    refine wpG_call (k := 46) rfl (by kernel_rfl) (by kernel_rfl) (by go_simp) 17 _ #[.int .i64 17, .int .i64 (xn : Int)] (fun w => by go_simp) rfl ?_
    rintro _ ⟨sg0, rfl⟩
    refine (KW.out _).mono ?_
    rintro e wg0 ⟨rfl, hbx⟩
    have hbg := Below.step sg0.h hbx
    refine ⟨_, rfl, ⟨⟨wg0, hbx⟩, rfl⟩, ?_⟩
    replace BW := Below.step BW hbg
    replace hne := HW.some wg0
    clear hbg hbx g0 g1 g2 g3 g4 g5 g6 g7
    refine wpG_next 47 4 0 (by decide) (by kernel_rfl) (by kernel_rfl) (by kernel_rfl) ?_
    simp only [List.drop_succ_cons, List.drop_zero, List.take_succ_cons, List.take_zero]
    go_simp
    repeat (go_big_quiet_step (fail))
    refine wpQuiet_nil ?_
    refine wpG_end rfl ?_
    rintro _ ⟨sgz, rfl⟩
    go_wp2
    go_ret
    exact ⟨rfl, Below.step BW sgz.h⟩
  · have KS1 : Hid (∀ w, Calls Try.prog 12 #[.int .i64 x] w fun e w' => e = .returned (.agg #[.int .i64 xc, .int .i64 xv]) ∧ Below w.heap.size w w') := fun w => by rw [HXC.out, HXV.out]; exact specSh_c x w
    have KS2 : Hid (∀ w, Calls Try.prog 12 #[.int .i64 y] w fun e w' => e = .returned (.agg #[.int .i64 yc, .int .i64 yv]) ∧ Below w.heap.size w w') := fun w => by rw [HYC.out, HYV.out]; exact specSh_c y w
    obtain ⟨sc, HSC⟩ : ∃ c, Hid (c = sdC x y) := ⟨_, rfl⟩
    obtain ⟨sv, HSV⟩ : ∃ c, Hid (c = sdV x y) := ⟨_, rfl⟩
    have KS3 : Hid (∀ w, Calls Try.prog 14 #[.int .i64 x, .int .i64 y] w fun e w' => e = .returned (.agg #[.int .i64 sc, .int .i64 sv]) ∧ Below w.heap.size w w') := fun w => by rw [HSC.out, HSV.out]; exact specSd_c x y w
    have KI3 : Hid (∀ w, Calls Try.prog 13 #[.int .i64 x, .int .i64 y] w fun e w' => e = .returned (.agg #[.int .i64 sc, .int .i64 sv]) ∧ Below w.heap.size w w') := fun w => by rw [HSC.out, HSV.out]; exact implSd_c x y w
    clear HXC HXV HYC HYV HSC HSV
    have d0' := (A2.cell 0).trans (show _ = some (Value.int .i64 yc) from rfl)
    have g0 := HW.at c0
    have g1 := HW.at d0'
    clear d0'
    by_cases hx : xc = 0
    case' pos =>
      have hy : (yc != 0) = true := by rw [bne_iff_ne]; exact fun h => hc ⟨hx, h⟩
      have hx1 : (xc != 0) = false := by rw [hx]; rfl
    case' neg =>
      have hx1 : (xc != 0) = true := by rw [bne_iff_ne]; exact hx
    all_goals
      clear hc
      go_wp2_with fail
      generalize w3.alloc (Obj.cells #[Value.int IntKind.i64 yc, Value.int IntKind.i64 yv] 27) = V at *
      have hne := HW.some V
      clear c0 c1 d0 d1 A1 A2
      refine wp_region_pick [0, 1, 2] 25 22 1 rfl rfl rfl (by kernel_rfl) (by kernel_rfl) (by kernel_rfl) (by kernel_rfl) ?_
      simp only [opsAt, List.getElem?_toArray, List.getElem?_cons_zero, List.getElem?_cons_succ]
      repeat (go_big_quiet_step (fail))
      refine wpQuiet_nil ?_
      refine wpM_only (i := 3) (by kernel_rfl) ?_
      refine mOp_call rfl (by go_simp) 12 _ #[.int .i64 x] (fun w => by go_simp) rfl ?_
      rintro _ ⟨sg0, rfl⟩
      refine (KS1.out _).mono ?_
      rintro e wg0 ⟨rfl, hbx⟩
      have hbg := Below.step sg0.h hbx
      refine ⟨_, rfl, ⟨⟨wg0, hbx⟩, rfl⟩, ?_⟩
      replace g1 := HW.down g1 hbg
      replace BW := Below.step BW hbg
      replace hne := HW.some wg0
      clear hbg hbx g0
      refine wpM_more [4, 5, 6, 7, 8, 9] 21 15 rfl (by kernel_rfl) (by kernel_rfl) (by kernel_rfl) (by kernel_rfl) ?_
      simp only [opsAt, List.getElem?_toArray, List.getElem?_cons_zero, List.getElem?_cons_succ]
      go_simp
      repeat (go_big_quiet_step (fail))
      refine wpQuiet_nil ?_
      refine wpM_only (i := 10) (by kernel_rfl) ?_
      refine mOp_call rfl (by go_simp) 12 _ #[.int .i64 y] (fun w => by go_simp) rfl ?_
      rintro _ ⟨sg2, rfl⟩
      refine (KS2.out _).mono ?_
      rintro e wg2 ⟨rfl, hbx⟩
      have hbg := Below.step sg2.h hbx
      refine ⟨_, rfl, ⟨⟨wg2, hbx⟩, rfl⟩, ?_⟩
      replace BW := Below.step BW hbg
      replace hne := HW.some wg2
      clear hbg hbx g1
      refine wpM_more [11, 12, 13, 14, 15, 16, 19, 20] 14 6 rfl (by kernel_rfl) (by kernel_rfl) (by kernel_rfl) (by kernel_rfl) ?_
      simp only [opsAt, List.getElem?_toArray, List.getElem?_cons_zero, List.getElem?_cons_succ]
      go_simp
      repeat (go_big_quiet_step (fail))
      refine wpQuiet_nil ?_
      refine wpM_only (i := 17) (by kernel_rfl) ?_
      refine mOp_call rfl (by go_simp) 13 _ #[.int .i64 x, .int .i64 y] (fun w => by go_simp) rfl ?_
      rintro _ ⟨sg4, rfl⟩
      refine (KI3.out _).mono ?_
      rintro e wg4 ⟨rfl, hbx⟩
      have hbg := Below.step sg4.h hbx
      refine ⟨_, rfl, ⟨⟨wg4, hbx⟩, rfl⟩, ?_⟩
      replace BW := Below.step BW hbg
      replace hne := HW.some wg4
      clear hbg hbx
      refine wpM_more [18] 5 4 rfl (by kernel_rfl) (by kernel_rfl) (by kernel_rfl) (by kernel_rfl) ?_
      simp only [opsAt, List.getElem?_toArray, List.getElem?_cons_zero, List.getElem?_cons_succ]
      go_simp
      repeat (go_big_quiet_step (fail))
      refine wpQuiet_nil ?_
      refine wpM_only (i := 21) (by kernel_rfl) ?_
      refine mOp_call rfl (by go_simp) 14 _ #[.int .i64 x, .int .i64 y] (fun w => by go_simp) rfl ?_
      rintro _ ⟨sg6, rfl⟩
      refine (KS3.out _).mono ?_
      rintro e wg6 ⟨rfl, hbx⟩
      have hbg := Below.step sg6.h hbx
      refine ⟨_, rfl, ⟨⟨wg6, hbx⟩, rfl⟩, ?_⟩
      replace BW := Below.step BW hbg
      replace hne := HW.some wg6
      clear hbg hbx
      refine wpM_more [22, 23, 24] 3 0 rfl (by kernel_rfl) (by kernel_rfl) (by kernel_rfl) (by kernel_rfl) ?_
      simp only [opsAt, List.getElem?_toArray, List.getElem?_cons_zero, List.getElem?_cons_succ]
      go_simp
      repeat (go_big_quiet_step (fail))
      refine wpQuiet_nil ?_
      refine wpM_end (by kernel_rfl) rfl (by kernel_rfl) (by decide) ?_
      rintro _ ⟨sgz, rfl⟩
      simp only [List.drop_succ_cons, List.drop_zero]
      go_wp2
      go_ret
      exact ⟨rfl, Below.step BW sgz.h⟩
end Go.Proofs.Ytdolhafkihkocaa
