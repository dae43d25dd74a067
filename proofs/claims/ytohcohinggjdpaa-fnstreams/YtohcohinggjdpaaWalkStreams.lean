/- The walk of FnStreams. -/
import Derived.Test.YtohcohinggjdpaaDrawS
import Derived.Test.YtohcohinggjdpaaStrI
import Derived.Test.YtohcohinggjdpaaBig
import Derived.Test.YtohcohinggjdpaaLwSame
import Derived.Test.YtohcohinggjdpaaOdd
import Derived.Test.YtohcohinggjdpaaFields
namespace Go.Proofs.Ytohcohinggjdpaa
open Go.ChangeShapes Go.WideShapes Go.ChangeAt Go.RowKit

set_option maxRecDepth 4000 in
set_option maxHeartbeats 4000000 in
theorem fnStreams_walk (a : Option Addr) (cap : Nat) (bs0 : List UInt8) (w : World) (r0 : Rd w a cap bs0) :
    Calls Try.prog 3 #[.slice a bs0.length cap] w fun e w' => e = .returned (.bool true) ∧ Below w.heap.size w w' := by
  by_cases hl0 : 1048576 < bs0.length
  · go_enter Try.func3, Try.ntmps3
    go_wp2_with fail
    refine (lwBig_yes _ _ _ _ hl0).mono ?_
    rintro e w1 ⟨rfl, rfl⟩
    go_wp2
    go_ret
    exact ⟨rfl, Below.refl _ _⟩
  replace hl0 : bs0.length ≤ 1048576 := by omega
  have bf0 := bytes_f0
  have bf1 := bytes_f1
  go_enter Try.func3, Try.ntmps3
  go_wp2_with fail
  refine (lwBig_no _ _ _ _ hl0).mono ?_
  rintro e w1 ⟨rfl, hw1⟩
  rw [hw1]
  clear hw1 w1
  go_wp2_with fail
  refine (drawXor_c _ _ bs0 _ r0).mono ?_
  rintro e w1 ⟨p1, p2, p3, q1, q2, q3, key, nonce, data, rfl, rk, rn, rd, hkl, hnl, hdl, BW⟩
  replace r0 := r0.keep BW
  go_wp2_with fail
  refine (implSX_c p1 p2 p3 q1 q2 q3 key nonce data _ rk rn rd).mono ?_
  rintro e w2 ⟨u1, rfl, k1, hb2⟩
  obtain ⟨p4, q4, rfl, rr⟩ := k1.rd
  replace r0 := r0.keep hb2
  replace rk := rk.keep hb2
  replace rn := rn.keep hb2
  replace rd := rd.keep hb2
  replace BW := Below.step BW hb2
  clear hb2 k1
  by_cases hok : sxC key nonce data = 0
  · obtain ⟨hsc, hd220⟩ := sxC_zero hok
    rw [hok]
    rw [show sxL key nonce data = hideN key nonce data by simp [sxL, hok]] at rr ⊢
    have HL1 : Hid ((hideN key nonce data).length = data.length) := hideN_len _ _ _
    have HB : Hid (∀ (w : World) (p : Option Addr) (q : Nat), Rd w p1 q1 key → Rd w p2 q2 nonce → Rd w p q (hideN key nonce data) → Calls Try.prog 11 #[.slice p1 key.length q1, .slice p2 nonce.length q2, .slice p data.length q] w fun e w' => ∃ (p' : Option Addr) (q' : Nat), e = .returned (.agg #[.int .i64 0, .slice p' data.length q']) ∧ Own w' w.heap.size (.slice p' data.length q') data ∧ Below w.heap.size w w') := fun w p q h h' h'' => by
      have g := implSX_c p1 p2 p q1 q2 q key nonce (hideN key nonce data) w h h' h''
      have hs : sxC key nonce (hideN key nonce data) = 0 := by simp [sxC, hsc, hideN_len, hd220]
      rw [HL1.out, hs, show sxL key nonce (hideN key nonce data) = data by simp only [sxL, hs, if_true]; exact hideN_twice _ _ _] at g
      refine g.mono ?_
      rintro e w' ⟨u, rfl, k, hb⟩
      obtain ⟨a, c, rfl, -⟩ := k.rd
      exact ⟨a, c, rfl, k, hb⟩
    have HP : Hid (∀ (w : World) (q m : Nat) (p : Option Addr), m ≤ data.length → Rd w p1 q1 key → Rd w p2 q2 nonce → Rd w p q (data.take m) → Calls Try.prog 11 #[.slice p1 key.length q1, .slice p2 nonce.length q2, .slice p m q] w fun e w' => ∃ (p' : Option Addr) (q' : Nat), e = .returned (.agg #[.int .i64 0, .slice p' m q']) ∧ Own w' w.heap.size (.slice p' m q') ((hideN key nonce data).take m) ∧ Below w.heap.size w w') := fun w q m p hm h h' h'' => by
      have g := implSX_c p1 p2 p q1 q2 q key nonce (data.take m) w h h' h''
      have hlm : (data.take m).length = m := by simp; omega
      have hs : sxC key nonce (data.take m) = 0 := by simp only [sxC, hsc, hlm, if_true]; rw [if_pos (by omega)]
      rw [hlm, hs, show sxL key nonce (data.take m) = (hideN key nonce data).take m by simp only [sxL, hs, if_true]; exact (hideN_take _ _ _ _ hm).symm] at g
      refine g.mono ?_
      rintro e w' ⟨u, rfl, k, hb⟩
      have hl2 : ((hideN key nonce data).take m).length = m := by simp [hideN_len]; omega
      obtain ⟨a, c, rfl, -⟩ := k.rd
      rw [hl2] at k ⊢
      exact ⟨a, c, rfl, k, hb⟩
    obtain ⟨hk32, hn12, -⟩ := strC_zero hsc
    have hs1 : strC key nonce 1 = 0 := by simp [strC, hk32, hn12, inB]
    have HBL : Hid ((blockS key nonce 1).length = 64) := blockS_len _ _ _
    have HK : Hid (∀ w, Rd w p1 q1 key → Rd w p2 q2 nonce → Calls Try.prog 14 #[.slice p1 key.length q1, .slice p2 nonce.length q2, .int .i64 1] w fun e w' => ∃ (p' : Option Addr) (q' : Nat), e = .returned (.agg #[.int .i64 0, .slice p' 64 q']) ∧ Own w' w.heap.size (.slice p' 64 q') (blockS key nonce 1) ∧ Below w.heap.size w w') := fun w h h' => by
      have g := implSB_c p1 p2 q1 q2 key nonce 1 w h h'
      rw [hs1, show sbL key nonce 1 = blockS key nonce 1 by simp [sbL, hs1]] at g
      refine g.mono ?_
      rintro e w' ⟨u, rfl, k, hb⟩
      obtain ⟨a, c, rfl, -⟩ := k.rd
      rw [HBL.out] at k ⊢
      exact ⟨a, c, rfl, k, hb⟩
    have HSB : Hid (∀ w, Rd w p1 q1 key → Rd w p2 q2 nonce → Calls Try.prog 16 #[.slice p1 key.length q1, .slice p2 nonce.length q2, .int .i64 1] w fun e w' => ∃ u, e = .returned (.agg #[.int .i64 0, u]) ∧ Own w' w.heap.size u (blockS key nonce 1) ∧ Below w.heap.size w w') := fun w h h' => by
      have g := specSB_c p1 p2 q1 q2 key nonce 1 w h h'
      rw [hs1, show sbL key nonce 1 = blockS key nonce 1 by simp [sbL, hs1]] at g
      exact g
    rw [HL1.out]
    clear hok hsc hk32 hn12 hs1
    go_wp2_with fail
    refine (HB.out _ p4 q4 (rk.keep (alloc_below _ _)) (rn.keep (alloc_below _ _)) (rr.keep (alloc_below _ _))).mono ?_
    rintro e w3 ⟨p5, q5, rfl, k3, hb3⟩
    have A1 := ((Arr.new w2 [.int .i64 0, .slice p4 data.length q4] 27).stay hb3).old _ (.cells #[.int .i64 0, .slice p5 data.length q5] 27)
    have A2 := Arr.new w3 [.int .i64 0, .slice p5 data.length q5] 27
    have hb3' := Below.mk (Below.res hb3) (.cells #[.int .i64 0, .slice p5 data.length q5] 27)
    have rB := (Rd.own k3).keep (alloc_below _ (.cells #[.int .i64 0, .slice p5 data.length q5] 27))
    replace r0 := r0.keep hb3'
    replace rk := rk.keep hb3'
    replace rn := rn.keep hb3'
    replace rd := rd.keep hb3'
    replace rr := rr.keep hb3'
    replace BW := Below.step BW hb3'
    clear hb3 hb3' k3
    go_wp2_with fail
    have KA := lwAt_c a cap bs0 3 (data.length + 1) _ r0 hl0 (by decide) (by omega)
    rw [show ((3 : Nat) : Int) = 3 from rfl, show ((data.length + 1 : Nat) : Int) = (data.length : Int) + 1 by omega] at KA
    refine KA.mono ?_
    rintro e w4 ⟨m, rfl, hm0, hb4⟩
    have hm : m ≤ data.length := by omega
    replace A1 := A1.stay hb4
    replace A2 := A2.stay hb4
    replace rk := rk.keep hb4
    replace rn := rn.keep hb4
    replace rd := rd.keep hb4
    replace rr := rr.keep hb4
    replace rB := rB.keep hb4
    replace BW := Below.step BW hb4
    have hmI : (m : Int) ≤ (data.length : Int) := by omega
    have hq3 : data.length ≤ q3 := rd.1
    have hq3m : q3 ≤ 2 ^ 63 - 1 := rd.2.1
    clear KA hb4 r0 hm0
    go_wp2_with fail
    refine (HP.out _ q3 m p3 hm rk rn (rd.take m)).mono ?_
    rintro e w5 ⟨p6, q6, rfl, k5, hb5⟩
    have A3 := Arr.new w5 [.int .i64 0, .slice p6 m q6] 27
    have hb5' := Below.mk hb5 (.cells #[.int .i64 0, .slice p6 m q6] 27)
    have rP := (Rd.own k5).keep (alloc_below _ (.cells #[.int .i64 0, .slice p6 m q6] 27))
    replace A1 := A1.stay hb5'
    replace A2 := A2.stay hb5'
    replace rk := rk.keep hb5'
    replace rn := rn.keep hb5'
    replace rd := rd.keep hb5'
    replace rr := rr.keep hb5'
    replace rB := rB.keep hb5'
    replace BW := Below.step BW hb5'
    clear hb5 hb5' k5 HP HB
    go_wp2_with fail
    refine (HK.out _ rk rn).mono ?_
    rintro e w6 ⟨p7, q7, rfl, k6, hb6⟩
    have A4 := Arr.new w6 [.int .i64 0, .slice p7 64 q7] 27
    have hb6' := Below.mk hb6 (.cells #[.int .i64 0, .slice p7 64 q7] 27)
    have rK := (Rd.own k6).keep (alloc_below _ (.cells #[.int .i64 0, .slice p7 64 q7] 27))
    replace A1 := A1.stay hb6'
    replace A2 := A2.stay hb6'
    replace A3 := A3.stay hb6'
    replace rk := rk.keep hb6'
    replace rn := rn.keep hb6'
    replace rd := rd.keep hb6'
    replace rr := rr.keep hb6'
    replace rB := rB.keep hb6'
    replace rP := rP.keep hb6'
    replace BW := Below.step BW hb6'
    clear hb6 hb6' k6 HK
    go_wp2_with fail
    have hne4 := A4.lt
    generalize w6.alloc (Obj.cells #[Value.int IntKind.i64 0, Value.slice p7 64 q7] 27) = W at *
    have HA1 : Hid (Arr W w2.heap.size 27 [.int .i64 0, .slice p4 data.length q4]) := A1
    have HA2 : Hid (Arr W w3.heap.size 27 [.int .i64 0, .slice p5 data.length q5]) := A2
    have HA3 : Hid (Arr W w5.heap.size 27 [.int .i64 0, .slice p6 m q6]) := A3
    have HA4 : Hid (Arr W w6.heap.size 27 [.int .i64 0, .slice p7 64 q7]) := A4
    clear A1 A2 A3 A4
    go_loopw [11] (fun i wr => ∃ j : Nat, j ≤ data.length ∧ j ≤ 64 ∧ i = .int .i64 j ∧ Below W.heap.size W wr)
      (fun i _ => 64 - (intOf i).toNat)
    case atStart => exact ⟨0, Nat.zero_le _, Nat.zero_le _, rfl, Below.refl _ _⟩
    case round =>
      obtain ⟨j, hj1, hj2, rfl, hbr⟩ := hrel
      have B1 := HA1.out.stay hbr
      have B4 := HA4.out.stay hbr
      have c1 := B1.cell 1
      have c4 := B4.cell 1
      simp at c1 c4
      by_cases hd1 : j < data.length
      · have hI1 : (j : Int) < (data.length : Int) := by omega
        by_cases hd2 : j < 64
        · have hI2 : (j : Int) < 64 := by omega
          obtain ⟨b4, o4, e4, h4⟩ := (rr.keep hbr).2.2.2 (by rw [HL1.out]; omega)
          obtain ⟨b3, o3, e3, h3⟩ := (rd.keep hbr).2.2.2 (by omega)
          obtain ⟨b7, o7, e7, h7⟩ := (rK.keep hbr).2.2.2 (by rw [HBL.out]; decide)
          have x4 := h4 j (by rw [HL1.out]; exact hd1)
          have x3 := h3 j hd1
          have x7 := h7 j (by rw [HBL.out]; exact hd2)
          have hval : at8 (hideN key nonce data) j = ((data.getD j 0 ^^^ (blockS key nonce 1).getD j 0).toNat : Int) := by
            unfold at8
            rw [hideN_at key nonce data hd1]
            unfold maskS
            rw [show j / 64 + 1 = 1 by omega, show j % 64 = j by omega]
          have hxo := u8_xorv (data.getD j 0) ((blockS key nonce 1).getD j 0)
          rw [hval] at x4
          unfold at8 at x3 x7
          generalize data.getD j 0 = x at *
          generalize (blockS key nonce 1).getD j 0 = y at *
          subst e4 e3 e7
          clear h4 h3 h7 hval
          have g1 := HW.at c1
          have g4 := HW.at c4
          have y4 := HW.at x4
          have y3 := HW.at x3
          have y7 := HW.at x7
          have hne := HW.some wr
          go_wp2_with fail
          clear c1 c4 x4 x3 x7
          refine wp_region_class (by kernel_rfl) (by kernel_rfl) ?_
          repeat (go_big_quiet_step (fail))
          refine wpQuiet_nil ?_
          intro w8 hw8
          have hs8 := HW.out hw8
          go_wp2_with fail
          exact ⟨⟨j + 1, by omega, by omega, by go_num, Below.step hbr hs8⟩, by simp [intOf]; omega⟩
        · have hI2 : ¬ (j : Int) < 64 := by omega
          --@tail
          have B2 := HA2.out.stay hbr
          have B3 := HA3.out.stay hbr
          have c2 := B2.cell 1
          have c3 := B3.cell 1
          simp at c2 c3
          replace rB := rB.keep hbr
          replace rd := rd.keep hbr
          replace rP := rP.keep hbr
          replace rr := rr.keep hbr
          replace rk := rk.keep hbr
          replace rn := rn.keep hbr
          replace rK := rK.keep hbr
          replace BW := Below.step BW hbr
          have hq4 : data.length ≤ q4 := by have := rr.1; rw [HL1.out] at this; exact this
          have hq4m : q4 ≤ 2 ^ 63 - 1 := rr.2.1
          have HLM : Hid (((hideN key nonce data).take m).length = m) := by show _ = _; rw [List.length_take, HL1.out]; omega
          have g1 := HW.at c1
          have g2 := HW.at c2
          have g3 := HW.at c3
          have g4 := HW.at c4
          have hne := HW.some wr
          go_wp2_with fail
          clear c1 c2 c3 c4 B1 B2 B3 B4 HA1 HA2 HA3 HA4
          refine wp_region_odd_seg 10 27 rfl (by kernel_rfl) (by kernel_rfl) (by kernel_rfl) (by kernel_rfl) ?_
          simp only [List.take_succ_cons, List.take_zero]
          repeat (go_big_quiet_step (fail))
          refine wpQuiet_nil ?_
          refine wpG_call (k := 10) rfl (by kernel_rfl) (by kernel_rfl) (by go_simp) 15 _ #[.slice p5 data.length q5, .slice p3 data.length q3] (fun w => by go_simp) rfl ?_
          rintro _ ⟨sg0, rfl⟩
          refine (lwSame_yes p5 p3 q5 q3 data.length data.length data _ rfl rfl (rB.keep sg0.h) (rd.keep sg0.h)).mono ?_
          rintro e wg0 ⟨rfl, hwg⟩
          subst hwg
          refine ⟨_, rfl, ⟨⟨sg0.w, Below.refl _ _⟩, rfl⟩, ?_⟩
          have hbg : Below _ _ sg0.w := sg0.h
          replace g1 := HW.down g1 hbg
          replace g3 := HW.down g3 hbg
          replace g4 := HW.down g4 hbg
          replace rP := rP.keep hbg
          replace rr := rr.keep hbg
          replace rk := rk.keep hbg
          replace rn := rn.keep hbg
          replace rK := rK.keep hbg
          replace BW := Below.step BW hbg
          replace hne := HW.some sg0.w
          clear hbg g2 rB rd
          generalize sg0.w = wg0 at *
          clear sg0
          refine wpG_next 11 8 18 (by decide) (by kernel_rfl) (by kernel_rfl) (by kernel_rfl) ?_
          simp only [List.drop_succ_cons, List.drop_zero, List.take_succ_cons, List.take_zero]
          go_simp
          repeat (go_big_quiet_step (fail))
          refine wpQuiet_nil ?_
          refine wpG_call (k := 19) rfl (by kernel_rfl) (by kernel_rfl) (by go_simp) 15 _ #[.slice p6 m q6, .slice p4 m q4] (fun w => by go_simp) rfl ?_
          rintro _ ⟨sg1, rfl⟩
          refine (lwSame_yes p6 p4 q6 q4 m m ((hideN key nonce data).take m) _ HLM.out HLM.out (rP.keep sg1.h) ((rr.take m).keep sg1.h)).mono ?_
          rintro e wg1 ⟨rfl, hwg⟩
          subst hwg
          refine ⟨_, rfl, ⟨⟨sg1.w, Below.refl _ _⟩, rfl⟩, ?_⟩
          have hbg : Below _ _ sg1.w := sg1.h
          replace g4 := HW.down g4 hbg
          replace rk := rk.keep hbg
          replace rn := rn.keep hbg
          replace rK := rK.keep hbg
          replace BW := Below.step BW hbg
          replace hne := HW.some sg1.w
          clear hbg g1 g3 rP rr
          generalize sg1.w = wg1 at *
          clear sg1
          refine wpG_next 20 12 5 (by decide) (by kernel_rfl) (by kernel_rfl) (by kernel_rfl) ?_
          simp only [List.drop_succ_cons, List.drop_zero, List.take_succ_cons, List.take_zero]
          go_simp
          repeat (go_big_quiet_step (fail))
          refine wpQuiet_nil ?_
          refine wpG_call (k := 32) rfl (by kernel_rfl) (by kernel_rfl) (by go_simp) 16 _ #[.slice p1 key.length q1, .slice p2 nonce.length q2, .int .i64 1] (fun w => by go_simp) rfl ?_
          rintro _ ⟨sg2, rfl⟩
          refine (HSB.out _ (rk.keep sg2.h) (rn.keep sg2.h)).mono ?_
          rintro e wg2 ⟨ug, rfl, kg, hbx⟩
          obtain ⟨p8, q8, rfl, r8⟩ := kg.rd
          rw [HBL.out]
          have hbg := Below.step sg2.h hbx
          refine ⟨_, rfl, ⟨⟨wg2, hbx⟩, rfl⟩, ?_⟩
          replace rK := rK.keep hbg
          replace BW := Below.step BW hbg
          replace hne := HW.some wg2
          clear hbg kg hbx rk rn g4
          refine wpG_next 33 1 3 (by decide) (by kernel_rfl) (by kernel_rfl) (by kernel_rfl) ?_
          simp only [List.drop_succ_cons, List.drop_zero, List.take_succ_cons, List.take_zero]
          go_simp
          repeat (go_big_quiet_step (fail))
          refine wpQuiet_nil ?_
          refine wpG_call (k := 34) rfl (by kernel_rfl) (by kernel_rfl) (by go_simp) 15 _ #[.slice p7 64 q7, .slice p8 64 q8] (fun w => by go_simp) rfl ?_
          rintro _ ⟨sg3, rfl⟩
          refine (lwSame_yes p7 p8 q7 q8 64 64 (blockS key nonce 1) _ HBL.out HBL.out (rK.keep sg3.h) (r8.keep sg3.h)).mono ?_
          rintro e wg3 ⟨rfl, hwg⟩
          subst hwg
          refine ⟨_, rfl, ⟨⟨sg3.w, Below.refl _ _⟩, rfl⟩, ?_⟩
          have hbg : Below _ _ sg3.w := sg3.h
          replace BW := Below.step BW hbg
          replace hne := HW.some sg3.w
          clear hbg rK r8
          generalize sg3.w = wg3 at *
          clear sg3
          refine wpG_next 35 2 0 (by decide) (by kernel_rfl) (by kernel_rfl) (by kernel_rfl) ?_
          simp only [List.drop_succ_cons, List.drop_zero, List.take_succ_cons, List.take_zero]
          go_simp
          repeat (go_big_quiet_step (fail))
          refine wpQuiet_nil ?_
          refine wpG_end rfl ?_
          rintro _ ⟨sgz, rfl⟩
          go_wp2
          go_ret
          exact ⟨rfl, Below.step BW sgz.h⟩
          --@tailend
      · have hI1 : ¬ (j : Int) < (data.length : Int) := by omega
        --@tail
        have B2 := HA2.out.stay hbr
        have B3 := HA3.out.stay hbr
        have c2 := B2.cell 1
        have c3 := B3.cell 1
        simp at c2 c3
        replace rB := rB.keep hbr
        replace rd := rd.keep hbr
        replace rP := rP.keep hbr
        replace rr := rr.keep hbr
        replace rk := rk.keep hbr
        replace rn := rn.keep hbr
        replace rK := rK.keep hbr
        replace BW := Below.step BW hbr
        have hq4 : data.length ≤ q4 := by have := rr.1; rw [HL1.out] at this; exact this
        have hq4m : q4 ≤ 2 ^ 63 - 1 := rr.2.1
        have HLM : Hid (((hideN key nonce data).take m).length = m) := by show _ = _; rw [List.length_take, HL1.out]; omega
        have g1 := HW.at c1
        have g2 := HW.at c2
        have g3 := HW.at c3
        have g4 := HW.at c4
        have hne := HW.some wr
        go_wp2_with fail
        clear c1 c2 c3 c4 B1 B2 B3 B4 HA1 HA2 HA3 HA4
        refine wp_region_odd_seg 10 27 rfl (by kernel_rfl) (by kernel_rfl) (by kernel_rfl) (by kernel_rfl) ?_
        simp only [List.take_succ_cons, List.take_zero]
        repeat (go_big_quiet_step (fail))
        refine wpQuiet_nil ?_
        refine wpG_call (k := 10) rfl (by kernel_rfl) (by kernel_rfl) (by go_simp) 15 _ #[.slice p5 data.length q5, .slice p3 data.length q3] (fun w => by go_simp) rfl ?_
        rintro _ ⟨sg0, rfl⟩
        refine (lwSame_yes p5 p3 q5 q3 data.length data.length data _ rfl rfl (rB.keep sg0.h) (rd.keep sg0.h)).mono ?_
        rintro e wg0 ⟨rfl, hwg⟩
        subst hwg
        refine ⟨_, rfl, ⟨⟨sg0.w, Below.refl _ _⟩, rfl⟩, ?_⟩
        have hbg : Below _ _ sg0.w := sg0.h
        replace g1 := HW.down g1 hbg
        replace g3 := HW.down g3 hbg
        replace g4 := HW.down g4 hbg
        replace rP := rP.keep hbg
        replace rr := rr.keep hbg
        replace rk := rk.keep hbg
        replace rn := rn.keep hbg
        replace rK := rK.keep hbg
        replace BW := Below.step BW hbg
        replace hne := HW.some sg0.w
        clear hbg g2 rB rd
        generalize sg0.w = wg0 at *
        clear sg0
        refine wpG_next 11 8 18 (by decide) (by kernel_rfl) (by kernel_rfl) (by kernel_rfl) ?_
        simp only [List.drop_succ_cons, List.drop_zero, List.take_succ_cons, List.take_zero]
        go_simp
        repeat (go_big_quiet_step (fail))
        refine wpQuiet_nil ?_
        refine wpG_call (k := 19) rfl (by kernel_rfl) (by kernel_rfl) (by go_simp) 15 _ #[.slice p6 m q6, .slice p4 m q4] (fun w => by go_simp) rfl ?_
        rintro _ ⟨sg1, rfl⟩
        refine (lwSame_yes p6 p4 q6 q4 m m ((hideN key nonce data).take m) _ HLM.out HLM.out (rP.keep sg1.h) ((rr.take m).keep sg1.h)).mono ?_
        rintro e wg1 ⟨rfl, hwg⟩
        subst hwg
        refine ⟨_, rfl, ⟨⟨sg1.w, Below.refl _ _⟩, rfl⟩, ?_⟩
        have hbg : Below _ _ sg1.w := sg1.h
        replace g4 := HW.down g4 hbg
        replace rk := rk.keep hbg
        replace rn := rn.keep hbg
        replace rK := rK.keep hbg
        replace BW := Below.step BW hbg
        replace hne := HW.some sg1.w
        clear hbg g1 g3 rP rr
        generalize sg1.w = wg1 at *
        clear sg1
        refine wpG_next 20 12 5 (by decide) (by kernel_rfl) (by kernel_rfl) (by kernel_rfl) ?_
        simp only [List.drop_succ_cons, List.drop_zero, List.take_succ_cons, List.take_zero]
        go_simp
        repeat (go_big_quiet_step (fail))
        refine wpQuiet_nil ?_
        refine wpG_call (k := 32) rfl (by kernel_rfl) (by kernel_rfl) (by go_simp) 16 _ #[.slice p1 key.length q1, .slice p2 nonce.length q2, .int .i64 1] (fun w => by go_simp) rfl ?_
        rintro _ ⟨sg2, rfl⟩
        refine (HSB.out _ (rk.keep sg2.h) (rn.keep sg2.h)).mono ?_
        rintro e wg2 ⟨ug, rfl, kg, hbx⟩
        obtain ⟨p8, q8, rfl, r8⟩ := kg.rd
        rw [HBL.out]
        have hbg := Below.step sg2.h hbx
        refine ⟨_, rfl, ⟨⟨wg2, hbx⟩, rfl⟩, ?_⟩
        replace rK := rK.keep hbg
        replace BW := Below.step BW hbg
        replace hne := HW.some wg2
        clear hbg kg hbx rk rn g4
        refine wpG_next 33 1 3 (by decide) (by kernel_rfl) (by kernel_rfl) (by kernel_rfl) ?_
        simp only [List.drop_succ_cons, List.drop_zero, List.take_succ_cons, List.take_zero]
        go_simp
        repeat (go_big_quiet_step (fail))
        refine wpQuiet_nil ?_
        refine wpG_call (k := 34) rfl (by kernel_rfl) (by kernel_rfl) (by go_simp) 15 _ #[.slice p7 64 q7, .slice p8 64 q8] (fun w => by go_simp) rfl ?_
        rintro _ ⟨sg3, rfl⟩
        refine (lwSame_yes p7 p8 q7 q8 64 64 (blockS key nonce 1) _ HBL.out HBL.out (rK.keep sg3.h) (r8.keep sg3.h)).mono ?_
        rintro e wg3 ⟨rfl, hwg⟩
        subst hwg
        refine ⟨_, rfl, ⟨⟨sg3.w, Below.refl _ _⟩, rfl⟩, ?_⟩
        have hbg : Below _ _ sg3.w := sg3.h
        replace BW := Below.step BW hbg
        replace hne := HW.some sg3.w
        clear hbg rK r8
        generalize sg3.w = wg3 at *
        clear sg3
        refine wpG_next 35 2 0 (by decide) (by kernel_rfl) (by kernel_rfl) (by kernel_rfl) ?_
        simp only [List.drop_succ_cons, List.drop_zero, List.take_succ_cons, List.take_zero]
        go_simp
        repeat (go_big_quiet_step (fail))
        refine wpQuiet_nil ?_
        refine wpG_end rfl ?_
        rintro _ ⟨sgz, rfl⟩
        go_wp2
        go_ret
        exact ⟨rfl, Below.step BW sgz.h⟩
        --@tailend
  · have hc1 : Hid (sxC key nonce data ≠ 0) := hok
    have HB : Hid (∀ w', Rd w' p1 q1 key → Rd w' p2 q2 nonce → Rd w' p3 q3 data → Calls Try.prog 12 #[.slice p1 key.length q1, .slice p2 nonce.length q2, .slice p3 data.length q3] w' fun e w'' => e = .returned (.agg #[.int .i64 (sxC key nonce data), .slice none 0 0]) ∧ Below w'.heap.size w' w'') :=
      fun w' h h' h'' => (specSX_s p1 p2 p3 q1 q2 q3 key nonce data w' h h' h'').mono fun _ _ ⟨u, h1, h2, h3, h4⟩ => ⟨by rw [h1, h4 hc1.out], h3⟩
    generalize sxC key nonce data = cc at *
    have cz1 : (cc != 0) = true := by rw [bne_iff_ne]; exact hc1.out
    generalize (sxL key nonce data).length = ln at *
    have L1 := alloc_below w2 (Obj.cells #[Value.int IntKind.i64 cc, Value.slice p4 ln q4] 27)
    clear rr hok r0 hl0
    go_wp2
    have d0 : (w2.alloc (Obj.cells #[Value.int IntKind.i64 cc, Value.slice p4 ln q4] 27)).cell? ⟨w2.heap.size, 0, none⟩ = some (.int .i64 cc) := World.cell?_alloc_new _ _ _ _
    replace BW := Below.step BW L1
    replace rk := rk.keep L1
    replace rn := rn.keep L1
    replace rd := rd.keep L1
    clear L1
    generalize w2.alloc (Obj.cells #[Value.int IntKind.i64 cc, Value.slice p4 ln q4] 27) = W at *
    have g0 := HW.at d0
    have hne := HW.some W
    refine wp_region_class (by kernel_rfl) (by kernel_rfl) ?_
    clear d0
    repeat (go_big_quiet_step ((go_at_call 12; exact Calls.stay (HB.out _ (rk.keep (HW.h _)) (rn.keep (HW.h _)) (rd.keep (HW.h _))))))
    refine wpQuiet_nil ?_
    intro w5 hw5
    have hs5 := HW.out hw5
    go_wp2
    go_ret
    exact ⟨by simp, Below.step BW hs5⟩
end Go.Proofs.Ytohcohinggjdpaa
