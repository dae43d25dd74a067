/- The draws of chapter 10: DrawPackHello, DrawUnpackHello. -/
import Derived.Test.YtpbkncliepkhaaaDrawHel
namespace Go.Proofs.Ytpbkncliepkhaaa
open Go.ChangeShapes Go.WideShapes Go.ChangeAt Go.RowKit

set_option maxRecDepth 4000 in
set_option maxHeartbeats 2000000 in
theorem drawPH_c (p : Option Addr) (q : Nat) (cs : List UInt8) (w : World) (hr : Rd w p q cs) :
    Calls Try.prog 13 #[.slice p cs.length q] w fun e w' => ∃ (k : Int) (pu : Option Addr) (qu : Nat) (h : HelloD), e = .returned (.tuple #[.int .i64 k, .agg #[.slice pu h.1.length qu, .int .i64 h.2.1, .int .i64 h.2.2]]) ∧ 1 ≤ k ∧ k ≤ 3 ∧ h.1.length ≤ 8 ∧ Rd w' pu qu h.1 ∧ Below w.heap.size w w' := by
  have A0 := Arr.new w [.slice none 0 0, .int .i64 0, .int .i64 0] 29
  have B0 := alloc_below w (.cells #[.slice none 0 0, .int .i64 0, .int .i64 0] 29)
  replace hr := hr.keep B0
  generalize hW : w.alloc (.cells #[.slice none 0 0, .int .i64 0, .int .i64 0] 29) = W at *
  have HW0 : Hid (W.heap.size = w.heap.size + 1) := by show _ = _; rw [← hW, size_alloc]
  go_enter Try.func13, Try.ntmps13
  go_wp2_with fail
  clear hW
  refine (l1Source_c p q cs W hr).mono ?_
  rintro e w0 ⟨rfl, hs0, BW, hz0⟩
  have z0 : Hid (W.heap.size < w0.heap.size) := hz0
  replace A0 := A0.stay BW
  clear hz0 hr
  go_wp2_with fail
  refine (l1Pick_c _ p q cs 0 w0.heap.size [1, 2, 1, 2, 3] 5 _ (hs0.keep (alloc_below _ _)) (by omega) (by omega) rfl (by decide) (by decide) (by have := hs0.lt; omega) (new_ints _ _ _ [1, 2, 1, 2, 3] rfl)).mono ?_
  rintro e w1 ⟨k, hk, rfl, hs1, hg1⟩
  have hR : Hid (1 ≤ k ∧ k ≤ 3) := by
    show _ ∧ _
    simp only [List.mem_cons, List.not_mem_nil, or_false] at hk
    omega
  replace A0 := (A0.stay (alloc_below _ _)).other hg1 (fun e => by have := HW0.out; simp at e; omega)
  replace BW := below_of_grown (Below.mk BW _) hg1
  have z1 : Hid (W.heap.size < w1.heap.size) := hs1.lt
  clear hk hg1 hs0
  go_wp2_with fail
  refine (l10Bent_c _ p q cs (0 + 1) w1 hs1 (by omega) (by omega)).mono ?_
  rintro e w2 ⟨pu, qu, h, t', rfl, h8, rh, hloc, -, -, -, hg2⟩
  replace A0 := A0.other hg2 (fun e => by have := HW0.out; simp at e; omega)
  replace BW := below_of_grown BW hg2
  have BWw : Below w.heap.size w w2 := B0.trans (BW.mono (by have := HW0.out; omega))
  have RE : Hid (Rd (((w2.setCell ⟨w.heap.size, 0, none⟩ (.slice pu h.1.length qu)).setCell ⟨w.heap.size, 1, none⟩ (.int .i64 h.2.1)).setCell ⟨w.heap.size, 2, none⟩ (.int .i64 h.2.2)) pu qu h.1) := by
    refine rd_set (rd_set (rd_set rh (fun y hy => ?_) _) (fun y hy => ?_) _) (fun y hy => ?_) _ <;> (have := hloc y hy; have := z1.out; have := HW0.out; show y.block ≠ w.heap.size; omega)
  have BE : Hid (Below w.heap.size w (((w2.setCell ⟨w.heap.size, 0, none⟩ (.slice pu h.1.length qu)).setCell ⟨w.heap.size, 1, none⟩ (.int .i64 h.2.1)).setCell ⟨w.heap.size, 2, none⟩ (.int .i64 h.2.2))) := by
    have X1 := BWw.grown (grownBy_set w2 w.heap.size 0 (.slice pu h.1.length qu)) BWw.size (fun k hk => by simp at hk; omega)
    have X2 := X1.grown (grownBy_set _ w.heap.size 1 (.int .i64 h.2.1)) X1.size (fun k hk => by simp at hk; omega)
    exact X2.grown (grownBy_set _ w.heap.size 2 (.int .i64 h.2.2)) X2.size (fun k hk => by simp at hk; omega)
  have c0 := (A0.cell 0).trans (show _ = some _ from rfl)
  have c1 := (A0.cell 1).trans (show _ = some _ from rfl)
  have c2 := (A0.cell 2).trans (show _ = some _ from rfl)
  have fz := A0.frozen
  have H8 : Hid (h.1.length ≤ 8) := h8
  clear hg2 hs1 A0 rh hloc BW BWw B0 h8
  go_wp2_with fail
  exact bodyPost_ret (v := .tuple #[.int .i64 k, .agg #[.slice pu h.1.length qu, .int .i64 h.2.1, .int .i64 h.2.2]]) (by simp [results, Try.results13, go_sem, c0, c1, c2]) rfl ⟨k, pu, qu, h, rfl, hR.out.1, hR.out.2, H8.out, RE.out, BE.out⟩
set_option maxRecDepth 4000 in
set_option maxHeartbeats 4000000 in
theorem drawUH_c (p : Option Addr) (q : Nat) (cs : List UInt8) (w : World) (hr : Rd w p q cs) :
    Calls Try.prog 8 #[.slice p cs.length q] w fun e w' => ∃ (k km : Int) (pu : Option Addr) (qu : Nat) (bs : List UInt8), e = .returned (.tuple #[.int .i64 k, .agg #[.int .i64 km, .slice pu bs.length qu]]) ∧ 1 ≤ k ∧ k ≤ 3 ∧ -1 ≤ km ∧ km ≤ 256 ∧ bs.length ≤ 161 ∧ Rd w' pu qu bs ∧ Below w.heap.size w w' := by
  have A0 := Arr.new w [.int .i64 0, .slice none 0 0] 25
  have B0 := alloc_below w (.cells #[.int .i64 0, .slice none 0 0] 25)
  replace hr := hr.keep B0
  generalize hW : w.alloc (.cells #[.int .i64 0, .slice none 0 0] 25) = W at *
  have HW0 : Hid (W.heap.size = w.heap.size + 1) := by show _ = _; rw [← hW, size_alloc]
  go_enter Try.func8, Try.ntmps8
  go_wp2_with fail
  clear hW
  refine (l1Source_c p q cs W hr).mono ?_
  rintro e w0 ⟨rfl, hs0, BW, hz0⟩
  have z0 : Hid (W.heap.size < w0.heap.size) := hz0
  replace A0 := A0.stay BW
  clear hz0 hr
  go_wp2_with fail
  refine (l10Draw_c _ p q cs 0 w0 hs0 (by omega) (by omega)).mono ?_
  rintro e w1 ⟨pu, qu, h, rfl, hf, ho, hs1, hg1⟩
  replace A0 := A0.other hg1 (fun e => by have := HW0.out; simp at e; omega)
  replace BW := below_of_grown BW hg1
  have z1 : Hid (W.heap.size < w1.heap.size) := hs1.lt
  have A1 := Arr.new w1 [.slice pu h.1.length qu, .int .i64 h.2.1, .int .i64 h.2.2] 29
  have hz1 : Hid ((w1.alloc (.cells #[.slice pu h.1.length qu, .int .i64 h.2.1, .int .i64 h.2.2] 29)).heap.size = w1.heap.size + 1) := size_alloc _ _
  clear hg1 hs0
  go_wp2_with fail
  replace hs1 := hs1.keep (alloc_below w1 (.cells #[.slice pu h.1.length qu, .int .i64 h.2.1, .int .i64 h.2.2] 29))
  replace A0 := A0.stay (alloc_below w1 (.cells #[.slice pu h.1.length qu, .int .i64 h.2.1, .int .i64 h.2.2] 29))
  replace ho := ho.stay (alloc_below w1 (.cells #[.slice pu h.1.length qu, .int .i64 h.2.1, .int .i64 h.2.2] 29))
  replace BW := Below.mk BW (.cells #[.slice pu h.1.length qu, .int .i64 h.2.1, .int .i64 h.2.2] 29)
  generalize w1.alloc (.cells #[.slice pu h.1.length qu, .int .i64 h.2.1, .int .i64 h.2.2] 29) = v1 at *
  have hv1 := hz1.out
  refine (l1Pick_c _ p q cs (0 + 10) (w1.heap.size + 1) [1, 2] 2 _ (hs1.keep (alloc_below _ _)) (by omega) (by omega) rfl (by decide) (by decide) (by have := z1.out; omega) (by rw [← hv1]; exact new_ints _ _ _ [1, 2] rfl)).mono ?_
  rintro e w2 ⟨k, hk, rfl, hs2, hg2⟩
  have hR : Hid (k = 1 ∨ k = 2) := by
    show _ ∨ _
    simp only [List.mem_cons, List.not_mem_nil, or_false] at hk
    omega
  replace A0 := (A0.stay (alloc_below _ _)).other hg2 (fun e => by have := HW0.out; simp at e; omega)
  replace A1 := (A1.stay (alloc_below _ _)).other hg2 (fun e => by have := z1.out; simp at e; omega)
  replace ho := (ho.stay (alloc_below _ _)).other hg2 (fun k hk e => by have := ho.ge k hk; have := z0.out; simp at e; omega)
  replace BW := below_of_grown (Below.mk BW _) hg2
  have z2 : Hid (W.heap.size < w2.heap.size) := hs2.lt
  have K : Hid (Calls Try.prog 35 #[.int .i64 k, .pointer (some ⟨w1.heap.size, 0, none⟩)] w2 fun e w' => ∃ u, e = .returned (.agg #[.int .i64 k, u]) ∧ Own w' w2.heap.size u (hpL h) ∧ Below w2.heap.size w2 w') := l10Pack_c k w1.heap.size h pu qu w2 A1 (Rd.own ho) hf
  have HL : Hid ((hpL h).length = 14) := hpL_len hf
  clear hk hg2 hs1 hv1 A1 ho hf hz1
  go_wp2_with fail
  refine K.out.mono ?_
  rintro e w3 ⟨u3, rfl, k3, hb3⟩
  obtain ⟨p3, q3, rfl, -⟩ := k3.rd
  clear K
  generalize hpL h = bs at *
  replace hs2 := hs2.keep hb3
  replace A0 := A0.stay hb3
  replace BW := Below.step BW hb3
  have z3 : Hid (W.heap.size < w3.heap.size) := hs2.lt
  have M := Arr.new w3 [.int .i64 k, .slice p3 bs.length q3] 25
  clear hb3
  go_wp2_with fail
  replace hs2 := hs2.keep (alloc_below w3 (.cells #[.int .i64 k, .slice p3 bs.length q3] 25))
  replace A0 := A0.stay (alloc_below w3 (.cells #[.int .i64 k, .slice p3 bs.length q3] 25))
  have hlo : Hid (∀ j, (Value.slice p3 bs.length q3).ownBlock = some j → j < w3.heap.size ∧ w2.heap.size ≤ j) := fun j hj => ⟨k3.lt j hj, k3.ge j hj⟩
  replace k3 := k3.stay (alloc_below w3 (.cells #[.int .i64 k, .slice p3 bs.length q3] 25))
  replace BW := Below.mk BW (.cells #[.int .i64 k, .slice p3 bs.length q3] 25)
  generalize w3.alloc (.cells #[.int .i64 k, .slice p3 bs.length q3] 25) = v3 at *
  refine (l1Next_c _ p q cs (0 + 10 + 1) 6 _ hs2 (by omega) (by omega) (by omega) (by omega)).mono ?_
  rintro e w4 ⟨r, rfl, x4, y4, hs4, hg4⟩
  replace A0 := A0.other hg4 (fun e => by have := HW0.out; simp at e; omega)
  replace M := M.other hg4 (fun e => by have := z3.out; simp at e; omega)
  replace k3 := k3.other hg4 (fun j hj e => by have := hlo.out j hj; have := z2.out; simp at e; omega)
  replace BW := below_of_grown BW hg4
  have hM : Hid (Arr w4 w3.heap.size 25 [.int .i64 k, .slice p3 bs.length q3]) := M
  have hA : Hid (Arr w4 w.heap.size 25 [.int .i64 0, .slice none 0 0]) := A0
  have hwW : Hid (w.heap.size < w3.heap.size) := by have := HW0.out; have := z3.out; show _ < _; omega
  have hn1 : w.heap.size ≠ w3.heap.size := by have := hwW.out; omega
  have hn2 : w3.heap.size ≠ w.heap.size := by have := hwW.out; omega
  clear hg4 hs2
  have hBW : Hid (Below w.heap.size w w4) := B0.trans (BW.mono (by have := HW0.out; omega))
  have hloc : Hid (∀ y, p3 = some y → w.heap.size < y.block) := fun y hy => by subst hy; have := hlo.out y.block rfl; have := z2.out; have := HW0.out; omega
  by_cases h0 : r = 0
  · subst h0
    have hI : 0 < (bs.length : Int) := by have := HL.out; omega
    have r3 := Rd.own k3
    have hq1 := r3.1
    have hq2 : q3 ≤ 2 ^ 63 - 1 := r3.2.1
    obtain ⟨b3, o3, rfl, -⟩ := r3.2.2.2 (by omega)
    have c1 := (M.cell 1).trans (show _ = some _ from rfl)
    have g1 := Gen.But.cell (b := W.heap.size) c1 (show w3.heap.size ≠ W.heap.size by have := z3.out; omega)
    have hne := Gen.But.some W.heap.size w4
    clear c1
    go_wp2_with fail
    refine Gen.wp_region_pick (Gen.But.pre W.heap.size) [0, 1, 2, 3, 4, 5] 9 3 1 rfl rfl rfl (by kernel_rfl) (by kernel_rfl) (by kernel_rfl) (by kernel_rfl) ?_
    simp only [opsAt, List.getElem?_toArray, List.getElem?_cons_zero, List.getElem?_cons_succ]
    repeat (go_big_quiet_step (fail))
    refine wpQuiet_nil ?_
    refine Gen.wpM_only (i := 6) (by kernel_rfl) ?_
    refine Gen.mOp_call rfl (by go_simp) 37 _ #[.pointer (some ⟨W.heap.size, 0, none⟩), .int .i64 (bs.length : Int)] (fun w => by go_simp) rfl ?_
    rintro _ ⟨n1, rfl⟩
    refine (l1Next_c W.heap.size p q cs (0 + 10 + 1 + 1) (bs.length : Int) _ (hs4.drewN n1) (by omega) (by omega) (by omega) (by have := HL.out; omega)).mono ?_
    rintro e w5 ⟨n, rfl, x0, y0, hs5, hg5⟩
    refine ⟨_, rfl, ⟨⟨w5, hg5⟩, rfl⟩, ?_⟩
    obtain ⟨n, rfl⟩ := Int.eq_ofNat_of_zero_le x0
    have hnl : n < bs.length := by omega
    have hgw : w4.grownBy w5 (some W.heap.size) := grownBy_trans (grownBy_drewN w4 n1 _) hg5
    replace k3 := k3.other hgw (fun j hj e => by have := hlo.out j hj; have := z2.out; simp at e; omega)
    replace A0 := A0.other hgw (fun e => by have := HW0.out; simp at e; omega)
    replace M := M.other hgw (fun e => by have := z3.out; simp at e; omega)
    replace BW := below_of_grown BW hgw
    have hne5 := Gen.But.some W.heap.size w5
    have hnq : n ≤ q3 := by omega
    have hnI : (n : Int) ≤ (q3 : Int) := by omega
    clear hgw hg5 hne hs4 g1 hBW hM hA r3
    refine Gen.wpM_more (Gen.But.pre W.heap.size) [7, 8] 2 0 rfl (by kernel_rfl) (by kernel_rfl) (by kernel_rfl) (by kernel_rfl) ?_
    simp only [opsAt, List.getElem?_toArray, List.getElem?_cons_zero, List.getElem?_cons_succ]
    go_simp
    repeat (go_big_quiet_step (fail))
    refine wpQuiet_nil ?_
    refine Gen.wpM_end (by kernel_rfl) rfl (by kernel_rfl) (by decide) ?_
    rintro _ ⟨n3, rfl⟩
    simp only [List.drop_succ_cons, List.drop_zero]
    replace k3 : Own (w5.drewN n3) w2.heap.size (.slice (some ⟨b3, o3, none⟩) bs.length q3) bs := k3
    replace A0 : Arr (w5.drewN n3) w.heap.size 25 [.int .i64 0, .slice none 0 0] := A0
    replace M : Arr (w5.drewN n3) w3.heap.size 25 [.int .i64 k, .slice (some ⟨b3, o3, none⟩) bs.length q3] := M
    replace BW : Below W.heap.size W (w5.drewN n3) := BW.trans ⟨rfl, rfl, rfl, Nat.le_refl _, fun _ _ => rfl⟩
    generalize w5.drewN n3 = w7 at *
    have hlen : Hid ((bs.take n).length = n) := by show _ = _; rw [List.length_take]; omega
    have HLen : Hid ((bs.take n).length ≤ 161) := by have := HL.out; show _ ≤ _; rw [hlen.out]; omega
    have rT := (Rd.own k3).take n
    have fM := M.frozen
    have cM := (M.cell 1).trans (show _ = some _ from rfl)
    have BWw : Below w.heap.size w w7 := B0.trans (BW.mono (by have := HW0.out; omega))
    have hlocT := hloc.out
    have M8 := M.set 1 (.slice (some ⟨b3, o3, none⟩) n q3)
    have A8 := A0.setOther (a := ⟨w3.heap.size, 1, none⟩) hn1 (.slice (some ⟨b3, o3, none⟩) n q3)
    have R8 := rd_set rT (d := ⟨w3.heap.size, 1, none⟩) (fun y hy => by cases hy; have := hlo.out b3 rfl; show b3 ≠ w3.heap.size; omega) (.slice (some ⟨b3, o3, none⟩) n q3)
    have B8 := BWw.grown (grownBy_set w7 w3.heap.size 1 (.slice (some ⟨b3, o3, none⟩) n q3)) BWw.size (fun k hk => by simp at hk; have := hwW.out; omega)
    have HM : Hid (Arr _ _ _ _) := M8
    have HA : Hid (Arr _ _ _ _) := A8
    have HR8 : Hid (Rd _ _ _ _) := R8
    have HB8 : Hid (Below _ _ _) := B8
    clear k3 hs5 M8 A8 R8 B8 rT BWw BW A0 M
    go_wp2_with fail
    have M := HM.out
    have A0 := HA.out
    have rT := HR8.out
    have BWw := HB8.out
    clear HM HA HR8 HB8 cM fM
    generalize w7.setCell ⟨w3.heap.size, 1, none⟩ (.slice (some ⟨b3, o3, none⟩) n q3) = w8 at *
    have hE := msg_end BWw rT hlocT (.int .i64 k) (.slice (some ⟨b3, o3, none⟩) n q3)
    have c0 := (M.cell 0).trans (show _ = some _ from rfl)
    have c1 := (M.cell 1).trans (show _ = some _ from rfl)
    have d0 := (A0.cell 0).trans (show _ = some _ from rfl)
    have d1 := (A0.cell 1).trans (show _ = some _ from rfl)
    have fz := M.frozen
    have fy := A0.frozen
    have HE : Hid (_ ∧ _) := hE
    clear A0 M rT BWw hlocT hE
    go_region
    go_wp2
    exact bodyPost_ret (v := .tuple #[.int .i64 k, .agg #[.int .i64 k, .slice (some ⟨b3, o3, none⟩) n q3]]) (by simp [results, Try.results8, go_sem, d0, d1]) rfl ⟨k, k, some ⟨b3, o3, none⟩, q3, bs.take n, (by rw [hlen.out]), by have := hR.out; omega, by have := hR.out; omega, by have := hR.out; omega, by have := hR.out; omega, HLen.out, HE.out.1, HE.out.2.drew⟩
  · have e0 : (r == 0) = false := by simp [h0]
    by_cases h1 : r = 1
    · subst h1
      have hI : 0 < (bs.length : Int) := by have := HL.out; omega
      obtain ⟨g, e3⟩ : ∃ g, p3 = some ⟨g, 0, none⟩ := by
        rcases k3.2 with ⟨e, hz⟩ | ⟨g, cap, cur, e, -⟩
        · omega
        · simp at e; exact ⟨g, e.1⟩
      subst e3
      have hgb : Hid (W.heap.size < g ∧ g < w3.heap.size) := by have := hlo.out g rfl; have := z2.out; show _ ∧ _; omega
      have c1 := (M.cell 1).trans (show _ = some _ from rfl)
      have g1 := Gen.But.cell (b := W.heap.size) c1 (show w3.heap.size ≠ W.heap.size by have := z3.out; omega)
      have hne := Gen.But.some W.heap.size w4
      clear c1
      go_wp2_with fail
      refine Gen.wp_region_pick (Gen.But.pre W.heap.size) [0, 1, 2, 3, 4, 5, 7] 11 4 1 rfl rfl rfl (by kernel_rfl) (by kernel_rfl) (by kernel_rfl) (by kernel_rfl) ?_
      simp only [opsAt, List.getElem?_toArray, List.getElem?_cons_zero, List.getElem?_cons_succ]
      repeat (go_big_quiet_step (fail))
      refine wpQuiet_nil ?_
      refine Gen.wpM_only (i := 6) (by kernel_rfl) ?_
      refine Gen.mOp_call rfl (by go_simp) 37 _ #[.pointer (some ⟨W.heap.size, 0, none⟩), .int .i64 (bs.length : Int)] (fun w => by go_simp) rfl ?_
      rintro _ ⟨n1, rfl⟩
      refine (l1Next_c W.heap.size p q cs (0 + 10 + 1 + 1) (bs.length : Int) _ (hs4.drewN n1) (by omega) (by omega) (by omega) (by have := HL.out; omega)).mono ?_
      rintro e w5 ⟨x, rfl, x0, y0, hs5, hg5⟩
      refine ⟨_, rfl, ⟨⟨w5, hg5⟩, rfl⟩, ?_⟩
      obtain ⟨x, rfl⟩ := Int.eq_ofNat_of_zero_le x0
      have hgw : w4.grownBy w5 (some W.heap.size) := grownBy_trans (grownBy_drewN w4 n1 _) hg5
      replace k3 := k3.other hgw (fun j hj e => by have := hlo.out j hj; have := z2.out; simp at e; omega)
      replace A0 := A0.other hgw (fun e => by have := HW0.out; simp at e; omega)
      replace M := M.other hgw (fun e => by have := z3.out; simp at e; omega)
      replace BW := below_of_grown BW hgw
      have hne5 := Gen.But.some W.heap.size w5
      clear hgw hg5 hne hs4 g1 hBW hM hA
      refine Gen.wpM_only (i := 8) (by kernel_rfl) ?_
      refine Gen.mOp_call rfl (by go_simp) 37 _ #[.pointer (some ⟨W.heap.size, 0, none⟩), .int .i64 256] (fun w => by go_simp) rfl ?_
      rintro _ ⟨n2, rfl⟩
      refine (l1Next_c W.heap.size p q cs (0 + 10 + 1 + 1 + 1) 256 _ (hs5.drewN n2) (by omega) (by omega) (by omega) (by omega)).mono ?_
      rintro e w6 ⟨y, rfl, x6, y6, hs6, hg6⟩
      refine ⟨_, rfl, ⟨⟨w6, hg6⟩, rfl⟩, ?_⟩
      obtain ⟨y, rfl⟩ := Int.eq_ofNat_of_zero_le x6
      have hgw : w5.grownBy w6 (some W.heap.size) := grownBy_trans (grownBy_drewN w5 n2 _) hg6
      replace k3 := k3.other hgw (fun j hj e => by have := hlo.out j hj; have := z2.out; simp at e; omega)
      replace A0 := A0.other hgw (fun e => by have := HW0.out; simp at e; omega)
      replace M := M.other hgw (fun e => by have := z3.out; simp at e; omega)
      replace BW := below_of_grown BW hgw
      have hne6 := Gen.But.some W.heap.size w6
      have hxI : (x : Int) < (bs.length : Int) := by omega
      have hyI : (y : Int) % 256 = (y : Int) := by omega
      clear hgw hg6 hne5 hs5
      refine Gen.wpM_more (Gen.But.pre W.heap.size) [9, 10] 2 0 rfl (by kernel_rfl) (by kernel_rfl) (by kernel_rfl) (by kernel_rfl) ?_
      simp only [opsAt, List.getElem?_toArray, List.getElem?_cons_zero, List.getElem?_cons_succ]
      go_simp
      repeat (go_big_quiet_step (fail))
      refine wpQuiet_nil ?_
      refine Gen.wpM_end (by kernel_rfl) rfl (by kernel_rfl) (by decide) ?_
      rintro _ ⟨n3, rfl⟩
      simp only [List.drop_succ_cons, List.drop_zero]
      replace k3 : Own (w6.drewN n3) w2.heap.size (.slice (some ⟨g, 0, none⟩) bs.length q3) bs := k3
      replace A0 : Arr (w6.drewN n3) w.heap.size 25 [.int .i64 0, .slice none 0 0] := A0
      replace M : Arr (w6.drewN n3) w3.heap.size 25 [.int .i64 k, .slice (some ⟨g, 0, none⟩) bs.length q3] := M
      replace BW : Below W.heap.size W (w6.drewN n3) := BW.trans ⟨rfl, rfl, rfl, Nat.le_refl _, fun _ _ => rfl⟩
      generalize w6.drewN n3 = w7 at *
      have hxl : x < bs.length := by omega
      have cx := World.ownsRow.cellAt k3 x (by omega)
      rw [u8v_at hxl] at cx
      unfold at8 at cx
      have fx := World.ownsRow.frozenAt k3 x
      obtain ⟨z, hz⟩ : ∃ z : UInt8, (y : Int) = ((z.toNat : Nat) : Int) := ⟨UInt8.ofNat y, by rw [UInt8.toNat_ofNat']; omega⟩
      have R := World.ownsRow.stored k3 x (u8v z)
      have hR8 : Own (w7.setCell ⟨g, x, none⟩ (u8v z)) w2.heap.size (.slice (some ⟨g, 0, none⟩) bs.length q3) (bs.set x z) := by
        unfold Own
        rw [List.length_set, List.map_set]
        exact R.1
      have BWw : Below w.heap.size w w7 := B0.trans (BW.mono (by have := HW0.out; omega))
      have hlocT := hloc.out
      have HLS : Hid ((bs.set x z).length = bs.length) := List.length_set
      have HLen : Hid ((bs.set x z).length ≤ 161) := by have := HL.out; show _ ≤ _; rw [HLS.out]; omega
      have M8 := M.setOther (a := ⟨g, x, none⟩) (show w3.heap.size ≠ g by have := hgb.out; omega) (u8v z)
      have A8 := A0.setOther (a := ⟨g, x, none⟩) (show w.heap.size ≠ g by have := hgb.out; have := HW0.out; omega) (u8v z)
      have B8 := BWw.grown (grownBy_set w7 g x (u8v z)) BWw.size (fun k hk => by simp at hk; have := hgb.out; have := HW0.out; omega)
      have rz := Rd.own hR8
      unfold u8v at rz M8 A8 B8
      rw [← hz] at rz M8 A8 B8
      generalize bs.set x z = sd at *
      have HM : Hid (Arr _ _ _ _) := M8
      have HA : Hid (Arr _ _ _ _) := A8
      have HR8 : Hid (Rd _ _ _ _) := rz
      have HB8 : Hid (Below _ _ _) := B8
      clear k3 M8 A8 B8 rz BWw BW A0 M R hR8 hz
      go_wp2_with fail
      have M := HM.out
      have A0 := HA.out
      have rT := HR8.out
      have BWw := HB8.out
      clear HM HA HR8 HB8 cx fx
      generalize w7.setCell ⟨g, x, none⟩ (.int .u8 (y : Int)) = w8 at *
      have hE := msg_end BWw rT hlocT (.int .i64 k) (.slice (some ⟨g, 0, none⟩) bs.length q3)
      have c0 := (M.cell 0).trans (show _ = some _ from rfl)
      have c1 := (M.cell 1).trans (show _ = some _ from rfl)
      have d0 := (A0.cell 0).trans (show _ = some _ from rfl)
      have d1 := (A0.cell 1).trans (show _ = some _ from rfl)
      have fz := M.frozen
      have fy := A0.frozen
      have HE : Hid (_ ∧ _) := hE
      clear A0 M rT BWw hlocT hE
      go_region
      go_wp2
      exact bodyPost_ret (v := .tuple #[.int .i64 k, .agg #[.int .i64 k, .slice (some ⟨g, 0, none⟩) bs.length q3]]) (by simp [results, Try.results8, go_sem, d0, d1]) rfl ⟨k, k, some ⟨g, 0, none⟩, q3, sd, (by rw [HLS.out]), by have := hR.out; omega, by have := hR.out; omega, by have := hR.out; omega, by have := hR.out; omega, HLen.out, HE.out.1, HE.out.2.drew⟩
    · have e1 : (r == 1) = false := by simp [h1]
      by_cases h2 : r = 2
      · subst h2
        go_wp2_with fail
        refine (l1Pick_c _ p q cs (0 + 10 + 1 + 1) w4.heap.size [1, 2, 3] 3 _ (hs4.keep (alloc_below _ _)) (by omega) (by omega) rfl (by decide) (by decide) (by have := hs4.lt; omega) (new_ints _ _ _ [1, 2, 3] rfl)).mono ?_
        rintro e w5 ⟨k5, hk5, rfl, hs5, hg5⟩
        have hR5 : Hid (1 ≤ k5 ∧ k5 ≤ 3) := by
          show _ ∧ _
          simp only [List.mem_cons, List.not_mem_nil, or_false] at hk5
          omega
        replace A0 := (A0.stay (alloc_below _ _)).other hg5 (fun e => by have := HW0.out; simp at e; omega)
        replace BW := below_of_grown (Below.mk BW _) hg5
        have z5 : Hid (W.heap.size < w5.heap.size) := hs5.lt
        clear hk5 hg5 hs4 M k3
        go_wp2_with fail
        refine (l6Bent_c _ p q cs (0 + 10 + 1 + 1 + 1) w5 hs5 (by omega) (by omega)).mono ?_
        rintro e w6 ⟨km, u, b6, t6, rfl, m0, m1, hl6, -, -, ho6, -, hg6⟩
        obtain ⟨p6, q6, rfl, r6⟩ := ho6.rd
        replace A0 := A0.other hg6 (fun e => by have := HW0.out; simp at e; omega)
        replace BW := below_of_grown BW hg6
        have hE := msg_end (B0.trans (BW.mono (by have := HW0.out; omega))) r6 (fun y hy => by subst hy; have := ho6.ge y.block rfl; have := z5.out; have := HW0.out; omega) (.int .i64 km) (.slice p6 b6.length q6)
        have d0 := (A0.cell 0).trans (show _ = some _ from rfl)
        have d1 := (A0.cell 1).trans (show _ = some _ from rfl)
        have fy := A0.frozen
        have HE : Hid (_ ∧ _) := hE
        clear A0 ho6 r6 BW hE hg6 hs5
        go_wp2_with fail
        exact bodyPost_ret (v := .tuple #[.int .i64 k5, .agg #[.int .i64 km, .slice p6 b6.length q6]]) (by simp [results, Try.results8, go_sem, d0, d1]) rfl ⟨k5, km, p6, q6, b6, rfl, hR5.out.1, hR5.out.2, m0, m1, hl6, HE.out.1, HE.out.2⟩
      · have e2 : (r == 2) = false := by simp [h2]
        have rT := Rd.own k3
        have BWw := hBW.out
        have hlocT := hloc.out
        have HLen : Hid (bs.length ≤ 161) := by have := HL.out; show _ ≤ _; omega
        clear k3 BW hs4
        have hE := msg_end BWw rT hlocT (.int .i64 k) (.slice p3 bs.length q3)
        have c0 := (M.cell 0).trans (show _ = some _ from rfl)
        have c1 := (M.cell 1).trans (show _ = some _ from rfl)
        have d0 := (A0.cell 0).trans (show _ = some _ from rfl)
        have d1 := (A0.cell 1).trans (show _ = some _ from rfl)
        have fz := M.frozen
        have fy := A0.frozen
        have HE : Hid (_ ∧ _) := hE
        clear A0 M rT BWw hlocT hE
        go_wp2_with fail
        go_region
        go_wp2
        exact bodyPost_ret (v := .tuple #[.int .i64 k, .agg #[.int .i64 k, .slice p3 bs.length q3]]) (by simp [results, Try.results8, go_sem, d0, d1]) rfl ⟨k, k, p3, q3, bs, rfl, by have := hR.out; omega, by have := hR.out; omega, by have := hR.out; omega, by have := hR.out; omega, HLen.out, HE.out.1, HE.out.2.drew⟩
end Go.Proofs.Ytpbkncliepkhaaa

