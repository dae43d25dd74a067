/- The draws of chapter 11: what HearClient is asked at (written by tools/draw_st.py). -/
import Derived.Test.YtiabacnmmojfjaaGreatDoorDrawSu
import Derived.Test.YtiabacnmmojfjaaGreatDoorShkU
import Derived.Test.YtiabacnmmojfjaaGreatDoorJoint6
namespace Go.Proofs.YtiabacnmmojfjaaGreatDoor
open Go.ChangeShapes Go.WideShapes Go.ChangeAt Go.RowKit

theorem msg_mkN {w : World} {a : MsgD} {p : Option Addr} {q n : Nat} (r : Rd w p q a.2) (h : a.2.length = n) : msgC.rep w a [.int .i64 a.1, .slice p n q] := by subst h; exact msg_mk r
theorem hc_fin {v : World} {g : Nat} {x0 x1 x2 x3 y0 y1 : Value} {p : Option Addr} {q : Nat} {bs : List UInt8} (h : Rd v p q bs) (hd : ∀ y : Addr, p = some y → y.block ≠ g ∧ y.block ≠ g + 1) : Rd ((((((v.setCell ⟨g, 0, none⟩ x0).setCell ⟨g, 1, none⟩ x1).setCell ⟨g, 2, none⟩ x2).setCell ⟨g, 3, none⟩ x3).setCell ⟨g + 1, 0, none⟩ y0).setCell ⟨g + 1, 1, none⟩ y1) p q bs :=
  rd_set (rd_set (rd_set (rd_set (rd_set (rd_set h (fun y hy => (hd y hy).1) _) (fun y hy => (hd y hy).1) _) (fun y hy => (hd y hy).1) _) (fun y hy => (hd y hy).1) _) (fun y hy => (hd y hy).2) _) (fun y hy => (hd y hy).2) _
theorem hc_below {w v : World} {x0 x1 x2 x3 y0 y1 : Value} (h : Below w.heap.size w v) : Below w.heap.size w ((((((v.setCell ⟨w.heap.size, 0, none⟩ x0).setCell ⟨w.heap.size, 1, none⟩ x1).setCell ⟨w.heap.size, 2, none⟩ x2).setCell ⟨w.heap.size, 3, none⟩ x3).setCell ⟨w.heap.size + 1, 0, none⟩ y0).setCell ⟨w.heap.size + 1, 1, none⟩ y1) :=
  (((((h.setCell (Nat.le_refl _) _).setCell (Nat.le_refl _) _).setCell (Nat.le_refl _) _).setCell (Nat.le_refl _) _).setCell (Nat.le_succ _) _).setCell (Nat.le_succ _) _
set_option maxRecDepth 4000 in
set_option maxHeartbeats 4000000 in
theorem drawHC_c (p : Option Addr) (q : Nat) (cs : List UInt8) (w : World) (hr : Rd w p q cs) :
    Calls Tryz.prog 20 #[.slice p cs.length q] w fun e w' => ∃ (s : SideD) (m : MsgD) (us vs : List Value), e = .returned (.tuple #[.agg us.toArray, .agg vs.toArray]) ∧ sideC.rep w' s us ∧ msgC.rep w' m vs ∧ Below w.heap.size w w' := by
  have A0 := (Arr.new w [.int .i64 0, .slice none 0 0, .int .i64 0, .slice none 0 0] 25).old _ (.cells #[.int .i64 0, .slice none 0 0] 46)
  have A1 := Arr.new (w.alloc (.cells #[.int .i64 0, .slice none 0 0, .int .i64 0, .slice none 0 0] 25)) [.int .i64 0, .slice none 0 0] 46
  rw [size_alloc] at A1
  have B0 := Below.mk (alloc_below w (.cells #[.int .i64 0, .slice none 0 0, .int .i64 0, .slice none 0 0] 25)) (.cells #[.int .i64 0, .slice none 0 0] 46)
  replace hr := hr.keep B0
  have hresS : Hid ((Tryz.prog.info? 25).map (·.size) = some 4) := by show _ = _; kernel_rfl
  have hresM : Hid ((Tryz.prog.info? 46).map (·.size) = some 2) := by show _ = _; kernel_rfl
  generalize hW : (w.alloc (.cells #[.int .i64 0, .slice none 0 0, .int .i64 0, .slice none 0 0] 25)).alloc (.cells #[.int .i64 0, .slice none 0 0] 46) = W at *
  have HW0 : Hid (W.heap.size = w.heap.size + 2) := by show _ = _; rw [← hW, size_alloc, size_alloc]
  go_enter Tryz.func20, Tryz.ntmps20
  go_wp2_with fail
  clear hW
  refine (l1Source_c p q cs W hr).mono ?_
  rintro e w0 ⟨rfl, hs0, BW, hz0⟩
  replace A0 := A0.stay BW
  replace A1 := A1.stay BW
  clear hz0 hr
  go_wp2_with fail
  refine (l11Draw_c _ p q cs 0 w0 hs0 (by omega) (by omega)).mono ?_
  rintro e w1 ⟨pu, pv, qu, qv, x, rfl, hfx, ho, hk, hs1, hg1⟩
  replace A0 := A0.other hg1 (fun e => by have := HW0.out; simp at e; omega)
  replace A1 := A1.other hg1 (fun e => by have := HW0.out; simp at e; omega)
  replace BW := below_of_grown BW hg1
  obtain ⟨A, HA⟩ : ∃ A, Hid (A = stE x) := ⟨_, rfl⟩
  have KSt := specSt_k x _ w1 (side_mk (Rd.own ho) (Rd.own hk))
  rw [← HA.out] at KSt
  have HAl : Hid (0 < A.2.2.length) := by show _ < _; rw [HA.out, stE_ok hfx]; exact Nat.zero_lt_one
  have HAm : Hid ((headM A.2.2).2.length = 14) := by show _ = _; rw [HA.out, stE_ok hfx]; exact helM_len hfx (sf_parts hfx).2.2.1 (sf_parts hfx).2.2.2.1
  have z1 : Hid (W.heap.size < w1.heap.size) := hs1.lt
  clear hs0 hg1 ho hk hfx
  go_wp2_with fail
  refine KSt.mono ?_
  rintro e w2 ⟨usa, fa, rfl, Ka, hb2⟩
  obtain ⟨pa1, qa1, pa2, qa2, pa3, qa3, pa4, qa4, pa5, qa5, pa6, qa6, pa7, qa7, pa8, qa8, pas, qas, rfl, -, -, -, -, -, -, -, -, -⟩ := endResult_rep (endResultC.toRep Ka)
  have hl1 := alloc_below w2 (.cells #[.int .i64 A.1, .int .i64 A.2.1.1.1, .slice pa1 A.2.1.1.2.1.length qa1, .int .i64 A.2.1.1.2.2.1, .slice pa2 A.2.1.1.2.2.2.length qa2, .int .i64 A.2.1.2.1, .int .i64 A.2.1.2.2.1, .slice pa3 A.2.1.2.2.2.1.length qa3, .slice pa4 A.2.1.2.2.2.2.1.length qa4, .slice pa5 A.2.1.2.2.2.2.2.1.length qa5, .slice pa6 A.2.1.2.2.2.2.2.2.1.length qa6, .slice pa7 A.2.1.2.2.2.2.2.2.2.1.length qa7, .slice pa8 A.2.1.2.2.2.2.2.2.2.2.length qa8, .slice pas A.2.2.length qas] 43)
  have Na := Arr.new w2 [.int .i64 A.1, .int .i64 A.2.1.1.1, .slice pa1 A.2.1.1.2.1.length qa1, .int .i64 A.2.1.1.2.2.1, .slice pa2 A.2.1.1.2.2.2.length qa2, .int .i64 A.2.1.2.1, .int .i64 A.2.1.2.2.1, .slice pa3 A.2.1.2.2.2.1.length qa3, .slice pa4 A.2.1.2.2.2.2.1.length qa4, .slice pa5 A.2.1.2.2.2.2.2.1.length qa5, .slice pa6 A.2.1.2.2.2.2.2.2.1.length qa6, .slice pa7 A.2.1.2.2.2.2.2.2.2.1.length qa7, .slice pa8 A.2.1.2.2.2.2.2.2.2.2.length qa8, .slice pas A.2.2.length qas] 43
  have hb3 := Below.step hb2 hl1
  replace Ka := endResultC.stay Ka hl1
  replace A0 := A0.stay hb3
  replace A1 := A1.stay hb3
  have hs := hs1.keep hb3
  replace BW := Below.step BW hb3
  have hW2 : Hid (w1.heap.size ≤ w2.heap.size) := hb2.size
  clear hb2 hl1 hb3 KSt hs1
  go_wp2_with fail
  generalize w2.alloc (.cells #[.int .i64 A.1, .int .i64 A.2.1.1.1, .slice pa1 A.2.1.1.2.1.length qa1, .int .i64 A.2.1.1.2.2.1, .slice pa2 A.2.1.1.2.2.2.length qa2, .int .i64 A.2.1.2.1, .int .i64 A.2.1.2.2.1, .slice pa3 A.2.1.2.2.2.1.length qa3, .slice pa4 A.2.1.2.2.2.2.1.length qa4, .slice pa5 A.2.1.2.2.2.2.2.1.length qa5, .slice pa6 A.2.1.2.2.2.2.2.2.1.length qa6, .slice pa7 A.2.1.2.2.2.2.2.2.2.1.length qa7, .slice pa8 A.2.1.2.2.2.2.2.2.2.2.length qa8, .slice pas A.2.2.length qas] 43) = V1 at *
  obtain ⟨fae, fad, -, KAd, -⟩ := endR_parts (us := [.int .i64 A.2.1.1.1, .slice pa1 A.2.1.1.2.1.length qa1, .int .i64 A.2.1.1.2.2.1, .slice pa2 A.2.1.1.2.2.2.length qa2, .int .i64 A.2.1.2.1, .int .i64 A.2.1.2.2.1, .slice pa3 A.2.1.2.2.2.1.length qa3, .slice pa4 A.2.1.2.2.2.2.1.length qa4, .slice pa5 A.2.1.2.2.2.2.2.1.length qa5, .slice pa6 A.2.1.2.2.2.2.2.2.1.length qa6, .slice pa7 A.2.1.2.2.2.2.2.2.2.1.length qa7, .slice pa8 A.2.1.2.2.2.2.2.2.2.2.length qa8]) Ka rfl
  obtain ⟨vd, xd, fd, ed, OD, -⟩ := KAd
  cases ed
  clear Ka HA
  obtain ⟨M, D, HD⟩ : ∃ M D, A.2.2 = M :: D := by
    cases h : A.2.2 with
    | nil => exact absurd HAl.out (by rw [h]; simp)
    | cons M D => exact ⟨M, D, rfl⟩
  have HM14 : Hid (M.2.length = 14) := by have h := HAm.out; rw [HD] at h; exact h
  have OD2 := OD
  rw [HD] at OD2
  obtain ⟨ga0, qa0, pm, qm, ea, hq1, hq2, hgB, m0, m1, om, hdg, -⟩ := body_at (P := []) OD2
  rw [← HD] at hq1
  obtain ⟨gm, egm⟩ : ∃ g, pm = some ⟨g, 0, none⟩ := by
    rcases om.2 with ⟨e, hz⟩ | ⟨g, cap, cur, e, -⟩
    · have := HM14.out; omega
    · simp at e; exact ⟨g, e.1⟩
  subst egm
  rw [List.length_nil, Nat.zero_mul] at m0 m1
  rw [Nat.zero_add] at m1
  rw [List.nil_append, ← HD] at ea
  have HLn : Hid (A.2.2.length = A.2.2.length) := rfl
  cases ea
  have hgm : Hid (w1.heap.size ≤ gm) := om.ge gm rfl
  have hln : (0 : Int) < (A.2.2.length : Int) := by have := HAl.out; omega
  have n13 := (Na.cell 13).trans (show _ = some _ from rfl)
  have Mm := Arr.new V1 [.int .i64 M.1, .slice (some ⟨gm, 0, none⟩) M.2.length qm] 46
  have hl2 := alloc_below V1 (.cells #[.int .i64 M.1, .slice (some ⟨gm, 0, none⟩) M.2.length qm] 46)
  have hgmV : Hid (gm < V1.heap.size) := om.lt gm rfl
  replace A0 := A0.stay hl2
  replace A1 := A1.stay hl2
  replace om := om.stay hl2
  replace hs := hs.keep hl2
  replace BW := Below.step BW hl2
  have hVm : Hid (W.heap.size < V1.heap.size) := by have h := Na.lt; have := hW2.out; have := z1.out; show _ < _; omega
  clear OD OD2 hl2 HD hdg hgB
  go_wp2_with fail
  generalize V1.alloc (.cells #[.int .i64 M.1, .slice (some ⟨gm, 0, none⟩) M.2.length qm] 46) = V2 at *
  clear m0 m1 n13 Na hq1 hq2 hln
  refine (l1Next_c _ p q cs 10 8 V2 hs (by omega) (by omega) (by omega) (by omega)).mono ?_
  rintro e w4 ⟨r, rfl, x0, y0, hs4, hg4⟩
  replace A0 := A0.other hg4 (fun e => by have := HW0.out; simp at e; omega)
  replace A1 := A1.other hg4 (fun e => by have := HW0.out; simp at e; omega)
  replace BW := below_of_grown BW hg4
  replace Mm := Mm.other hg4 (fun e => by have := hVm.out; simp at e; omega)
  replace om := om.other hg4 (fun k hk e => by cases hk; have := hgm.out; have := z1.out; simp at e; omega)
  have hmb : Hid (V1.heap.size ≠ W.heap.size) := by have := hVm.out; show _ ≠ _; omega
  replace hs := hs4
  clear hs4 hg4
  have HML : Hid (V1.heap.size < w4.heap.size) := Mm.lt
  by_cases h0 : r = 0
  · subst h0
    have hM14 : M.2.length = 14 := HM14.out
    have hI : (0 : Int) < (M.2.length : Int) := by omega
    have g1 := Gen.But.cell (b := W.heap.size) ((Mm.cell 1).trans (show _ = some _ from rfl)) hmb.out
    have hne := Gen.But.some W.heap.size w4
    have HB0 : Hid (M.2.length = 14) := hM14
    clear hM14
    go_wp2_with fail
    refine Gen.wp_region_pick (Gen.But.pre W.heap.size) [0, 1, 2, 3, 4, 5, 7] 11 4 1 rfl rfl rfl (by kernel_rfl) (by kernel_rfl) (by kernel_rfl) (by kernel_rfl) ?_
    simp only [opsAt, List.getElem?_toArray, List.getElem?_cons_zero, List.getElem?_cons_succ]
    repeat (go_big_quiet_step (fail))
    refine wpQuiet_nil ?_
    refine Gen.wpM_only (i := 6) (by kernel_rfl) ?_
    refine Gen.mOp_call rfl (by go_simp) 48 _ #[.pointer (some ⟨W.heap.size, 0, none⟩), .int .i64 (M.2.length : Int)] (fun w => by go_simp) rfl ?_
    rintro _ ⟨n1, rfl⟩
    refine (l1Next_c W.heap.size p q cs (10 + 1) (M.2.length : Int) _ (hs.drewN n1) (by omega) (by omega) (by omega) (by have := HB0.out; omega)).mono ?_
    rintro e w5 ⟨x5, rfl, x05, y05, hs5, hg5⟩
    refine ⟨_, rfl, ⟨⟨w5, hg5⟩, rfl⟩, ?_⟩
    obtain ⟨x5, rfl⟩ := Int.eq_ofNat_of_zero_le x05
    have hgw : w4.grownBy w5 (some W.heap.size) := grownBy_trans (grownBy_drewN w4 n1 _) hg5
    replace A0 := A0.other hgw (fun e => by have := HW0.out; simp at e; omega)
    replace A1 := A1.other hgw (fun e => by have := HW0.out; simp at e; omega)
    replace BW := below_of_grown BW hgw
    replace Mm := Mm.other hgw (fun e => by have := hVm.out; simp at e; omega)
    replace om := om.other hgw (fun k hk e => by cases hk; have := hgm.out; have := z1.out; simp at e; omega)
    have hne5 := Gen.But.some W.heap.size w5
    replace hs := hs5
    clear hgw hg5 hne hs5 g1
    refine Gen.wpM_only (i := 8) (by kernel_rfl) ?_
    refine Gen.mOp_call rfl (by go_simp) 48 _ #[.pointer (some ⟨W.heap.size, 0, none⟩), .int .i64 256] (fun w => by go_simp) rfl ?_
    rintro _ ⟨n2, rfl⟩
    refine (l1Next_c W.heap.size p q cs (10 + 1 + 1) 256 _ (hs.drewN n2) (by omega) (by omega) (by omega) (by omega)).mono ?_
    rintro e w6 ⟨y, rfl, x6, y6, hs6, hg6⟩
    refine ⟨_, rfl, ⟨⟨w6, hg6⟩, rfl⟩, ?_⟩
    obtain ⟨y, rfl⟩ := Int.eq_ofNat_of_zero_le x6
    have hgw : w5.grownBy w6 (some W.heap.size) := grownBy_trans (grownBy_drewN w5 n2 _) hg6
    replace A0 := A0.other hgw (fun e => by have := HW0.out; simp at e; omega)
    replace A1 := A1.other hgw (fun e => by have := HW0.out; simp at e; omega)
    replace BW := below_of_grown BW hgw
    replace Mm := Mm.other hgw (fun e => by have := hVm.out; simp at e; omega)
    replace om := om.other hgw (fun k hk e => by cases hk; have := hgm.out; have := z1.out; simp at e; omega)
    have hne6 := Gen.But.some W.heap.size w6
    replace hs := hs6
    have hxI : (x5 : Int) < (M.2.length : Int) := by omega
    have hyI : (y : Int) % 256 = (y : Int) := by omega
    clear hgw hg6 hne5 hs6
    refine Gen.wpM_more (Gen.But.pre W.heap.size) [9, 10] 2 0 rfl (by kernel_rfl) (by kernel_rfl) (by kernel_rfl) (by kernel_rfl) ?_
    simp only [opsAt, List.getElem?_toArray, List.getElem?_cons_zero, List.getElem?_cons_succ]
    go_simp
    repeat (go_big_quiet_step (fail))
    refine wpQuiet_nil ?_
    refine Gen.wpM_end (by kernel_rfl) rfl (by kernel_rfl) (by decide) ?_
    rintro _ ⟨n3, rfl⟩
    simp only [List.drop_succ_cons, List.drop_zero]
    replace om : Own (w6.drewN n3) w1.heap.size (.slice (some ⟨gm, 0, none⟩) M.2.length qm) M.2 := om
    replace A0 : Arr (w6.drewN n3) w.heap.size 25 [.int .i64 0, .slice none 0 0, .int .i64 0, .slice none 0 0] := A0
    replace A1 : Arr (w6.drewN n3) (w.heap.size + 1) 46 [.int .i64 0, .slice none 0 0] := A1
    replace Mm : Arr (w6.drewN n3) V1.heap.size 46 [.int .i64 M.1, .slice (some ⟨gm, 0, none⟩) M.2.length qm] := Mm
    replace BW : Below W.heap.size W (w6.drewN n3) := BW.trans ⟨rfl, rfl, rfl, Nat.le_refl _, fun _ _ => rfl⟩
    replace hs := hs.drewN n3
    generalize w6.drewN n3 = w7 at *
    have hxl : x5 < M.2.length := by omega
    have cx := World.ownsRow.cellAt om x5 (by omega)
    rw [u8v_at hxl] at cx
    unfold at8 at cx
    have fx := World.ownsRow.frozenAt om x5
    obtain ⟨z, hz⟩ : ∃ z : UInt8, (y : Int) = ((z.toNat : Nat) : Int) := ⟨UInt8.ofNat y, by rw [UInt8.toNat_ofNat']; omega⟩
    have R := World.ownsRow.stored om x5 (u8v z)
    have hR8 : Own (w7.setCell ⟨gm, x5, none⟩ (u8v z)) w1.heap.size (.slice (some ⟨gm, 0, none⟩) M.2.length qm) (M.2.set x5 z) := by
      unfold Own
      rw [List.length_set, List.map_set]
      exact R.1
    have HLS : Hid ((M.2.set x5 z).length = M.2.length) := List.length_set
    have RM := Rd.own hR8
    replace Mm := Mm.setOther (a := ⟨gm, x5, none⟩) (show V1.heap.size ≠ gm by have := hgmV.out; omega) (u8v z)
    replace A0 := A0.setOther (a := ⟨gm, x5, none⟩) (show w.heap.size ≠ gm by have := hgm.out; have := z1.out; have := HW0.out; omega) (u8v z)
    replace A1 := A1.setOther (a := ⟨gm, x5, none⟩) (show w.heap.size + 1 ≠ gm by have := hgm.out; have := z1.out; have := HW0.out; omega) (u8v z)
    replace BW := BW.grown (grownBy_set w7 gm x5 (u8v z)) BW.size (fun k hk => by simp at hk; have := hgm.out; have := z1.out; omega)
    replace hs := hs.other (grownBy_set w7 gm x5 (u8v z)) (fun k hk => by simp at hk; have := hgm.out; have := z1.out; omega)
    unfold u8v at RM Mm A0 A1 BW hs
    rw [← hz] at RM Mm A0 A1 BW hs
    generalize M.2.set x5 z = sd at *
    generalize e6 : w7.setCell ⟨gm, x5, none⟩ (.int .u8 (y : Int)) = w8 at *
    clear om R hR8 hz hne6
    have HLm : Hid (∀ y, (some (⟨gm, 0, none⟩ : Addr)) = some y → W.heap.size < y.block) := fun y hy => by cases hy; show _ < gm; have := hgm.out; have := z1.out; omega
    have hn1 : V1.heap.size ≠ w.heap.size := by have := hVm.out; have := HW0.out; omega
    have hn2 : V1.heap.size ≠ w.heap.size + 1 := by have := hVm.out; have := HW0.out; omega
    have KB : Hid (∀ W9, Below w8.heap.size w8 W9 → Calls Tryz.prog 35 #[.pointer (some ⟨W.heap.size, 0, none⟩)] W9 fun e w9 => ∃ (pu2 pv2 : Option Addr) (qu2 qv2 : Nat) (s : SideD), e = .returned (.agg #[.int .i64 s.1, .slice pu2 s.2.1.length qu2, .int .i64 s.2.2.1, .slice pv2 s.2.2.2.length qv2]) ∧ Hid (Rd w9 pu2 qu2 s.2.1 ∧ Rd w9 pv2 qv2 s.2.2.2 ∧ Rd w9 (some ⟨gm, 0, none⟩) qm sd ∧ (∀ y : Addr, pu2 = some y → y.block ≠ w.heap.size ∧ y.block ≠ w.heap.size + 1) ∧ (∀ y : Addr, pv2 = some y → y.block ≠ w.heap.size ∧ y.block ≠ w.heap.size + 1) ∧ Below w.heap.size w w9) ∧ w9.cell? ⟨w.heap.size, 0, none⟩ = some (.int .i64 0) ∧ w9.cell? ⟨w.heap.size, 1, none⟩ = some (.slice none 0 0) ∧ w9.cell? ⟨w.heap.size, 2, none⟩ = some (.int .i64 0) ∧ w9.cell? ⟨w.heap.size, 3, none⟩ = some (.slice none 0 0) ∧ (∀ i, w9.frozen? ⟨w.heap.size, i, none⟩ = false) ∧ w9.cell? ⟨w.heap.size + 1, 0, none⟩ = some (.int .i64 0) ∧ w9.cell? ⟨w.heap.size + 1, 1, none⟩ = some (.slice none 0 0) ∧ (∀ i, w9.frozen? ⟨w.heap.size + 1, i, none⟩ = false) ∧ w9.cell? ⟨V1.heap.size, 0, none⟩ = some (.int .i64 M.1) ∧ w9.cell? ⟨V1.heap.size, 1, none⟩ = some (.slice (some ⟨gm, 0, none⟩) M.2.length qm)) := fun W9 hb => by
      refine (l11Bent_c W.heap.size p q cs (10 + 1 + 1 + 1) W9 (hs.keep hb) (by omega) (by omega)).mono ?_
      rintro e w9 ⟨pu2, pv2, qu2, qv2, s, t9, rfl, -, -, ru, rv, lu, lv, k1, k2, hs9, hg9⟩
      have hgw := grownBy_trans (grownBy_low hb (some W.heap.size)) hg9
      have A0' := A0.other hgw (fun e => by have := HW0.out; simp at e; omega)
      have A1' := A1.other hgw (fun e => by have := HW0.out; simp at e; omega)
      have Mm' := Mm.other hgw (fun e => by have := hVm.out; simp at e; omega)
      have RM' := RM.other hgw (fun _ y hy e => by have := HLm.out y hy; simp at e; omega)
      have BW' := below_of_grown BW hgw
      have h1 := hb.size
      have h2 := hs.lt
      have h3 := HW0.out
      exact ⟨pu2, pv2, qu2, qv2, s, rfl, ⟨ru, rv, RM', fun y hy => by have := lu y hy; omega, fun y hy => by have := lv y hy; omega, B0.trans (BW'.mono (by omega))⟩, A0'.cell 0, A0'.cell 1, A0'.cell 2, A0'.cell 3, A0'.frozen, A1'.cell 0, A1'.cell 1, A1'.frozen, Mm'.cell 0, Mm'.cell 1⟩
    have HM : Hid (∀ y : Addr, (some ⟨gm, 0, none⟩) = some y → y.block ≠ w.heap.size ∧ y.block ≠ w.heap.size + 1) := fun y hy => by have h1 := HLm.out y hy; have h3 := HW0.out; omega
    have m0 := (Mm.cell 0).trans (show _ = some _ from rfl)
    have m1 := (Mm.cell 1).trans (show _ = some _ from rfl)
    clear A0 A1 Mm RM hs BW
    go_wp2_with fail
    go_region_with (go_at_call 35; refine (KB.out _ (by first | exact (Below.refl _ _).drew | exact Below.refl _ _)).mono ?_; rintro e w9 ⟨pu2, pv2, qu2, qv2, s, rfl, HF, c0, c1, c2, c3, fz, d0, d1, fy, n0, n1⟩)
    all_goals go_wp2_with fail
    all_goals exact bodyPost_ret (v := .tuple #[.agg #[.int .i64 s.1, .slice pu2 s.2.1.length qu2, .int .i64 s.2.2.1, .slice pv2 s.2.2.2.length qv2], .agg #[.int .i64 M.1, .slice (some ⟨gm, 0, none⟩) M.2.length qm]]) (by simp [results, Tryz.results20, go_sem, c0, c1, c2, c3, d0, d1]) rfl ⟨s, (M.1, sd), [.int .i64 s.1, .slice pu2 s.2.1.length qu2, .int .i64 s.2.2.1, .slice pv2 s.2.2.2.length qv2], [.int .i64 M.1, .slice (some ⟨gm, 0, none⟩) M.2.length qm], rfl, side_mk (hc_fin HF.out.1 HF.out.2.2.2.1) (hc_fin HF.out.2.1 HF.out.2.2.2.2.1), msg_mkN (a := (M.1, sd)) (hc_fin HF.out.2.2.1 HM.out) HLS.out, hc_below HF.out.2.2.2.2.2⟩
  · have e0 : (r == 0) = false := by simp [h0]
    clear h0
    by_cases h1 : r = 1
    · subst h1
      go_wp2_with fail
      refine (l6Bent_c W.heap.size p q cs (10 + 1) w4 hs (by omega) (by omega)).mono ?_
      rintro e w5 ⟨k5, u, bs, t5, rfl, -, -, -, kt1, kt2, o5, hs5, hg5⟩
      obtain ⟨pb, qb, rfl, -⟩ := o5.rd
      replace A0 := A0.other hg5 (fun e => by have := HW0.out; simp at e; omega)
      replace A1 := A1.other hg5 (fun e => by have := HW0.out; simp at e; omega)
      replace BW := below_of_grown BW hg5
      replace Mm := Mm.other hg5 (fun e => by have := hVm.out; simp at e; omega)
      have hM4 : Hid (V1.heap.size < w4.heap.size) := HML.out
      replace hs := hs5
      clear hg5 hs5 om
      have HLm : Hid (∀ y, pb = some y → W.heap.size < y.block) := fun y hy => by subst hy; have := o5.ge y.block rfl; have := hM4.out; have := hVm.out; omega
      have RM := rd_row (Rd.own o5) (g := V1.heap.size) (fun y hy => by subst hy; have := o5.ge y.block rfl; have := hM4.out; omega) #[.int .i64 k5, .slice pb bs.length qb]
      have A0' := A0.rowOther (k := V1.heap.size) (by have := hVm.out; have := HW0.out; omega) #[.int .i64 k5, .slice pb bs.length qb]
      have A1' := A1.rowOther (k := V1.heap.size) (by have := hVm.out; have := HW0.out; omega) #[.int .i64 k5, .slice pb bs.length qb]
      have Mm' := Mm.row [.int .i64 k5, .slice pb bs.length qb]
      replace BW := Below.row BW (g := V1.heap.size) (by have := hVm.out; omega) #[.int .i64 k5, .slice pb bs.length qb]
      replace hs := hs.other (grownBy_row w5 V1.heap.size #[.int .i64 k5, .slice pb bs.length qb]) (fun k hk => by simp at hk; have := hVm.out; omega)
      generalize e6 : w5.setRow V1.heap.size #[.int .i64 k5, .slice pb bs.length qb] = w6 at *
      go_wp2_with (refine wpList_store_row rfl 46 _ _ rfl V1.heap.size #[.int .i64 k5, .slice pb bs.length qb] rfl rfl 46 #[.int .i64 M.1, .slice (some ⟨gm, 0, none⟩) M.2.length qm] Mm hresM.out rfl (by simp [Value.oneCell']) ?_)
      rw [e6]
      go_simp
      clear A0 A1 Mm
      have A0 := A0'
      have A1 := A1'
      have Mm := Mm'
      clear A0' A1' Mm' e6
      have hn1 : V1.heap.size ≠ w.heap.size := by have := hVm.out; have := HW0.out; omega
      have hn2 : V1.heap.size ≠ w.heap.size + 1 := by have := hVm.out; have := HW0.out; omega
      have KB : Hid (∀ W9, Below w6.heap.size w6 W9 → Calls Tryz.prog 35 #[.pointer (some ⟨W.heap.size, 0, none⟩)] W9 fun e w9 => ∃ (pu2 pv2 : Option Addr) (qu2 qv2 : Nat) (s : SideD), e = .returned (.agg #[.int .i64 s.1, .slice pu2 s.2.1.length qu2, .int .i64 s.2.2.1, .slice pv2 s.2.2.2.length qv2]) ∧ Hid (Rd w9 pu2 qu2 s.2.1 ∧ Rd w9 pv2 qv2 s.2.2.2 ∧ Rd w9 pb qb bs ∧ (∀ y : Addr, pu2 = some y → y.block ≠ w.heap.size ∧ y.block ≠ w.heap.size + 1) ∧ (∀ y : Addr, pv2 = some y → y.block ≠ w.heap.size ∧ y.block ≠ w.heap.size + 1) ∧ Below w.heap.size w w9) ∧ w9.cell? ⟨w.heap.size, 0, none⟩ = some (.int .i64 0) ∧ w9.cell? ⟨w.heap.size, 1, none⟩ = some (.slice none 0 0) ∧ w9.cell? ⟨w.heap.size, 2, none⟩ = some (.int .i64 0) ∧ w9.cell? ⟨w.heap.size, 3, none⟩ = some (.slice none 0 0) ∧ (∀ i, w9.frozen? ⟨w.heap.size, i, none⟩ = false) ∧ w9.cell? ⟨w.heap.size + 1, 0, none⟩ = some (.int .i64 0) ∧ w9.cell? ⟨w.heap.size + 1, 1, none⟩ = some (.slice none 0 0) ∧ (∀ i, w9.frozen? ⟨w.heap.size + 1, i, none⟩ = false) ∧ w9.cell? ⟨V1.heap.size, 0, none⟩ = some (.int .i64 k5) ∧ w9.cell? ⟨V1.heap.size, 1, none⟩ = some (.slice pb bs.length qb)) := fun W9 hb => by
        refine (l11Bent_c W.heap.size p q cs t5 W9 (hs.keep hb) (by omega) (by omega)).mono ?_
        rintro e w9 ⟨pu2, pv2, qu2, qv2, s, t9, rfl, -, -, ru, rv, lu, lv, k1, k2, hs9, hg9⟩
        have hgw := grownBy_trans (grownBy_low hb (some W.heap.size)) hg9
        have A0' := A0.other hgw (fun e => by have := HW0.out; simp at e; omega)
        have A1' := A1.other hgw (fun e => by have := HW0.out; simp at e; omega)
        have Mm' := Mm.other hgw (fun e => by have := hVm.out; simp at e; omega)
        have RM' := RM.other hgw (fun _ y hy e => by have := HLm.out y hy; simp at e; omega)
        have BW' := below_of_grown BW hgw
        have h1 := hb.size
        have h2 := hs.lt
        have h3 := HW0.out
        exact ⟨pu2, pv2, qu2, qv2, s, rfl, ⟨ru, rv, RM', fun y hy => by have := lu y hy; omega, fun y hy => by have := lv y hy; omega, B0.trans (BW'.mono (by omega))⟩, A0'.cell 0, A0'.cell 1, A0'.cell 2, A0'.cell 3, A0'.frozen, A1'.cell 0, A1'.cell 1, A1'.frozen, Mm'.cell 0, Mm'.cell 1⟩
      have HM : Hid (∀ y : Addr, pb = some y → y.block ≠ w.heap.size ∧ y.block ≠ w.heap.size + 1) := fun y hy => by have h1 := HLm.out y hy; have h3 := HW0.out; omega
      have m0 := (Mm.cell 0).trans (show _ = some _ from rfl)
      have m1 := (Mm.cell 1).trans (show _ = some _ from rfl)
      clear A0 A1 Mm RM hs BW
      go_wp2_with fail
      go_region_with (go_at_call 35; refine (KB.out _ (by first | exact (Below.refl _ _).drew | exact Below.refl _ _)).mono ?_; rintro e w9 ⟨pu2, pv2, qu2, qv2, s, rfl, HF, c0, c1, c2, c3, fz, d0, d1, fy, n0, n1⟩)
      all_goals go_wp2_with fail
      all_goals exact bodyPost_ret (v := .tuple #[.agg #[.int .i64 s.1, .slice pu2 s.2.1.length qu2, .int .i64 s.2.2.1, .slice pv2 s.2.2.2.length qv2], .agg #[.int .i64 k5, .slice pb bs.length qb]]) (by simp [results, Tryz.results20, go_sem, c0, c1, c2, c3, d0, d1]) rfl ⟨s, (k5, bs), [.int .i64 s.1, .slice pu2 s.2.1.length qu2, .int .i64 s.2.2.1, .slice pv2 s.2.2.2.length qv2], [.int .i64 k5, .slice pb bs.length qb], rfl, side_mk (hc_fin HF.out.1 HF.out.2.2.2.1) (hc_fin HF.out.2.1 HF.out.2.2.2.2.1), msg_mkN (a := (k5, bs)) (hc_fin HF.out.2.2.1 HM.out) rfl, hc_below HF.out.2.2.2.2.2⟩
    · have e1 : (r == 1) = false := by simp [h1]
      clear h1
      have HLm : Hid (∀ y, (some (⟨gm, 0, none⟩ : Addr)) = some y → W.heap.size < y.block) := fun y hy => by cases hy; show _ < gm; have := hgm.out; have := z1.out; omega
      have RM := Rd.own om
      clear om
      have hn1 : V1.heap.size ≠ w.heap.size := by have := hVm.out; have := HW0.out; omega
      have hn2 : V1.heap.size ≠ w.heap.size + 1 := by have := hVm.out; have := HW0.out; omega
      have KB : Hid (∀ W9, Below w4.heap.size w4 W9 → Calls Tryz.prog 35 #[.pointer (some ⟨W.heap.size, 0, none⟩)] W9 fun e w9 => ∃ (pu2 pv2 : Option Addr) (qu2 qv2 : Nat) (s : SideD), e = .returned (.agg #[.int .i64 s.1, .slice pu2 s.2.1.length qu2, .int .i64 s.2.2.1, .slice pv2 s.2.2.2.length qv2]) ∧ Hid (Rd w9 pu2 qu2 s.2.1 ∧ Rd w9 pv2 qv2 s.2.2.2 ∧ Rd w9 (some ⟨gm, 0, none⟩) qm M.2 ∧ (∀ y : Addr, pu2 = some y → y.block ≠ w.heap.size ∧ y.block ≠ w.heap.size + 1) ∧ (∀ y : Addr, pv2 = some y → y.block ≠ w.heap.size ∧ y.block ≠ w.heap.size + 1) ∧ Below w.heap.size w w9) ∧ w9.cell? ⟨w.heap.size, 0, none⟩ = some (.int .i64 0) ∧ w9.cell? ⟨w.heap.size, 1, none⟩ = some (.slice none 0 0) ∧ w9.cell? ⟨w.heap.size, 2, none⟩ = some (.int .i64 0) ∧ w9.cell? ⟨w.heap.size, 3, none⟩ = some (.slice none 0 0) ∧ (∀ i, w9.frozen? ⟨w.heap.size, i, none⟩ = false) ∧ w9.cell? ⟨w.heap.size + 1, 0, none⟩ = some (.int .i64 0) ∧ w9.cell? ⟨w.heap.size + 1, 1, none⟩ = some (.slice none 0 0) ∧ (∀ i, w9.frozen? ⟨w.heap.size + 1, i, none⟩ = false) ∧ w9.cell? ⟨V1.heap.size, 0, none⟩ = some (.int .i64 M.1) ∧ w9.cell? ⟨V1.heap.size, 1, none⟩ = some (.slice (some ⟨gm, 0, none⟩) M.2.length qm)) := fun W9 hb => by
        refine (l11Bent_c W.heap.size p q cs (10 + 1) W9 (hs.keep hb) (by omega) (by omega)).mono ?_
        rintro e w9 ⟨pu2, pv2, qu2, qv2, s, t9, rfl, -, -, ru, rv, lu, lv, k1, k2, hs9, hg9⟩
        have hgw := grownBy_trans (grownBy_low hb (some W.heap.size)) hg9
        have A0' := A0.other hgw (fun e => by have := HW0.out; simp at e; omega)
        have A1' := A1.other hgw (fun e => by have := HW0.out; simp at e; omega)
        have Mm' := Mm.other hgw (fun e => by have := hVm.out; simp at e; omega)
        have RM' := RM.other hgw (fun _ y hy e => by have := HLm.out y hy; simp at e; omega)
        have BW' := below_of_grown BW hgw
        have h1 := hb.size
        have h2 := hs.lt
        have h3 := HW0.out
        exact ⟨pu2, pv2, qu2, qv2, s, rfl, ⟨ru, rv, RM', fun y hy => by have := lu y hy; omega, fun y hy => by have := lv y hy; omega, B0.trans (BW'.mono (by omega))⟩, A0'.cell 0, A0'.cell 1, A0'.cell 2, A0'.cell 3, A0'.frozen, A1'.cell 0, A1'.cell 1, A1'.frozen, Mm'.cell 0, Mm'.cell 1⟩
      have HM : Hid (∀ y : Addr, (some ⟨gm, 0, none⟩) = some y → y.block ≠ w.heap.size ∧ y.block ≠ w.heap.size + 1) := fun y hy => by have h1 := HLm.out y hy; have h3 := HW0.out; omega
      have m0 := (Mm.cell 0).trans (show _ = some _ from rfl)
      have m1 := (Mm.cell 1).trans (show _ = some _ from rfl)
      clear A0 A1 Mm RM hs BW
      go_wp2_with fail
      go_region_with (go_at_call 35; refine (KB.out _ (by first | exact (Below.refl _ _).drew | exact Below.refl _ _)).mono ?_; rintro e w9 ⟨pu2, pv2, qu2, qv2, s, rfl, HF, c0, c1, c2, c3, fz, d0, d1, fy, n0, n1⟩)
      all_goals go_wp2_with fail
      all_goals exact bodyPost_ret (v := .tuple #[.agg #[.int .i64 s.1, .slice pu2 s.2.1.length qu2, .int .i64 s.2.2.1, .slice pv2 s.2.2.2.length qv2], .agg #[.int .i64 M.1, .slice (some ⟨gm, 0, none⟩) M.2.length qm]]) (by simp [results, Tryz.results20, go_sem, c0, c1, c2, c3, d0, d1]) rfl ⟨s, M, [.int .i64 s.1, .slice pu2 s.2.1.length qu2, .int .i64 s.2.2.1, .slice pv2 s.2.2.2.length qv2], [.int .i64 M.1, .slice (some ⟨gm, 0, none⟩) M.2.length qm], rfl, side_mk (hc_fin HF.out.1 HF.out.2.2.2.1) (hc_fin HF.out.2.1 HF.out.2.2.2.2.1), msg_mkN (a := M) (hc_fin HF.out.2.2.1 HM.out) rfl, hc_below HF.out.2.2.2.2.2⟩
end Go.Proofs.YtiabacnmmojfjaaGreatDoor

