/- The draws of chapter 11: what HearServer is asked at (written by tools/draw_st.py). -/
import Derived.Test.YtiabacnmmojfjaaGreatDoorDrawSt
namespace Go.Proofs.YtiabacnmmojfjaaGreatDoor
open Go.ChangeShapes Go.WideShapes Go.ChangeAt Go.RowKit

theorem ends_two {x y : SideD} (hx : sfC x = 0) (hy : sfC y = 0) : ∃ b1 b2, (hcE y (headM (stE x).2.2)).2.2 = [b1, b2] ∧ (0 < b1.2.length ∧ b1.2.length ≤ 64) ∧ 0 < b2.2.length ∧ b2.2.length ≤ 64 := by
  have hm : headM (stE x).2.2 = helM x 1 x.2.2.1 := by rw [stE_ok hx]; rfl
  have hp := sf_parts hx
  have hc : hcC y (helM x 1 x.2.2.1) = 0 := by rw [hcC, if_pos hy]; exact (uhC_hel hx hp.2.2.1 hp.2.2.2.1 (.inl rfl)).1
  rw [hm, hcE_ok hc]
  have hk := pskN2_ok (h := (uhD 1 (helM x 1 x.2.2.1)).2) hy
  exact ⟨_, _, rfl, by rw [helM_len hy hk.1 hk.2]; decide, by rw [show (hcF y (helM x 1 x.2.2.1) (uhD 1 (helM x 1 x.2.2.1)).2).2.length = 32 from finM_len _ _ _]; decide⟩
theorem msgs_of_own {w : World} {B : Nat} {v : Value} {l : List MsgD} {xs : List Value} {fp : List Nat} (h : OwnL 46 msgC w B v l xs fp) : msgsC.rep w l [v] := by
  obtain ⟨p, q, rfl, r⟩ := h.rd
  exact ⟨p, q, rfl, r⟩
set_option maxRecDepth 4000 in
set_option maxHeartbeats 4000000 in
theorem drawHV_c (p : Option Addr) (q : Nat) (cs : List UInt8) (w : World) (hr : Rd w p q cs) :
    Calls Tryz.prog 14 #[.slice p cs.length q] w fun e w' => ∃ (a : EndD) (l : List MsgD) (us : List Value) (v : Value), e = .returned (.tuple #[.agg us.toArray, v]) ∧ endC.rep w' a us ∧ msgsC.rep w' l [v] ∧ Below w.heap.size w w' := by
  have R := Arr.new w [.int .i64 0, .slice none 0 0, .int .i64 0, .slice none 0 0, .int .i64 0, .int .i64 0, .slice none 0 0, .slice none 0 0, .slice none 0 0, .slice none 0 0, .slice none 0 0, .slice none 0 0] 32
  have B0 := alloc_below w (.cells #[.int .i64 0, .slice none 0 0, .int .i64 0, .slice none 0 0, .int .i64 0, .int .i64 0, .slice none 0 0, .slice none 0 0, .slice none 0 0, .slice none 0 0, .slice none 0 0, .slice none 0 0] 32)
  replace hr := hr.keep B0
  have hresN : Hid ((Tryz.prog.info? 32).map (·.size) = some 12) := by show _ = _; kernel_rfl
  generalize hW : w.alloc (.cells #[.int .i64 0, .slice none 0 0, .int .i64 0, .slice none 0 0, .int .i64 0, .int .i64 0, .slice none 0 0, .slice none 0 0, .slice none 0 0, .slice none 0 0, .slice none 0 0, .slice none 0 0] 32) = W at *
  have HW0 : Hid (W.heap.size = w.heap.size + 1) := by show _ = _; rw [← hW, size_alloc]
  go_enter Tryz.func14, Tryz.ntmps14
  go_wp2_with fail
  clear hW
  refine (l1Source_c p q cs W hr).mono ?_
  rintro e w0 ⟨rfl, hs0, BW, hz0⟩
  have z0 : Hid (W.heap.size < w0.heap.size) := hz0
  replace R := R.stay BW
  clear hz0 hr
  go_wp2_with fail
  refine (l11Ends_c W.heap.size p q cs 0 w0 hs0 (by omega) (by omega)).mono ?_
  rintro e w1 ⟨x, y, us, vs, fa, fb, rfl, hfx, hfy, Ka, Kb, hap, hs1, hg1⟩
  have HFB : Hid (∀ k, k ∈ fb → k < w1.heap.size) := fun k hk => (endResultC.ins Kb k hk).2
  have HAP : Hid (∀ k, k ∈ fa → k ∉ fb) := hap
  clear hap
  obtain ⟨b1, b2, HB2, l1, l2⟩ := ends_two hfx hfy
  obtain ⟨B, HB⟩ : ∃ B, Hid (B = hcE y (headM (stE x).2.2)) := ⟨_, rfl⟩
  rw [← HB.out] at Kb HB2
  have hB2 : Hid (B.2.2 = [b1, b2]) := HB2
  clear HB2
  have HL1 : Hid (0 < b1.2.length ∧ b1.2.length ≤ 64) := l1
  have HL2 : Hid (0 < b2.2.length ∧ b2.2.length ≤ 64) := l2
  clear l1 l2
  have HBL : Hid (B.2.2.length = 2) := by show _ = _; rw [hB2.out]; rfl
  obtain ⟨A, HA⟩ : ∃ A, Hid (A = stE x) := ⟨_, rfl⟩
  rw [← HA.out] at Ka
  clear HA HB hfx hfy
  replace R := R.other hg1 (fun e => by have := HW0.out; simp at e; omega)
  replace BW := below_of_grown BW hg1
  have z1 : Hid (w0.heap.size ≤ w1.heap.size) := hg1.size
  obtain ⟨pa1, qa1, pa2, qa2, pa3, qa3, pa4, qa4, pa5, qa5, pa6, qa6, pa7, qa7, pa8, qa8, pas, qas, rfl, -, -, -, -, -, -, -, -, -⟩ := endResult_rep (endResultC.toRep Ka)
  obtain ⟨pb1, qb1, pb2, qb2, pb3, qb3, pb4, qb4, pb5, qb5, pb6, qb6, pb7, qb7, pb8, qb8, pbs, qbs, rfl, -, -, -, -, -, -, -, -, -⟩ := endResult_rep (endResultC.toRep Kb)
  have N5 := (Arr.new w1 [.int .i64 0, .int .i64 0, .slice none 0 0, .int .i64 0, .slice none 0 0, .int .i64 0, .int .i64 0, .slice none 0 0, .slice none 0 0, .slice none 0 0, .slice none 0 0, .slice none 0 0, .slice none 0 0, .slice none 0 0] 43).old _ (.cells #[.int .i64 0, .int .i64 0, .slice none 0 0, .int .i64 0, .slice none 0 0, .int .i64 0, .int .i64 0, .slice none 0 0, .slice none 0 0, .slice none 0 0, .slice none 0 0, .slice none 0 0, .slice none 0 0, .slice none 0 0] 43)
  have N6 := Arr.new (w1.alloc (.cells #[.int .i64 0, .int .i64 0, .slice none 0 0, .int .i64 0, .slice none 0 0, .int .i64 0, .int .i64 0, .slice none 0 0, .slice none 0 0, .slice none 0 0, .slice none 0 0, .slice none 0 0, .slice none 0 0, .slice none 0 0] 43)) [.int .i64 0, .int .i64 0, .slice none 0 0, .int .i64 0, .slice none 0 0, .int .i64 0, .int .i64 0, .slice none 0 0, .slice none 0 0, .slice none 0 0, .slice none 0 0, .slice none 0 0, .slice none 0 0, .slice none 0 0] 43
  rw [size_alloc] at N6
  have N6' := N6.rowOther (k := w1.heap.size) (by omega) #[.int .i64 A.1, .int .i64 A.2.1.1.1, .slice pa1 A.2.1.1.2.1.length qa1, .int .i64 A.2.1.1.2.2.1, .slice pa2 A.2.1.1.2.2.2.length qa2, .int .i64 A.2.1.2.1, .int .i64 A.2.1.2.2.1, .slice pa3 A.2.1.2.2.2.1.length qa3, .slice pa4 A.2.1.2.2.2.2.1.length qa4, .slice pa5 A.2.1.2.2.2.2.2.1.length qa5, .slice pa6 A.2.1.2.2.2.2.2.2.1.length qa6, .slice pa7 A.2.1.2.2.2.2.2.2.2.1.length qa7, .slice pa8 A.2.1.2.2.2.2.2.2.2.2.length qa8, .slice pas A.2.2.length qas]
  have Xa := (N5.row [.int .i64 A.1, .int .i64 A.2.1.1.1, .slice pa1 A.2.1.1.2.1.length qa1, .int .i64 A.2.1.1.2.2.1, .slice pa2 A.2.1.1.2.2.2.length qa2, .int .i64 A.2.1.2.1, .int .i64 A.2.1.2.2.1, .slice pa3 A.2.1.2.2.2.1.length qa3, .slice pa4 A.2.1.2.2.2.2.1.length qa4, .slice pa5 A.2.1.2.2.2.2.2.1.length qa5, .slice pa6 A.2.1.2.2.2.2.2.2.1.length qa6, .slice pa7 A.2.1.2.2.2.2.2.2.2.1.length qa7, .slice pa8 A.2.1.2.2.2.2.2.2.2.2.length qa8, .slice pas A.2.2.length qas]).rowOther (k := w1.heap.size + 1) (by omega) #[.int .i64 B.1, .int .i64 B.2.1.1.1, .slice pb1 B.2.1.1.2.1.length qb1, .int .i64 B.2.1.1.2.2.1, .slice pb2 B.2.1.1.2.2.2.length qb2, .int .i64 B.2.1.2.1, .int .i64 B.2.1.2.2.1, .slice pb3 B.2.1.2.2.2.1.length qb3, .slice pb4 B.2.1.2.2.2.2.1.length qb4, .slice pb5 B.2.1.2.2.2.2.2.1.length qb5, .slice pb6 B.2.1.2.2.2.2.2.2.1.length qb6, .slice pb7 B.2.1.2.2.2.2.2.2.2.1.length qb7, .slice pb8 B.2.1.2.2.2.2.2.2.2.2.length qb8, .slice pbs B.2.2.length qbs]
  have Xb := N6'.row [.int .i64 B.1, .int .i64 B.2.1.1.1, .slice pb1 B.2.1.1.2.1.length qb1, .int .i64 B.2.1.1.2.2.1, .slice pb2 B.2.1.1.2.2.2.length qb2, .int .i64 B.2.1.2.1, .int .i64 B.2.1.2.2.1, .slice pb3 B.2.1.2.2.2.1.length qb3, .slice pb4 B.2.1.2.2.2.2.1.length qb4, .slice pb5 B.2.1.2.2.2.2.2.1.length qb5, .slice pb6 B.2.1.2.2.2.2.2.2.1.length qb6, .slice pb7 B.2.1.2.2.2.2.2.2.2.1.length qb7, .slice pb8 B.2.1.2.2.2.2.2.2.2.2.length qb8, .slice pbs B.2.2.length qbs]
  have hb2 : Below w1.heap.size w1 ((((w1.alloc (.cells #[.int .i64 0, .int .i64 0, .slice none 0 0, .int .i64 0, .slice none 0 0, .int .i64 0, .int .i64 0, .slice none 0 0, .slice none 0 0, .slice none 0 0, .slice none 0 0, .slice none 0 0, .slice none 0 0, .slice none 0 0] 43)).alloc (.cells #[.int .i64 0, .int .i64 0, .slice none 0 0, .int .i64 0, .slice none 0 0, .int .i64 0, .int .i64 0, .slice none 0 0, .slice none 0 0, .slice none 0 0, .slice none 0 0, .slice none 0 0, .slice none 0 0, .slice none 0 0] 43)).setRow w1.heap.size #[.int .i64 A.1, .int .i64 A.2.1.1.1, .slice pa1 A.2.1.1.2.1.length qa1, .int .i64 A.2.1.1.2.2.1, .slice pa2 A.2.1.1.2.2.2.length qa2, .int .i64 A.2.1.2.1, .int .i64 A.2.1.2.2.1, .slice pa3 A.2.1.2.2.2.1.length qa3, .slice pa4 A.2.1.2.2.2.2.1.length qa4, .slice pa5 A.2.1.2.2.2.2.2.1.length qa5, .slice pa6 A.2.1.2.2.2.2.2.2.1.length qa6, .slice pa7 A.2.1.2.2.2.2.2.2.2.1.length qa7, .slice pa8 A.2.1.2.2.2.2.2.2.2.2.length qa8, .slice pas A.2.2.length qas]).setRow (w1.heap.size + 1) #[.int .i64 B.1, .int .i64 B.2.1.1.1, .slice pb1 B.2.1.1.2.1.length qb1, .int .i64 B.2.1.1.2.2.1, .slice pb2 B.2.1.1.2.2.2.length qb2, .int .i64 B.2.1.2.1, .int .i64 B.2.1.2.2.1, .slice pb3 B.2.1.2.2.2.1.length qb3, .slice pb4 B.2.1.2.2.2.2.1.length qb4, .slice pb5 B.2.1.2.2.2.2.2.1.length qb5, .slice pb6 B.2.1.2.2.2.2.2.2.1.length qb6, .slice pb7 B.2.1.2.2.2.2.2.2.2.1.length qb7, .slice pb8 B.2.1.2.2.2.2.2.2.2.2.length qb8, .slice pbs B.2.2.length qbs]) := Below.row (Below.row (Below.mk (alloc_below w1 _) _) (Nat.le_refl _) _) (by omega) _
  replace R := R.stay hb2
  replace Ka := endResultC.stay Ka hb2
  replace Kb := endResultC.stay Kb hb2
  have hs := hs1.keep hb2
  replace BW := Below.step BW hb2
  have hres : Hid ((Tryz.prog.info? 43).map (·.size) = some 14) := by show _ = _; kernel_rfl
  clear hb2 hs1 hg1 hs0 N6
  generalize e6 : ((((w1.alloc (.cells #[.int .i64 0, .int .i64 0, .slice none 0 0, .int .i64 0, .slice none 0 0, .int .i64 0, .int .i64 0, .slice none 0 0, .slice none 0 0, .slice none 0 0, .slice none 0 0, .slice none 0 0, .slice none 0 0, .slice none 0 0] 43)).alloc (.cells #[.int .i64 0, .int .i64 0, .slice none 0 0, .int .i64 0, .slice none 0 0, .int .i64 0, .int .i64 0, .slice none 0 0, .slice none 0 0, .slice none 0 0, .slice none 0 0, .slice none 0 0, .slice none 0 0, .slice none 0 0] 43)).setRow w1.heap.size #[.int .i64 A.1, .int .i64 A.2.1.1.1, .slice pa1 A.2.1.1.2.1.length qa1, .int .i64 A.2.1.1.2.2.1, .slice pa2 A.2.1.1.2.2.2.length qa2, .int .i64 A.2.1.2.1, .int .i64 A.2.1.2.2.1, .slice pa3 A.2.1.2.2.2.1.length qa3, .slice pa4 A.2.1.2.2.2.2.1.length qa4, .slice pa5 A.2.1.2.2.2.2.2.1.length qa5, .slice pa6 A.2.1.2.2.2.2.2.2.1.length qa6, .slice pa7 A.2.1.2.2.2.2.2.2.2.1.length qa7, .slice pa8 A.2.1.2.2.2.2.2.2.2.2.length qa8, .slice pas A.2.2.length qas]).setRow (w1.heap.size + 1) #[.int .i64 B.1, .int .i64 B.2.1.1.1, .slice pb1 B.2.1.1.2.1.length qb1, .int .i64 B.2.1.1.2.2.1, .slice pb2 B.2.1.1.2.2.2.length qb2, .int .i64 B.2.1.2.1, .int .i64 B.2.1.2.2.1, .slice pb3 B.2.1.2.2.2.1.length qb3, .slice pb4 B.2.1.2.2.2.2.1.length qb4, .slice pb5 B.2.1.2.2.2.2.2.1.length qb5, .slice pb6 B.2.1.2.2.2.2.2.2.1.length qb6, .slice pb7 B.2.1.2.2.2.2.2.2.2.1.length qb7, .slice pb8 B.2.1.2.2.2.2.2.2.2.2.length qb8, .slice pbs B.2.2.length qbs]) = V1 at *
  have xb0 := (Xb.cell 0).trans (show _ = some _ from rfl)
  have xb1 := (Xb.cell 1).trans (show _ = some _ from rfl)
  have xb2 := (Xb.cell 2).trans (show _ = some _ from rfl)
  have xb3 := (Xb.cell 3).trans (show _ = some _ from rfl)
  have xb4 := (Xb.cell 4).trans (show _ = some _ from rfl)
  have xb5 := (Xb.cell 5).trans (show _ = some _ from rfl)
  have xb6 := (Xb.cell 6).trans (show _ = some _ from rfl)
  have xb7 := (Xb.cell 7).trans (show _ = some _ from rfl)
  have xb8 := (Xb.cell 8).trans (show _ = some _ from rfl)
  have xb9 := (Xb.cell 9).trans (show _ = some _ from rfl)
  have xb10 := (Xb.cell 10).trans (show _ = some _ from rfl)
  have xb11 := (Xb.cell 11).trans (show _ = some _ from rfl)
  have xb12 := (Xb.cell 12).trans (show _ = some _ from rfl)
  have xb13 := (Xb.cell 13).trans (show _ = some _ from rfl)
  have xa0 := (Xa.cell 0).trans (show _ = some _ from rfl)
  have xa1 := (Xa.cell 1).trans (show _ = some _ from rfl)
  have xa2 := (Xa.cell 2).trans (show _ = some _ from rfl)
  have xa3 := (Xa.cell 3).trans (show _ = some _ from rfl)
  have xa4 := (Xa.cell 4).trans (show _ = some _ from rfl)
  have xa5 := (Xa.cell 5).trans (show _ = some _ from rfl)
  have xa6 := (Xa.cell 6).trans (show _ = some _ from rfl)
  have xa7 := (Xa.cell 7).trans (show _ = some _ from rfl)
  have xa8 := (Xa.cell 8).trans (show _ = some _ from rfl)
  have xa9 := (Xa.cell 9).trans (show _ = some _ from rfl)
  have xa10 := (Xa.cell 10).trans (show _ = some _ from rfl)
  have xa11 := (Xa.cell 11).trans (show _ = some _ from rfl)
  have xa12 := (Xa.cell 12).trans (show _ = some _ from rfl)
  have xa13 := (Xa.cell 13).trans (show _ = some _ from rfl)
  go_wp2_with (first | refine wpList_store_row rfl 43 _ _ rfl w1.heap.size #[.int .i64 A.1, .int .i64 A.2.1.1.1, .slice pa1 A.2.1.1.2.1.length qa1, .int .i64 A.2.1.1.2.2.1, .slice pa2 A.2.1.1.2.2.2.length qa2, .int .i64 A.2.1.2.1, .int .i64 A.2.1.2.2.1, .slice pa3 A.2.1.2.2.2.1.length qa3, .slice pa4 A.2.1.2.2.2.2.1.length qa4, .slice pa5 A.2.1.2.2.2.2.2.1.length qa5, .slice pa6 A.2.1.2.2.2.2.2.2.1.length qa6, .slice pa7 A.2.1.2.2.2.2.2.2.2.1.length qa7, .slice pa8 A.2.1.2.2.2.2.2.2.2.2.length qa8, .slice pas A.2.2.length qas] rfl rfl 43 #[.int .i64 0, .int .i64 0, .slice none 0 0, .int .i64 0, .slice none 0 0, .int .i64 0, .int .i64 0, .slice none 0 0, .slice none 0 0, .slice none 0 0, .slice none 0 0, .slice none 0 0, .slice none 0 0, .slice none 0 0] N5 hres.out rfl (by simp [Value.oneCell']) ?_ | (refine wpList_store_row rfl 43 _ _ rfl (w1.heap.size + 1) #[.int .i64 B.1, .int .i64 B.2.1.1.1, .slice pb1 B.2.1.1.2.1.length qb1, .int .i64 B.2.1.1.2.2.1, .slice pb2 B.2.1.1.2.2.2.length qb2, .int .i64 B.2.1.2.1, .int .i64 B.2.1.2.2.1, .slice pb3 B.2.1.2.2.2.1.length qb3, .slice pb4 B.2.1.2.2.2.2.1.length qb4, .slice pb5 B.2.1.2.2.2.2.2.1.length qb5, .slice pb6 B.2.1.2.2.2.2.2.2.1.length qb6, .slice pb7 B.2.1.2.2.2.2.2.2.2.1.length qb7, .slice pb8 B.2.1.2.2.2.2.2.2.2.2.length qb8, .slice pbs B.2.2.length qbs] rfl rfl 43 #[.int .i64 0, .int .i64 0, .slice none 0 0, .int .i64 0, .slice none 0 0, .int .i64 0, .int .i64 0, .slice none 0 0, .slice none 0 0, .slice none 0 0, .slice none 0 0, .slice none 0 0, .slice none 0 0, .slice none 0 0] N6' hres.out rfl (by simp [Value.oneCell']) ?_; rw [e6]))
  clear N5 N6' e6
  refine (l1Next_c W.heap.size p q cs (0 + 20) 8 V1 hs (by omega) (by omega) (by omega) (by omega)).mono ?_
  rintro e w4 ⟨r, rfl, x0, y0, hs4, hg4⟩
  replace R := R.other hg4 (fun e => by have := HW0.out; simp at e; omega)
  replace Xa := Xa.other hg4 (fun e => by have := z1.out; have := z0.out; simp at e; omega)
  replace BW := below_of_grown BW hg4
  replace Ka := endResultC.other Ka (Only.grown hg4) (fun k hk e => by have h1 := (endResultC.ins Ka k hk).1; have h2 := z0.out; simp at e; omega)
  replace Kb := endResultC.other Kb (Only.grown hg4) (fun k hk e => by have h1 := (endResultC.ins Kb k hk).1; have h2 := z0.out; simp at e; omega)
  replace hs := hs4
  clear hs4 hg4 Xb xa0 xb0 xa1 xb1 xa2 xb2 xa3 xb3 xa4 xb4 xa5 xb5 xa6 xb6 xa7 xb7 xa8 xb8 xa9 xb9 xa10 xb10 xa11 xb11 xa12 xb12 xa13 xb13
  obtain ⟨fae, fad, KAe, -, sA, -⟩ := endR_parts2 (us := [.int .i64 A.2.1.1.1, .slice pa1 A.2.1.1.2.1.length qa1, .int .i64 A.2.1.1.2.2.1, .slice pa2 A.2.1.1.2.2.2.length qa2, .int .i64 A.2.1.2.1, .int .i64 A.2.1.2.2.1, .slice pa3 A.2.1.2.2.2.1.length qa3, .slice pa4 A.2.1.2.2.2.2.1.length qa4, .slice pa5 A.2.1.2.2.2.2.2.1.length qa5, .slice pa6 A.2.1.2.2.2.2.2.2.1.length qa6, .slice pa7 A.2.1.2.2.2.2.2.2.2.1.length qa7, .slice pa8 A.2.1.2.2.2.2.2.2.2.2.length qa8]) Ka rfl
  obtain ⟨fbe, fbd, -, KBd, -, sB⟩ := endR_parts2 (us := [.int .i64 B.2.1.1.1, .slice pb1 B.2.1.1.2.1.length qb1, .int .i64 B.2.1.1.2.2.1, .slice pb2 B.2.1.1.2.2.2.length qb2, .int .i64 B.2.1.2.1, .int .i64 B.2.1.2.2.1, .slice pb3 B.2.1.2.2.2.1.length qb3, .slice pb4 B.2.1.2.2.2.2.1.length qb4, .slice pb5 B.2.1.2.2.2.2.2.1.length qb5, .slice pb6 B.2.1.2.2.2.2.2.2.1.length qb6, .slice pb7 B.2.1.2.2.2.2.2.2.2.1.length qb7, .slice pb8 B.2.1.2.2.2.2.2.2.2.2.length qb8]) Kb rfl
  clear Ka Kb
  obtain ⟨vd, xd, fd, ed, OD, efd⟩ := KBd
  cases ed
  have HNA : Hid (∀ k, k ∈ fd → k ∉ fae ∧ k < w1.heap.size) := fun k h1 => ⟨fun h2 => HAP.out k (sA k h2) (sB k (by rw [efd]; exact List.mem_append_right _ h1)), HFB.out k (sB k (by rw [efd]; exact List.mem_append_right _ h1))⟩
  clear sA sB efd
  by_cases h0 : r = 0
  · subst h0
    go_wp2_with fail
    refine (l1Next_c W.heap.size p q cs (0 + 20 + 1) 2 w4 hs (by omega) (by omega) (by omega) (by omega)).mono ?_
    rintro e w5 ⟨i5, rfl, xi0, xi1, hs5, hg5⟩
    replace R := R.other hg5 (fun e => by have := HW0.out; simp at e; omega)
    replace Xa := Xa.other hg5 (fun e => by have := z1.out; have := z0.out; simp at e; omega)
    replace BW := below_of_grown BW hg5
    replace OD := OD.draw hg5 z0.out
    replace KAe := endC.other KAe (Only.grown hg5) (fun k hk e => by have h1 := (endC.ins KAe k hk).1; have h2 := z0.out; simp at e; omega)
    replace hs := hs5
    clear hs5 hg5
    by_cases hi : i5 = 0
    · subst hi
      have OD2 := OD
      generalize hvv : (Value.slice pbs B.2.2.length qbs) = vv at OD2
      rw [hB2.out] at OD2
      obtain ⟨g, qg, pm, qm, eg, hq1, hq2, hgB, m0, m1, om, hdg, hke⟩ := body_at (P := []) (a := b1) (D := [b2]) OD2
      subst hvv
      rw [show ([] ++ b1 :: [b2]) = B.2.2 from hB2.out.symm] at eg hq1
      replace m1 : w5.cell? ⟨g, 1, none⟩ = some (.slice pm b1.2.length qm) := m1
      obtain ⟨gm, egm⟩ : ∃ g, pm = some ⟨g, 0, none⟩ := by
        rcases om.2 with ⟨e, hz⟩ | ⟨g, cap, cur, e, -⟩
        · have := HL1.out; omega
        · simp at e; exact ⟨g, e.1⟩
      subst egm
      have HLn : Hid (B.2.2.length = B.2.2.length) := rfl
      cases eg
      have hgm : Hid (w0.heap.size ≤ gm) := om.ge gm rfl
      have hgl : Hid (w0.heap.size ≤ g) := hgB
      have hgg : Hid (gm ∉ fae ∧ gm < w1.heap.size) := HNA.out gm (hdg gm rfl).2
      have hln : (0 : Int) < (B.2.2.length : Int) := by have := HBL.out; omega
      have g1 := Gen.But.cell (b := W.heap.size) m1 (by have h1 := hgl.out; have h2 := z0.out; show g ≠ _; omega)
      have hne := Gen.But.some W.heap.size w5
      have HKE : Hid _ := hke
      clear m0 hke OD OD2 hgB hdg hq2
      have hI : (0 : Int) < (b1.2.length : Int) := by have := HL1.out; omega
      go_wp2_with fail
      refine Gen.wp_region_pick (Gen.But.pre W.heap.size) [0, 1, 2, 3, 4, 5, 6, 7, 8, 9, 10, 11] 17 5 1 rfl rfl rfl (by kernel_rfl) (by kernel_rfl) (by kernel_rfl) (by kernel_rfl) ?_
      simp only [opsAt, List.getElem?_toArray, List.getElem?_cons_zero, List.getElem?_cons_succ]
      repeat (go_big_quiet_step (fail))
      refine wpQuiet_nil ?_
      refine Gen.wpM_only (i := 12) (by kernel_rfl) ?_
      refine Gen.mOp_call rfl (by go_simp) 48 _ #[.pointer (some ⟨W.heap.size, 0, none⟩), .int .i64 (b1.2.length : Int)] (fun w => by go_simp) rfl ?_
      rintro _ ⟨n1, rfl⟩
      refine (l1Next_c W.heap.size p q cs _ (b1.2.length : Int) _ (hs.drewN n1) (by omega) (by omega) (by omega) (by have := HL1.out; omega)).mono ?_
      rintro e w6 ⟨x6, rfl, x60, y60, hs6, hg6⟩
      refine ⟨_, rfl, ⟨⟨w6, hg6⟩, rfl⟩, ?_⟩
      obtain ⟨x6, rfl⟩ := Int.eq_ofNat_of_zero_le x60
      have hgw : w5.grownBy w6 (some W.heap.size) := grownBy_trans (grownBy_drewN w5 n1 _) hg6
      replace R := R.other hgw (fun e => by have := HW0.out; simp at e; omega)
      replace Xa := Xa.other hgw (fun e => by have := z1.out; have := z0.out; simp at e; omega)
      replace BW := below_of_grown BW hgw
      replace KAe := endC.other KAe (Only.grown hgw) (fun k hk e => by have h1 := (endC.ins KAe k hk).1; have h2 := z0.out; simp at e; omega)
      have om6 := om.other hgw (fun k hk e => by cases hk; have := hgm.out; have := z0.out; simp at e; omega)
      have HG6 : Hid (∀ k, w0.heap.size ≤ k → k < w5.heap.size → w6.heap[k]? = w5.heap[k]?) := fun k h1 h2 => hgw.block k h2 (fun e => by have := z0.out; simp at e; omega)
      replace hs := hs6
      have hxl : x6 < b1.2.length := by omega
      have hxI : (x6 : Int) < (b1.2.length : Int) := by omega
      have cx := World.ownsRow.cellAt om6 x6 (by omega)
      rw [u8v_at hxl] at cx
      have gx := Gen.But.cell (b := W.heap.size) cx (show gm ≠ W.heap.size by have := hgm.out; have := z0.out; omega)
      have hne6 := Gen.But.some W.heap.size w6
      unfold at8 at gx cx
      have hxo : bits .xor .u8 ((b1.2.getD x6 0).toNat : Int) 1 = ((b1.2.getD x6 0 ^^^ 1).toNat : Int) := w6_xor8 (b1.2.getD x6 0) 1
      have HX : Hid (bits .xor .u8 (((b1.2[x6]'hxl).toNat : Nat) : Int) 1 = ((b1.2.getD x6 0 ^^^ 1).toNat : Int)) := by rw [← hxo, show b1.2.getD x6 0 = b1.2[x6]'hxl by simp [hxl]]; exact rfl
      have HOM : Hid (Own w5 _ _ _) := om
      clear hgw hg6 hne hs6 g1 hxo om m1
      refine Gen.wpM_more (Gen.But.pre W.heap.size) [13, 14, 15, 16] 4 0 rfl (by kernel_rfl) (by kernel_rfl) (by kernel_rfl) (by kernel_rfl) ?_
      simp only [opsAt, List.getElem?_toArray, List.getElem?_cons_zero, List.getElem?_cons_succ]
      go_simp
      repeat (go_big_quiet_step (fail))
      refine wpQuiet_nil ?_
      refine Gen.wpM_end (by kernel_rfl) rfl (by kernel_rfl) (by decide) ?_
      rintro _ ⟨n3, rfl⟩
      simp only [List.drop_succ_cons, List.drop_zero]
      replace om6 : Own (w6.drewN n3) w0.heap.size (.slice (some ⟨gm, 0, none⟩) b1.2.length qm) b1.2 := om6
      replace R : Arr (w6.drewN n3) w.heap.size 32 [.int .i64 0, .slice none 0 0, .int .i64 0, .slice none 0 0, .int .i64 0, .int .i64 0, .slice none 0 0, .slice none 0 0, .slice none 0 0, .slice none 0 0, .slice none 0 0, .slice none 0 0] := R
      replace Xa : Arr (w6.drewN n3) w1.heap.size 43 [.int .i64 A.1, .int .i64 A.2.1.1.1, .slice pa1 A.2.1.1.2.1.length qa1, .int .i64 A.2.1.1.2.2.1, .slice pa2 A.2.1.1.2.2.2.length qa2, .int .i64 A.2.1.2.1, .int .i64 A.2.1.2.2.1, .slice pa3 A.2.1.2.2.2.1.length qa3, .slice pa4 A.2.1.2.2.2.2.1.length qa4, .slice pa5 A.2.1.2.2.2.2.2.1.length qa5, .slice pa6 A.2.1.2.2.2.2.2.2.1.length qa6, .slice pa7 A.2.1.2.2.2.2.2.2.2.1.length qa7, .slice pa8 A.2.1.2.2.2.2.2.2.2.2.length qa8, .slice pas A.2.2.length qas] := Xa
      replace BW : Below W.heap.size W (w6.drewN n3) := BW.trans ⟨rfl, rfl, rfl, Nat.le_refl _, fun _ _ => rfl⟩
      replace KAe := endC.fr (w' := w6.drewN n3) KAe (fun _ _ => rfl)
      replace hs := hs.drewN n3
      replace HG6 : Hid (∀ k, w0.heap.size ≤ k → k < w5.heap.size → (w6.drewN n3).heap[k]? = w5.heap[k]?) := HG6.out
      clear gx cx hne6
      generalize w6.drewN n3 = w7 at *
      have cx := World.ownsRow.cellAt om6 x6 (by omega)
      rw [u8v_at hxl] at cx
      unfold at8 at cx
      have fx := World.ownsRow.frozenAt om6 x6
      generalize b1.2.getD x6 0 = z0b at *
      have RR := World.ownsRow.stored om6 x6 (u8v (z0b ^^^ 1))
      have hR : Own (w7.setCell ⟨gm, x6, none⟩ (u8v (z0b ^^^ 1))) w0.heap.size (.slice (some ⟨gm, 0, none⟩) b1.2.length qm) (b1.2.set x6 (z0b ^^^ 1)) := by
        unfold Own
        rw [List.length_set, List.map_set]
        exact RR.1
      replace R := R.setOther (a := ⟨gm, x6, none⟩) (show w.heap.size ≠ gm by have := hgm.out; have := z0.out; have := HW0.out; omega) (u8v (z0b ^^^ 1))
      replace Xa := Xa.setOther (a := ⟨gm, x6, none⟩) (show w1.heap.size ≠ gm by have := hgg.out.2; omega) (u8v (z0b ^^^ 1))
      replace BW := BW.grown (grownBy_set w7 gm x6 (u8v (z0b ^^^ 1))) BW.size (fun k hk => by simp at hk; have := hgm.out; have := z0.out; omega)
      replace hs := hs.other (grownBy_set w7 gm x6 (u8v (z0b ^^^ 1))) (fun k hk => by simp at hk; have := hgm.out; have := z0.out; omega)
      replace KAe := endC.fr (w' := w7.setCell ⟨gm, x6, none⟩ (u8v (z0b ^^^ 1))) KAe (fun k hk => heap_setCell_other _ _ k _ (fun e => hgg.out.1 (by have e2 : k = gm := e; rw [← e2]; exact hk)))
      have OL8 := HKE.out _ _ hR (fun k h1 h2 hk => (heap_setCell_other _ _ k _ (fun e => hk (by have e2 : k = gm := e; rw [e2]; rfl))).trans (HG6.out k h1 h2))
      unfold u8v at R Xa BW hs KAe OL8
      rw [← HX.out] at R Xa BW hs KAe OL8
      generalize b1.2.set x6 (z0b ^^^ 1) = sd at *
      generalize e6 : w7.setCell ⟨gm, x6, none⟩ (.int .u8 (bits .xor .u8 (((b1.2[x6]'hxl).toNat : Nat) : Int) 1)) = w8 at *
      clear om6 RR hR HKE HG6 HOM
      have HL : Hid (∀ W', (∀ k, w0.heap.size ≤ k → k < w8.heap.size → W'.heap[k]? = w8.heap[k]?) → msgsC.rep W' ([] ++ (b1.1, sd) :: [b2]) [.slice (some ⟨g, 0, none⟩) B.2.2.length qbs]) := fun W' hk => msgs_of_own (OL8.fr fun k h => hk k (OL8.ins k h).1 (OL8.ins k h).2)
      clear OL8
      have xa1 := (Xa.cell 1).trans (show _ = some _ from rfl)
      have xa2 := (Xa.cell 2).trans (show _ = some _ from rfl)
      have xa3 := (Xa.cell 3).trans (show _ = some _ from rfl)
      have xa4 := (Xa.cell 4).trans (show _ = some _ from rfl)
      have xa5 := (Xa.cell 5).trans (show _ = some _ from rfl)
      have xa6 := (Xa.cell 6).trans (show _ = some _ from rfl)
      have xa7 := (Xa.cell 7).trans (show _ = some _ from rfl)
      have xa8 := (Xa.cell 8).trans (show _ = some _ from rfl)
      have xa9 := (Xa.cell 9).trans (show _ = some _ from rfl)
      have xa10 := (Xa.cell 10).trans (show _ = some _ from rfl)
      have xa11 := (Xa.cell 11).trans (show _ = some _ from rfl)
      have xa12 := (Xa.cell 12).trans (show _ = some _ from rfl)
      go_wp2_with fail
      refine (l11Turned_c W.heap.size p q cs (0 + 20 + 1 + 1 + 1) w8 hs (by omega) (by omega) A.2.1 _ _ w0.heap.size z0.out (Nat.le_trans z1.out (Nat.le_of_lt Xa.lt)) KAe).mono ?_
      rintro e w9 ⟨e9, us9, t9, rfl, hrep9, k1, k2, hs9, hg9⟩
      replace R := R.other hg9 (fun e => by have := HW0.out; simp at e; omega)
      replace BW := below_of_grown BW hg9
      obtain ⟨pe1, qe1, pe2, qe2, pe3, qe3, pe4, qe4, pe5, qe5, pe6, qe6, pe7, qe7, pe8, qe8, rfl, -, -, -, -, -, -, -, -⟩ := end_rep (hrep9 w9 (fun _ _ => rfl))
      have HF : Hid (endC.rep (w9.setRow w.heap.size #[.int .i64 e9.1.1, .slice pe1 e9.1.2.1.length qe1, .int .i64 e9.1.2.2.1, .slice pe2 e9.1.2.2.2.length qe2, .int .i64 e9.2.1, .int .i64 e9.2.2.1, .slice pe3 e9.2.2.2.1.length qe3, .slice pe4 e9.2.2.2.2.1.length qe4, .slice pe5 e9.2.2.2.2.2.1.length qe5, .slice pe6 e9.2.2.2.2.2.2.1.length qe6, .slice pe7 e9.2.2.2.2.2.2.2.1.length qe7, .slice pe8 e9.2.2.2.2.2.2.2.2.length qe8]) e9 [.int .i64 e9.1.1, .slice pe1 e9.1.2.1.length qe1, .int .i64 e9.1.2.2.1, .slice pe2 e9.1.2.2.2.length qe2, .int .i64 e9.2.1, .int .i64 e9.2.2.1, .slice pe3 e9.2.2.2.1.length qe3, .slice pe4 e9.2.2.2.2.1.length qe4, .slice pe5 e9.2.2.2.2.2.1.length qe5, .slice pe6 e9.2.2.2.2.2.2.1.length qe6, .slice pe7 e9.2.2.2.2.2.2.2.1.length qe7, .slice pe8 e9.2.2.2.2.2.2.2.2.length qe8]) := hrep9 _ (fun k hk => setRow_other _ _ _ _ (by have h1 := HW0.out; have h2 := z0.out; omega))
      have HLF : Hid (msgsC.rep (w9.setRow w.heap.size #[.int .i64 e9.1.1, .slice pe1 e9.1.2.1.length qe1, .int .i64 e9.1.2.2.1, .slice pe2 e9.1.2.2.2.length qe2, .int .i64 e9.2.1, .int .i64 e9.2.2.1, .slice pe3 e9.2.2.2.1.length qe3, .slice pe4 e9.2.2.2.2.1.length qe4, .slice pe5 e9.2.2.2.2.2.1.length qe5, .slice pe6 e9.2.2.2.2.2.2.1.length qe6, .slice pe7 e9.2.2.2.2.2.2.2.1.length qe7, .slice pe8 e9.2.2.2.2.2.2.2.2.length qe8]) ([] ++ (b1.1, sd) :: [b2]) [.slice (some ⟨g, 0, none⟩) B.2.2.length qbs]) := HL.out _ (fun k h1 h2 => (setRow_other _ _ _ _ (by have h3 := HW0.out; have h4 := z0.out; omega)).trans (hg9.block k h2 (fun e => by have h4 := z0.out; simp at e; omega)))
      have BE : Hid (Below w.heap.size w (w9.setRow w.heap.size #[.int .i64 e9.1.1, .slice pe1 e9.1.2.1.length qe1, .int .i64 e9.1.2.2.1, .slice pe2 e9.1.2.2.2.length qe2, .int .i64 e9.2.1, .int .i64 e9.2.2.1, .slice pe3 e9.2.2.2.1.length qe3, .slice pe4 e9.2.2.2.2.1.length qe4, .slice pe5 e9.2.2.2.2.2.1.length qe5, .slice pe6 e9.2.2.2.2.2.2.1.length qe6, .slice pe7 e9.2.2.2.2.2.2.2.1.length qe7, .slice pe8 e9.2.2.2.2.2.2.2.2.length qe8])) := Below.row (B0.trans (BW.mono (by have := HW0.out; omega))) (Nat.le_refl _) _
      have N := R.row [.int .i64 e9.1.1, .slice pe1 e9.1.2.1.length qe1, .int .i64 e9.1.2.2.1, .slice pe2 e9.1.2.2.2.length qe2, .int .i64 e9.2.1, .int .i64 e9.2.2.1, .slice pe3 e9.2.2.2.1.length qe3, .slice pe4 e9.2.2.2.2.1.length qe4, .slice pe5 e9.2.2.2.2.2.1.length qe5, .slice pe6 e9.2.2.2.2.2.2.1.length qe6, .slice pe7 e9.2.2.2.2.2.2.2.1.length qe7, .slice pe8 e9.2.2.2.2.2.2.2.2.length qe8]
      have d0 := (N.cell 0).trans (show _ = some _ from rfl)
      have d1 := (N.cell 1).trans (show _ = some _ from rfl)
      have d2 := (N.cell 2).trans (show _ = some _ from rfl)
      have d3 := (N.cell 3).trans (show _ = some _ from rfl)
      have d4 := (N.cell 4).trans (show _ = some _ from rfl)
      have d5 := (N.cell 5).trans (show _ = some _ from rfl)
      have d6 := (N.cell 6).trans (show _ = some _ from rfl)
      have d7 := (N.cell 7).trans (show _ = some _ from rfl)
      have d8 := (N.cell 8).trans (show _ = some _ from rfl)
      have d9 := (N.cell 9).trans (show _ = some _ from rfl)
      have d10 := (N.cell 10).trans (show _ = some _ from rfl)
      have d11 := (N.cell 11).trans (show _ = some _ from rfl)
      clear KAe Xa hs hs9 hg9 BW hrep9 HL xa1 xa2 xa3 xa4 xa5 xa6 xa7 xa8 xa9 xa10 xa11 xa12
      go_wp2_with (refine wpList_store_row rfl 32 _ _ rfl w.heap.size #[.int .i64 e9.1.1, .slice pe1 e9.1.2.1.length qe1, .int .i64 e9.1.2.2.1, .slice pe2 e9.1.2.2.2.length qe2, .int .i64 e9.2.1, .int .i64 e9.2.2.1, .slice pe3 e9.2.2.2.1.length qe3, .slice pe4 e9.2.2.2.2.1.length qe4, .slice pe5 e9.2.2.2.2.2.1.length qe5, .slice pe6 e9.2.2.2.2.2.2.1.length qe6, .slice pe7 e9.2.2.2.2.2.2.2.1.length qe7, .slice pe8 e9.2.2.2.2.2.2.2.2.length qe8] rfl rfl 32 #[.int .i64 0, .slice none 0 0, .int .i64 0, .slice none 0 0, .int .i64 0, .int .i64 0, .slice none 0 0, .slice none 0 0, .slice none 0 0, .slice none 0 0, .slice none 0 0, .slice none 0 0] R hresN.out rfl (by simp [Value.oneCell']) ?_)
      exact bodyPost_ret (v := .tuple #[.agg #[.int .i64 e9.1.1, .slice pe1 e9.1.2.1.length qe1, .int .i64 e9.1.2.2.1, .slice pe2 e9.1.2.2.2.length qe2, .int .i64 e9.2.1, .int .i64 e9.2.2.1, .slice pe3 e9.2.2.2.1.length qe3, .slice pe4 e9.2.2.2.2.1.length qe4, .slice pe5 e9.2.2.2.2.2.1.length qe5, .slice pe6 e9.2.2.2.2.2.2.1.length qe6, .slice pe7 e9.2.2.2.2.2.2.2.1.length qe7, .slice pe8 e9.2.2.2.2.2.2.2.2.length qe8], .slice (some ⟨g, 0, none⟩) B.2.2.length qbs]) (by simp [results, Tryz.results14, go_sem, d0, d1, d2, d3, d4, d5, d6, d7, d8, d9, d10, d11]) rfl ⟨e9, [] ++ (b1.1, sd) :: [b2], [.int .i64 e9.1.1, .slice pe1 e9.1.2.1.length qe1, .int .i64 e9.1.2.2.1, .slice pe2 e9.1.2.2.2.length qe2, .int .i64 e9.2.1, .int .i64 e9.2.2.1, .slice pe3 e9.2.2.2.1.length qe3, .slice pe4 e9.2.2.2.2.1.length qe4, .slice pe5 e9.2.2.2.2.2.1.length qe5, .slice pe6 e9.2.2.2.2.2.2.1.length qe6, .slice pe7 e9.2.2.2.2.2.2.2.1.length qe7, .slice pe8 e9.2.2.2.2.2.2.2.2.length qe8], .slice (some ⟨g, 0, none⟩) B.2.2.length qbs, rfl, HF.out, HLF.out, BE.out⟩
    · obtain rfl : i5 = 1 := by omega
      clear hi
      have OD2 := OD
      generalize hvv : (Value.slice pbs B.2.2.length qbs) = vv at OD2
      rw [hB2.out] at OD2
      obtain ⟨g, qg, pm, qm, eg, hq1, hq2, hgB, m0, m1, om, hdg, hke⟩ := body_at (P := [b1]) (a := b2) (D := []) OD2
      subst hvv
      rw [show ([b1] ++ b2 :: []) = B.2.2 from hB2.out.symm] at eg hq1
      replace m1 : w5.cell? ⟨g, 3, none⟩ = some (.slice pm b2.2.length qm) := m1
      obtain ⟨gm, egm⟩ : ∃ g, pm = some ⟨g, 0, none⟩ := by
        rcases om.2 with ⟨e, hz⟩ | ⟨g, cap, cur, e, -⟩
        · have := HL2.out; omega
        · simp at e; exact ⟨g, e.1⟩
      subst egm
      have HLn : Hid (B.2.2.length = B.2.2.length) := rfl
      cases eg
      have hgm : Hid (w0.heap.size ≤ gm) := om.ge gm rfl
      have hgl : Hid (w0.heap.size ≤ g) := hgB
      have hgg : Hid (gm ∉ fae ∧ gm < w1.heap.size) := HNA.out gm (hdg gm rfl).2
      have hln : (1 : Int) < (B.2.2.length : Int) := by have := HBL.out; omega
      have g1 := Gen.But.cell (b := W.heap.size) m1 (by have h1 := hgl.out; have h2 := z0.out; show g ≠ _; omega)
      have hne := Gen.But.some W.heap.size w5
      have HKE : Hid _ := hke
      clear m0 hke OD OD2 hgB hdg hq2
      have hI : (0 : Int) < (b2.2.length : Int) := by have := HL2.out; omega
      go_wp2_with fail
      refine Gen.wp_region_pick (Gen.But.pre W.heap.size) [0, 1, 2, 3, 4, 5, 6, 7, 8, 9, 10, 11] 17 5 1 rfl rfl rfl (by kernel_rfl) (by kernel_rfl) (by kernel_rfl) (by kernel_rfl) ?_
      simp only [opsAt, List.getElem?_toArray, List.getElem?_cons_zero, List.getElem?_cons_succ]
      repeat (go_big_quiet_step (fail))
      refine wpQuiet_nil ?_
      refine Gen.wpM_only (i := 12) (by kernel_rfl) ?_
      refine Gen.mOp_call rfl (by go_simp) 48 _ #[.pointer (some ⟨W.heap.size, 0, none⟩), .int .i64 (b2.2.length : Int)] (fun w => by go_simp) rfl ?_
      rintro _ ⟨n1, rfl⟩
      refine (l1Next_c W.heap.size p q cs _ (b2.2.length : Int) _ (hs.drewN n1) (by omega) (by omega) (by omega) (by have := HL2.out; omega)).mono ?_
      rintro e w6 ⟨x6, rfl, x60, y60, hs6, hg6⟩
      refine ⟨_, rfl, ⟨⟨w6, hg6⟩, rfl⟩, ?_⟩
      obtain ⟨x6, rfl⟩ := Int.eq_ofNat_of_zero_le x60
      have hgw : w5.grownBy w6 (some W.heap.size) := grownBy_trans (grownBy_drewN w5 n1 _) hg6
      replace R := R.other hgw (fun e => by have := HW0.out; simp at e; omega)
      replace Xa := Xa.other hgw (fun e => by have := z1.out; have := z0.out; simp at e; omega)
      replace BW := below_of_grown BW hgw
      replace KAe := endC.other KAe (Only.grown hgw) (fun k hk e => by have h1 := (endC.ins KAe k hk).1; have h2 := z0.out; simp at e; omega)
      have om6 := om.other hgw (fun k hk e => by cases hk; have := hgm.out; have := z0.out; simp at e; omega)
      have HG6 : Hid (∀ k, w0.heap.size ≤ k → k < w5.heap.size → w6.heap[k]? = w5.heap[k]?) := fun k h1 h2 => hgw.block k h2 (fun e => by have := z0.out; simp at e; omega)
      replace hs := hs6
      have hxl : x6 < b2.2.length := by omega
      have hxI : (x6 : Int) < (b2.2.length : Int) := by omega
      have cx := World.ownsRow.cellAt om6 x6 (by omega)
      rw [u8v_at hxl] at cx
      have gx := Gen.But.cell (b := W.heap.size) cx (show gm ≠ W.heap.size by have := hgm.out; have := z0.out; omega)
      have hne6 := Gen.But.some W.heap.size w6
      unfold at8 at gx cx
      have hxo : bits .xor .u8 ((b2.2.getD x6 0).toNat : Int) 1 = ((b2.2.getD x6 0 ^^^ 1).toNat : Int) := w6_xor8 (b2.2.getD x6 0) 1
      have HX : Hid (bits .xor .u8 (((b2.2[x6]'hxl).toNat : Nat) : Int) 1 = ((b2.2.getD x6 0 ^^^ 1).toNat : Int)) := by rw [← hxo, show b2.2.getD x6 0 = b2.2[x6]'hxl by simp [hxl]]; exact rfl
      have HOM : Hid (Own w5 _ _ _) := om
      clear hgw hg6 hne hs6 g1 hxo om m1
      refine Gen.wpM_more (Gen.But.pre W.heap.size) [13, 14, 15, 16] 4 0 rfl (by kernel_rfl) (by kernel_rfl) (by kernel_rfl) (by kernel_rfl) ?_
      simp only [opsAt, List.getElem?_toArray, List.getElem?_cons_zero, List.getElem?_cons_succ]
      go_simp
      repeat (go_big_quiet_step (fail))
      refine wpQuiet_nil ?_
      refine Gen.wpM_end (by kernel_rfl) rfl (by kernel_rfl) (by decide) ?_
      rintro _ ⟨n3, rfl⟩
      simp only [List.drop_succ_cons, List.drop_zero]
      replace om6 : Own (w6.drewN n3) w0.heap.size (.slice (some ⟨gm, 0, none⟩) b2.2.length qm) b2.2 := om6
      replace R : Arr (w6.drewN n3) w.heap.size 32 [.int .i64 0, .slice none 0 0, .int .i64 0, .slice none 0 0, .int .i64 0, .int .i64 0, .slice none 0 0, .slice none 0 0, .slice none 0 0, .slice none 0 0, .slice none 0 0, .slice none 0 0] := R
      replace Xa : Arr (w6.drewN n3) w1.heap.size 43 [.int .i64 A.1, .int .i64 A.2.1.1.1, .slice pa1 A.2.1.1.2.1.length qa1, .int .i64 A.2.1.1.2.2.1, .slice pa2 A.2.1.1.2.2.2.length qa2, .int .i64 A.2.1.2.1, .int .i64 A.2.1.2.2.1, .slice pa3 A.2.1.2.2.2.1.length qa3, .slice pa4 A.2.1.2.2.2.2.1.length qa4, .slice pa5 A.2.1.2.2.2.2.2.1.length qa5, .slice pa6 A.2.1.2.2.2.2.2.2.1.length qa6, .slice pa7 A.2.1.2.2.2.2.2.2.2.1.length qa7, .slice pa8 A.2.1.2.2.2.2.2.2.2.2.length qa8, .slice pas A.2.2.length qas] := Xa
      replace BW : Below W.heap.size W (w6.drewN n3) := BW.trans ⟨rfl, rfl, rfl, Nat.le_refl _, fun _ _ => rfl⟩
      replace KAe := endC.fr (w' := w6.drewN n3) KAe (fun _ _ => rfl)
      replace hs := hs.drewN n3
      replace HG6 : Hid (∀ k, w0.heap.size ≤ k → k < w5.heap.size → (w6.drewN n3).heap[k]? = w5.heap[k]?) := HG6.out
      clear gx cx hne6
      generalize w6.drewN n3 = w7 at *
      have cx := World.ownsRow.cellAt om6 x6 (by omega)
      rw [u8v_at hxl] at cx
      unfold at8 at cx
      have fx := World.ownsRow.frozenAt om6 x6
      generalize b2.2.getD x6 0 = z0b at *
      have RR := World.ownsRow.stored om6 x6 (u8v (z0b ^^^ 1))
      have hR : Own (w7.setCell ⟨gm, x6, none⟩ (u8v (z0b ^^^ 1))) w0.heap.size (.slice (some ⟨gm, 0, none⟩) b2.2.length qm) (b2.2.set x6 (z0b ^^^ 1)) := by
        unfold Own
        rw [List.length_set, List.map_set]
        exact RR.1
      replace R := R.setOther (a := ⟨gm, x6, none⟩) (show w.heap.size ≠ gm by have := hgm.out; have := z0.out; have := HW0.out; omega) (u8v (z0b ^^^ 1))
      replace Xa := Xa.setOther (a := ⟨gm, x6, none⟩) (show w1.heap.size ≠ gm by have := hgg.out.2; omega) (u8v (z0b ^^^ 1))
      replace BW := BW.grown (grownBy_set w7 gm x6 (u8v (z0b ^^^ 1))) BW.size (fun k hk => by simp at hk; have := hgm.out; have := z0.out; omega)
      replace hs := hs.other (grownBy_set w7 gm x6 (u8v (z0b ^^^ 1))) (fun k hk => by simp at hk; have := hgm.out; have := z0.out; omega)
      replace KAe := endC.fr (w' := w7.setCell ⟨gm, x6, none⟩ (u8v (z0b ^^^ 1))) KAe (fun k hk => heap_setCell_other _ _ k _ (fun e => hgg.out.1 (by have e2 : k = gm := e; rw [← e2]; exact hk)))
      have OL8 := HKE.out _ _ hR (fun k h1 h2 hk => (heap_setCell_other _ _ k _ (fun e => hk (by have e2 : k = gm := e; rw [e2]; rfl))).trans (HG6.out k h1 h2))
      unfold u8v at R Xa BW hs KAe OL8
      rw [← HX.out] at R Xa BW hs KAe OL8
      generalize b2.2.set x6 (z0b ^^^ 1) = sd at *
      generalize e6 : w7.setCell ⟨gm, x6, none⟩ (.int .u8 (bits .xor .u8 (((b2.2[x6]'hxl).toNat : Nat) : Int) 1)) = w8 at *
      clear om6 RR hR HKE HG6 HOM
      have HL : Hid (∀ W', (∀ k, w0.heap.size ≤ k → k < w8.heap.size → W'.heap[k]? = w8.heap[k]?) → msgsC.rep W' ([b1] ++ (b2.1, sd) :: []) [.slice (some ⟨g, 0, none⟩) B.2.2.length qbs]) := fun W' hk => msgs_of_own (OL8.fr fun k h => hk k (OL8.ins k h).1 (OL8.ins k h).2)
      clear OL8
      have xa1 := (Xa.cell 1).trans (show _ = some _ from rfl)
      have xa2 := (Xa.cell 2).trans (show _ = some _ from rfl)
      have xa3 := (Xa.cell 3).trans (show _ = some _ from rfl)
      have xa4 := (Xa.cell 4).trans (show _ = some _ from rfl)
      have xa5 := (Xa.cell 5).trans (show _ = some _ from rfl)
      have xa6 := (Xa.cell 6).trans (show _ = some _ from rfl)
      have xa7 := (Xa.cell 7).trans (show _ = some _ from rfl)
      have xa8 := (Xa.cell 8).trans (show _ = some _ from rfl)
      have xa9 := (Xa.cell 9).trans (show _ = some _ from rfl)
      have xa10 := (Xa.cell 10).trans (show _ = some _ from rfl)
      have xa11 := (Xa.cell 11).trans (show _ = some _ from rfl)
      have xa12 := (Xa.cell 12).trans (show _ = some _ from rfl)
      go_wp2_with fail
      refine (l11Turned_c W.heap.size p q cs (0 + 20 + 1 + 1 + 1) w8 hs (by omega) (by omega) A.2.1 _ _ w0.heap.size z0.out (Nat.le_trans z1.out (Nat.le_of_lt Xa.lt)) KAe).mono ?_
      rintro e w9 ⟨e9, us9, t9, rfl, hrep9, k1, k2, hs9, hg9⟩
      replace R := R.other hg9 (fun e => by have := HW0.out; simp at e; omega)
      replace BW := below_of_grown BW hg9
      obtain ⟨pe1, qe1, pe2, qe2, pe3, qe3, pe4, qe4, pe5, qe5, pe6, qe6, pe7, qe7, pe8, qe8, rfl, -, -, -, -, -, -, -, -⟩ := end_rep (hrep9 w9 (fun _ _ => rfl))
      have HF : Hid (endC.rep (w9.setRow w.heap.size #[.int .i64 e9.1.1, .slice pe1 e9.1.2.1.length qe1, .int .i64 e9.1.2.2.1, .slice pe2 e9.1.2.2.2.length qe2, .int .i64 e9.2.1, .int .i64 e9.2.2.1, .slice pe3 e9.2.2.2.1.length qe3, .slice pe4 e9.2.2.2.2.1.length qe4, .slice pe5 e9.2.2.2.2.2.1.length qe5, .slice pe6 e9.2.2.2.2.2.2.1.length qe6, .slice pe7 e9.2.2.2.2.2.2.2.1.length qe7, .slice pe8 e9.2.2.2.2.2.2.2.2.length qe8]) e9 [.int .i64 e9.1.1, .slice pe1 e9.1.2.1.length qe1, .int .i64 e9.1.2.2.1, .slice pe2 e9.1.2.2.2.length qe2, .int .i64 e9.2.1, .int .i64 e9.2.2.1, .slice pe3 e9.2.2.2.1.length qe3, .slice pe4 e9.2.2.2.2.1.length qe4, .slice pe5 e9.2.2.2.2.2.1.length qe5, .slice pe6 e9.2.2.2.2.2.2.1.length qe6, .slice pe7 e9.2.2.2.2.2.2.2.1.length qe7, .slice pe8 e9.2.2.2.2.2.2.2.2.length qe8]) := hrep9 _ (fun k hk => setRow_other _ _ _ _ (by have h1 := HW0.out; have h2 := z0.out; omega))
      have HLF : Hid (msgsC.rep (w9.setRow w.heap.size #[.int .i64 e9.1.1, .slice pe1 e9.1.2.1.length qe1, .int .i64 e9.1.2.2.1, .slice pe2 e9.1.2.2.2.length qe2, .int .i64 e9.2.1, .int .i64 e9.2.2.1, .slice pe3 e9.2.2.2.1.length qe3, .slice pe4 e9.2.2.2.2.1.length qe4, .slice pe5 e9.2.2.2.2.2.1.length qe5, .slice pe6 e9.2.2.2.2.2.2.1.length qe6, .slice pe7 e9.2.2.2.2.2.2.2.1.length qe7, .slice pe8 e9.2.2.2.2.2.2.2.2.length qe8]) ([b1] ++ (b2.1, sd) :: []) [.slice (some ⟨g, 0, none⟩) B.2.2.length qbs]) := HL.out _ (fun k h1 h2 => (setRow_other _ _ _ _ (by have h3 := HW0.out; have h4 := z0.out; omega)).trans (hg9.block k h2 (fun e => by have h4 := z0.out; simp at e; omega)))
      have BE : Hid (Below w.heap.size w (w9.setRow w.heap.size #[.int .i64 e9.1.1, .slice pe1 e9.1.2.1.length qe1, .int .i64 e9.1.2.2.1, .slice pe2 e9.1.2.2.2.length qe2, .int .i64 e9.2.1, .int .i64 e9.2.2.1, .slice pe3 e9.2.2.2.1.length qe3, .slice pe4 e9.2.2.2.2.1.length qe4, .slice pe5 e9.2.2.2.2.2.1.length qe5, .slice pe6 e9.2.2.2.2.2.2.1.length qe6, .slice pe7 e9.2.2.2.2.2.2.2.1.length qe7, .slice pe8 e9.2.2.2.2.2.2.2.2.length qe8])) := Below.row (B0.trans (BW.mono (by have := HW0.out; omega))) (Nat.le_refl _) _
      have N := R.row [.int .i64 e9.1.1, .slice pe1 e9.1.2.1.length qe1, .int .i64 e9.1.2.2.1, .slice pe2 e9.1.2.2.2.length qe2, .int .i64 e9.2.1, .int .i64 e9.2.2.1, .slice pe3 e9.2.2.2.1.length qe3, .slice pe4 e9.2.2.2.2.1.length qe4, .slice pe5 e9.2.2.2.2.2.1.length qe5, .slice pe6 e9.2.2.2.2.2.2.1.length qe6, .slice pe7 e9.2.2.2.2.2.2.2.1.length qe7, .slice pe8 e9.2.2.2.2.2.2.2.2.length qe8]
      have d0 := (N.cell 0).trans (show _ = some _ from rfl)
      have d1 := (N.cell 1).trans (show _ = some _ from rfl)
      have d2 := (N.cell 2).trans (show _ = some _ from rfl)
      have d3 := (N.cell 3).trans (show _ = some _ from rfl)
      have d4 := (N.cell 4).trans (show _ = some _ from rfl)
      have d5 := (N.cell 5).trans (show _ = some _ from rfl)
      have d6 := (N.cell 6).trans (show _ = some _ from rfl)
      have d7 := (N.cell 7).trans (show _ = some _ from rfl)
      have d8 := (N.cell 8).trans (show _ = some _ from rfl)
      have d9 := (N.cell 9).trans (show _ = some _ from rfl)
      have d10 := (N.cell 10).trans (show _ = some _ from rfl)
      have d11 := (N.cell 11).trans (show _ = some _ from rfl)
      clear KAe Xa hs hs9 hg9 BW hrep9 HL xa1 xa2 xa3 xa4 xa5 xa6 xa7 xa8 xa9 xa10 xa11 xa12
      go_wp2_with (refine wpList_store_row rfl 32 _ _ rfl w.heap.size #[.int .i64 e9.1.1, .slice pe1 e9.1.2.1.length qe1, .int .i64 e9.1.2.2.1, .slice pe2 e9.1.2.2.2.length qe2, .int .i64 e9.2.1, .int .i64 e9.2.2.1, .slice pe3 e9.2.2.2.1.length qe3, .slice pe4 e9.2.2.2.2.1.length qe4, .slice pe5 e9.2.2.2.2.2.1.length qe5, .slice pe6 e9.2.2.2.2.2.2.1.length qe6, .slice pe7 e9.2.2.2.2.2.2.2.1.length qe7, .slice pe8 e9.2.2.2.2.2.2.2.2.length qe8] rfl rfl 32 #[.int .i64 0, .slice none 0 0, .int .i64 0, .slice none 0 0, .int .i64 0, .int .i64 0, .slice none 0 0, .slice none 0 0, .slice none 0 0, .slice none 0 0, .slice none 0 0, .slice none 0 0] R hresN.out rfl (by simp [Value.oneCell']) ?_)
      exact bodyPost_ret (v := .tuple #[.agg #[.int .i64 e9.1.1, .slice pe1 e9.1.2.1.length qe1, .int .i64 e9.1.2.2.1, .slice pe2 e9.1.2.2.2.length qe2, .int .i64 e9.2.1, .int .i64 e9.2.2.1, .slice pe3 e9.2.2.2.1.length qe3, .slice pe4 e9.2.2.2.2.1.length qe4, .slice pe5 e9.2.2.2.2.2.1.length qe5, .slice pe6 e9.2.2.2.2.2.2.1.length qe6, .slice pe7 e9.2.2.2.2.2.2.2.1.length qe7, .slice pe8 e9.2.2.2.2.2.2.2.2.length qe8], .slice (some ⟨g, 0, none⟩) B.2.2.length qbs]) (by simp [results, Tryz.results14, go_sem, d0, d1, d2, d3, d4, d5, d6, d7, d8, d9, d10, d11]) rfl ⟨e9, [b1] ++ (b2.1, sd) :: [], [.int .i64 e9.1.1, .slice pe1 e9.1.2.1.length qe1, .int .i64 e9.1.2.2.1, .slice pe2 e9.1.2.2.2.length qe2, .int .i64 e9.2.1, .int .i64 e9.2.2.1, .slice pe3 e9.2.2.2.1.length qe3, .slice pe4 e9.2.2.2.2.1.length qe4, .slice pe5 e9.2.2.2.2.2.1.length qe5, .slice pe6 e9.2.2.2.2.2.2.1.length qe6, .slice pe7 e9.2.2.2.2.2.2.2.1.length qe7, .slice pe8 e9.2.2.2.2.2.2.2.2.length qe8], .slice (some ⟨g, 0, none⟩) B.2.2.length qbs, rfl, HF.out, HLF.out, BE.out⟩
  · have e0 : (r == 0) = false := by simp [h0]
    clear h0
    by_cases h1 : r = 1
    · subst h1
      have OD2 := OD
      generalize hvv : (Value.slice pbs B.2.2.length qbs) = vv at OD2
      rw [hB2.out] at OD2
      obtain ⟨g, qg, pm, qm, eg, hq1, hq2, -, -, -, -, -, -⟩ := body_at (P := []) (a := b1) (D := [b2]) OD2
      subst hvv
      rw [show ([] ++ b1 :: [b2]) = B.2.2 from hB2.out.symm] at eg hq1
      cases eg
      have hBL : B.2.2.length = 2 := HBL.out
      have HL : Hid (∀ W', (∀ k, w0.heap.size ≤ k → k < w4.heap.size → W'.heap[k]? = w4.heap[k]?) → msgsC.rep W' ([b2]) [.slice (some ⟨g, 2, none⟩) 1 (qbs - 1)]) := fun W' hk => by
        obtain ⟨pz, qz, ez, rz⟩ := OwnL.rd (OD.fr fun k h => hk k (OD.ins k h).1 (OD.ins k h).2)
        cases ez
        have h2 := RdL.drop rz 1 (by omega)
        rw [hB2.out] at h2
        exact ⟨_, _, rfl, h2⟩
      have hq3 : ¬ qbs = 1 := by omega
      have hq4 : 2 ≤ qbs := by omega
      clear OD OD2 hq1
      have xa1 := (Xa.cell 1).trans (show _ = some _ from rfl)
      have xa2 := (Xa.cell 2).trans (show _ = some _ from rfl)
      have xa3 := (Xa.cell 3).trans (show _ = some _ from rfl)
      have xa4 := (Xa.cell 4).trans (show _ = some _ from rfl)
      have xa5 := (Xa.cell 5).trans (show _ = some _ from rfl)
      have xa6 := (Xa.cell 6).trans (show _ = some _ from rfl)
      have xa7 := (Xa.cell 7).trans (show _ = some _ from rfl)
      have xa8 := (Xa.cell 8).trans (show _ = some _ from rfl)
      have xa9 := (Xa.cell 9).trans (show _ = some _ from rfl)
      have xa10 := (Xa.cell 10).trans (show _ = some _ from rfl)
      have xa11 := (Xa.cell 11).trans (show _ = some _ from rfl)
      have xa12 := (Xa.cell 12).trans (show _ = some _ from rfl)
      go_wp2_with fail
      refine (l11Turned_c W.heap.size p q cs (0 + 20 + 1) w4 hs (by omega) (by omega) A.2.1 _ _ w0.heap.size z0.out (Nat.le_trans z1.out (Nat.le_of_lt Xa.lt)) KAe).mono ?_
      rintro e w9 ⟨e9, us9, t9, rfl, hrep9, k1, k2, hs9, hg9⟩
      replace R := R.other hg9 (fun e => by have := HW0.out; simp at e; omega)
      replace BW := below_of_grown BW hg9
      obtain ⟨pe1, qe1, pe2, qe2, pe3, qe3, pe4, qe4, pe5, qe5, pe6, qe6, pe7, qe7, pe8, qe8, rfl, -, -, -, -, -, -, -, -⟩ := end_rep (hrep9 w9 (fun _ _ => rfl))
      have HF : Hid (endC.rep (w9.setRow w.heap.size #[.int .i64 e9.1.1, .slice pe1 e9.1.2.1.length qe1, .int .i64 e9.1.2.2.1, .slice pe2 e9.1.2.2.2.length qe2, .int .i64 e9.2.1, .int .i64 e9.2.2.1, .slice pe3 e9.2.2.2.1.length qe3, .slice pe4 e9.2.2.2.2.1.length qe4, .slice pe5 e9.2.2.2.2.2.1.length qe5, .slice pe6 e9.2.2.2.2.2.2.1.length qe6, .slice pe7 e9.2.2.2.2.2.2.2.1.length qe7, .slice pe8 e9.2.2.2.2.2.2.2.2.length qe8]) e9 [.int .i64 e9.1.1, .slice pe1 e9.1.2.1.length qe1, .int .i64 e9.1.2.2.1, .slice pe2 e9.1.2.2.2.length qe2, .int .i64 e9.2.1, .int .i64 e9.2.2.1, .slice pe3 e9.2.2.2.1.length qe3, .slice pe4 e9.2.2.2.2.1.length qe4, .slice pe5 e9.2.2.2.2.2.1.length qe5, .slice pe6 e9.2.2.2.2.2.2.1.length qe6, .slice pe7 e9.2.2.2.2.2.2.2.1.length qe7, .slice pe8 e9.2.2.2.2.2.2.2.2.length qe8]) := hrep9 _ (fun k hk => setRow_other _ _ _ _ (by have h1 := HW0.out; have h2 := z0.out; omega))
      have HLF : Hid (msgsC.rep (w9.setRow w.heap.size #[.int .i64 e9.1.1, .slice pe1 e9.1.2.1.length qe1, .int .i64 e9.1.2.2.1, .slice pe2 e9.1.2.2.2.length qe2, .int .i64 e9.2.1, .int .i64 e9.2.2.1, .slice pe3 e9.2.2.2.1.length qe3, .slice pe4 e9.2.2.2.2.1.length qe4, .slice pe5 e9.2.2.2.2.2.1.length qe5, .slice pe6 e9.2.2.2.2.2.2.1.length qe6, .slice pe7 e9.2.2.2.2.2.2.2.1.length qe7, .slice pe8 e9.2.2.2.2.2.2.2.2.length qe8]) ([b2]) [.slice (some ⟨g, 2, none⟩) 1 (qbs - 1)]) := HL.out _ (fun k h1 h2 => (setRow_other _ _ _ _ (by have h3 := HW0.out; have h4 := z0.out; omega)).trans (hg9.block k h2 (fun e => by have h4 := z0.out; simp at e; omega)))
      have BE : Hid (Below w.heap.size w (w9.setRow w.heap.size #[.int .i64 e9.1.1, .slice pe1 e9.1.2.1.length qe1, .int .i64 e9.1.2.2.1, .slice pe2 e9.1.2.2.2.length qe2, .int .i64 e9.2.1, .int .i64 e9.2.2.1, .slice pe3 e9.2.2.2.1.length qe3, .slice pe4 e9.2.2.2.2.1.length qe4, .slice pe5 e9.2.2.2.2.2.1.length qe5, .slice pe6 e9.2.2.2.2.2.2.1.length qe6, .slice pe7 e9.2.2.2.2.2.2.2.1.length qe7, .slice pe8 e9.2.2.2.2.2.2.2.2.length qe8])) := Below.row (B0.trans (BW.mono (by have := HW0.out; omega))) (Nat.le_refl _) _
      have N := R.row [.int .i64 e9.1.1, .slice pe1 e9.1.2.1.length qe1, .int .i64 e9.1.2.2.1, .slice pe2 e9.1.2.2.2.length qe2, .int .i64 e9.2.1, .int .i64 e9.2.2.1, .slice pe3 e9.2.2.2.1.length qe3, .slice pe4 e9.2.2.2.2.1.length qe4, .slice pe5 e9.2.2.2.2.2.1.length qe5, .slice pe6 e9.2.2.2.2.2.2.1.length qe6, .slice pe7 e9.2.2.2.2.2.2.2.1.length qe7, .slice pe8 e9.2.2.2.2.2.2.2.2.length qe8]
      have d0 := (N.cell 0).trans (show _ = some _ from rfl)
      have d1 := (N.cell 1).trans (show _ = some _ from rfl)
      have d2 := (N.cell 2).trans (show _ = some _ from rfl)
      have d3 := (N.cell 3).trans (show _ = some _ from rfl)
      have d4 := (N.cell 4).trans (show _ = some _ from rfl)
      have d5 := (N.cell 5).trans (show _ = some _ from rfl)
      have d6 := (N.cell 6).trans (show _ = some _ from rfl)
      have d7 := (N.cell 7).trans (show _ = some _ from rfl)
      have d8 := (N.cell 8).trans (show _ = some _ from rfl)
      have d9 := (N.cell 9).trans (show _ = some _ from rfl)
      have d10 := (N.cell 10).trans (show _ = some _ from rfl)
      have d11 := (N.cell 11).trans (show _ = some _ from rfl)
      clear KAe Xa hs hs9 hg9 BW hrep9 HL xa1 xa2 xa3 xa4 xa5 xa6 xa7 xa8 xa9 xa10 xa11 xa12
      go_wp2_with (refine wpList_store_row rfl 32 _ _ rfl w.heap.size #[.int .i64 e9.1.1, .slice pe1 e9.1.2.1.length qe1, .int .i64 e9.1.2.2.1, .slice pe2 e9.1.2.2.2.length qe2, .int .i64 e9.2.1, .int .i64 e9.2.2.1, .slice pe3 e9.2.2.2.1.length qe3, .slice pe4 e9.2.2.2.2.1.length qe4, .slice pe5 e9.2.2.2.2.2.1.length qe5, .slice pe6 e9.2.2.2.2.2.2.1.length qe6, .slice pe7 e9.2.2.2.2.2.2.2.1.length qe7, .slice pe8 e9.2.2.2.2.2.2.2.2.length qe8] rfl rfl 32 #[.int .i64 0, .slice none 0 0, .int .i64 0, .slice none 0 0, .int .i64 0, .int .i64 0, .slice none 0 0, .slice none 0 0, .slice none 0 0, .slice none 0 0, .slice none 0 0, .slice none 0 0] R hresN.out rfl (by simp [Value.oneCell']) ?_)
      exact bodyPost_ret (v := .tuple #[.agg #[.int .i64 e9.1.1, .slice pe1 e9.1.2.1.length qe1, .int .i64 e9.1.2.2.1, .slice pe2 e9.1.2.2.2.length qe2, .int .i64 e9.2.1, .int .i64 e9.2.2.1, .slice pe3 e9.2.2.2.1.length qe3, .slice pe4 e9.2.2.2.2.1.length qe4, .slice pe5 e9.2.2.2.2.2.1.length qe5, .slice pe6 e9.2.2.2.2.2.2.1.length qe6, .slice pe7 e9.2.2.2.2.2.2.2.1.length qe7, .slice pe8 e9.2.2.2.2.2.2.2.2.length qe8], .slice (some ⟨g, 2, none⟩) 1 (qbs - 1)]) (by simp [results, Tryz.results14, go_sem, d0, d1, d2, d3, d4, d5, d6, d7, d8, d9, d10, d11]) rfl ⟨e9, [b2], [.int .i64 e9.1.1, .slice pe1 e9.1.2.1.length qe1, .int .i64 e9.1.2.2.1, .slice pe2 e9.1.2.2.2.length qe2, .int .i64 e9.2.1, .int .i64 e9.2.2.1, .slice pe3 e9.2.2.2.1.length qe3, .slice pe4 e9.2.2.2.2.1.length qe4, .slice pe5 e9.2.2.2.2.2.1.length qe5, .slice pe6 e9.2.2.2.2.2.2.1.length qe6, .slice pe7 e9.2.2.2.2.2.2.2.1.length qe7, .slice pe8 e9.2.2.2.2.2.2.2.2.length qe8], .slice (some ⟨g, 2, none⟩) 1 (qbs - 1), rfl, HF.out, HLF.out, BE.out⟩
    · have e1 : (r == 1) = false := by simp [h1]
      clear h1
      have HL : Hid (∀ W', (∀ k, w0.heap.size ≤ k → k < w4.heap.size → W'.heap[k]? = w4.heap[k]?) → msgsC.rep W' (B.2.2) [.slice pbs B.2.2.length qbs]) := fun W' hk => msgs_of_own (OD.fr fun k h => hk k (OD.ins k h).1 (OD.ins k h).2)
      clear OD
      have xa1 := (Xa.cell 1).trans (show _ = some _ from rfl)
      have xa2 := (Xa.cell 2).trans (show _ = some _ from rfl)
      have xa3 := (Xa.cell 3).trans (show _ = some _ from rfl)
      have xa4 := (Xa.cell 4).trans (show _ = some _ from rfl)
      have xa5 := (Xa.cell 5).trans (show _ = some _ from rfl)
      have xa6 := (Xa.cell 6).trans (show _ = some _ from rfl)
      have xa7 := (Xa.cell 7).trans (show _ = some _ from rfl)
      have xa8 := (Xa.cell 8).trans (show _ = some _ from rfl)
      have xa9 := (Xa.cell 9).trans (show _ = some _ from rfl)
      have xa10 := (Xa.cell 10).trans (show _ = some _ from rfl)
      have xa11 := (Xa.cell 11).trans (show _ = some _ from rfl)
      have xa12 := (Xa.cell 12).trans (show _ = some _ from rfl)
      go_wp2_with fail
      refine (l11Turned_c W.heap.size p q cs (0 + 20 + 1) w4 hs (by omega) (by omega) A.2.1 _ _ w0.heap.size z0.out (Nat.le_trans z1.out (Nat.le_of_lt Xa.lt)) KAe).mono ?_
      rintro e w9 ⟨e9, us9, t9, rfl, hrep9, k1, k2, hs9, hg9⟩
      replace R := R.other hg9 (fun e => by have := HW0.out; simp at e; omega)
      replace BW := below_of_grown BW hg9
      obtain ⟨pe1, qe1, pe2, qe2, pe3, qe3, pe4, qe4, pe5, qe5, pe6, qe6, pe7, qe7, pe8, qe8, rfl, -, -, -, -, -, -, -, -⟩ := end_rep (hrep9 w9 (fun _ _ => rfl))
      have HF : Hid (endC.rep (w9.setRow w.heap.size #[.int .i64 e9.1.1, .slice pe1 e9.1.2.1.length qe1, .int .i64 e9.1.2.2.1, .slice pe2 e9.1.2.2.2.length qe2, .int .i64 e9.2.1, .int .i64 e9.2.2.1, .slice pe3 e9.2.2.2.1.length qe3, .slice pe4 e9.2.2.2.2.1.length qe4, .slice pe5 e9.2.2.2.2.2.1.length qe5, .slice pe6 e9.2.2.2.2.2.2.1.length qe6, .slice pe7 e9.2.2.2.2.2.2.2.1.length qe7, .slice pe8 e9.2.2.2.2.2.2.2.2.length qe8]) e9 [.int .i64 e9.1.1, .slice pe1 e9.1.2.1.length qe1, .int .i64 e9.1.2.2.1, .slice pe2 e9.1.2.2.2.length qe2, .int .i64 e9.2.1, .int .i64 e9.2.2.1, .slice pe3 e9.2.2.2.1.length qe3, .slice pe4 e9.2.2.2.2.1.length qe4, .slice pe5 e9.2.2.2.2.2.1.length qe5, .slice pe6 e9.2.2.2.2.2.2.1.length qe6, .slice pe7 e9.2.2.2.2.2.2.2.1.length qe7, .slice pe8 e9.2.2.2.2.2.2.2.2.length qe8]) := hrep9 _ (fun k hk => setRow_other _ _ _ _ (by have h1 := HW0.out; have h2 := z0.out; omega))
      have HLF : Hid (msgsC.rep (w9.setRow w.heap.size #[.int .i64 e9.1.1, .slice pe1 e9.1.2.1.length qe1, .int .i64 e9.1.2.2.1, .slice pe2 e9.1.2.2.2.length qe2, .int .i64 e9.2.1, .int .i64 e9.2.2.1, .slice pe3 e9.2.2.2.1.length qe3, .slice pe4 e9.2.2.2.2.1.length qe4, .slice pe5 e9.2.2.2.2.2.1.length qe5, .slice pe6 e9.2.2.2.2.2.2.1.length qe6, .slice pe7 e9.2.2.2.2.2.2.2.1.length qe7, .slice pe8 e9.2.2.2.2.2.2.2.2.length qe8]) (B.2.2) [.slice pbs B.2.2.length qbs]) := HL.out _ (fun k h1 h2 => (setRow_other _ _ _ _ (by have h3 := HW0.out; have h4 := z0.out; omega)).trans (hg9.block k h2 (fun e => by have h4 := z0.out; simp at e; omega)))
      have BE : Hid (Below w.heap.size w (w9.setRow w.heap.size #[.int .i64 e9.1.1, .slice pe1 e9.1.2.1.length qe1, .int .i64 e9.1.2.2.1, .slice pe2 e9.1.2.2.2.length qe2, .int .i64 e9.2.1, .int .i64 e9.2.2.1, .slice pe3 e9.2.2.2.1.length qe3, .slice pe4 e9.2.2.2.2.1.length qe4, .slice pe5 e9.2.2.2.2.2.1.length qe5, .slice pe6 e9.2.2.2.2.2.2.1.length qe6, .slice pe7 e9.2.2.2.2.2.2.2.1.length qe7, .slice pe8 e9.2.2.2.2.2.2.2.2.length qe8])) := Below.row (B0.trans (BW.mono (by have := HW0.out; omega))) (Nat.le_refl _) _
      have N := R.row [.int .i64 e9.1.1, .slice pe1 e9.1.2.1.length qe1, .int .i64 e9.1.2.2.1, .slice pe2 e9.1.2.2.2.length qe2, .int .i64 e9.2.1, .int .i64 e9.2.2.1, .slice pe3 e9.2.2.2.1.length qe3, .slice pe4 e9.2.2.2.2.1.length qe4, .slice pe5 e9.2.2.2.2.2.1.length qe5, .slice pe6 e9.2.2.2.2.2.2.1.length qe6, .slice pe7 e9.2.2.2.2.2.2.2.1.length qe7, .slice pe8 e9.2.2.2.2.2.2.2.2.length qe8]
      have d0 := (N.cell 0).trans (show _ = some _ from rfl)
      have d1 := (N.cell 1).trans (show _ = some _ from rfl)
      have d2 := (N.cell 2).trans (show _ = some _ from rfl)
      have d3 := (N.cell 3).trans (show _ = some _ from rfl)
      have d4 := (N.cell 4).trans (show _ = some _ from rfl)
      have d5 := (N.cell 5).trans (show _ = some _ from rfl)
      have d6 := (N.cell 6).trans (show _ = some _ from rfl)
      have d7 := (N.cell 7).trans (show _ = some _ from rfl)
      have d8 := (N.cell 8).trans (show _ = some _ from rfl)
      have d9 := (N.cell 9).trans (show _ = some _ from rfl)
      have d10 := (N.cell 10).trans (show _ = some _ from rfl)
      have d11 := (N.cell 11).trans (show _ = some _ from rfl)
      clear KAe Xa hs hs9 hg9 BW hrep9 HL xa1 xa2 xa3 xa4 xa5 xa6 xa7 xa8 xa9 xa10 xa11 xa12
      go_wp2_with (refine wpList_store_row rfl 32 _ _ rfl w.heap.size #[.int .i64 e9.1.1, .slice pe1 e9.1.2.1.length qe1, .int .i64 e9.1.2.2.1, .slice pe2 e9.1.2.2.2.length qe2, .int .i64 e9.2.1, .int .i64 e9.2.2.1, .slice pe3 e9.2.2.2.1.length qe3, .slice pe4 e9.2.2.2.2.1.length qe4, .slice pe5 e9.2.2.2.2.2.1.length qe5, .slice pe6 e9.2.2.2.2.2.2.1.length qe6, .slice pe7 e9.2.2.2.2.2.2.2.1.length qe7, .slice pe8 e9.2.2.2.2.2.2.2.2.length qe8] rfl rfl 32 #[.int .i64 0, .slice none 0 0, .int .i64 0, .slice none 0 0, .int .i64 0, .int .i64 0, .slice none 0 0, .slice none 0 0, .slice none 0 0, .slice none 0 0, .slice none 0 0, .slice none 0 0] R hresN.out rfl (by simp [Value.oneCell']) ?_)
      exact bodyPost_ret (v := .tuple #[.agg #[.int .i64 e9.1.1, .slice pe1 e9.1.2.1.length qe1, .int .i64 e9.1.2.2.1, .slice pe2 e9.1.2.2.2.length qe2, .int .i64 e9.2.1, .int .i64 e9.2.2.1, .slice pe3 e9.2.2.2.1.length qe3, .slice pe4 e9.2.2.2.2.1.length qe4, .slice pe5 e9.2.2.2.2.2.1.length qe5, .slice pe6 e9.2.2.2.2.2.2.1.length qe6, .slice pe7 e9.2.2.2.2.2.2.2.1.length qe7, .slice pe8 e9.2.2.2.2.2.2.2.2.length qe8], .slice pbs B.2.2.length qbs]) (by simp [results, Tryz.results14, go_sem, d0, d1, d2, d3, d4, d5, d6, d7, d8, d9, d10, d11]) rfl ⟨e9, B.2.2, [.int .i64 e9.1.1, .slice pe1 e9.1.2.1.length qe1, .int .i64 e9.1.2.2.1, .slice pe2 e9.1.2.2.2.length qe2, .int .i64 e9.2.1, .int .i64 e9.2.2.1, .slice pe3 e9.2.2.2.1.length qe3, .slice pe4 e9.2.2.2.2.1.length qe4, .slice pe5 e9.2.2.2.2.2.1.length qe5, .slice pe6 e9.2.2.2.2.2.2.1.length qe6, .slice pe7 e9.2.2.2.2.2.2.2.1.length qe7, .slice pe8 e9.2.2.2.2.2.2.2.2.length qe8], .slice pbs B.2.2.length qbs, rfl, HF.out, HLF.out, BE.out⟩
end Go.Proofs.YtiabacnmmojfjaaGreatDoor

