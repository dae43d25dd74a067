/- The draws of chapter 10: DrawFinishedMsg, DrawCheckFinished. -/
import Derived.Test.YtpbkncliepkhaaaDoorJoint17
import Derived.Test.YtpbkncliepkhaaaDoorHelF
namespace Go.Proofs.YtpbkncliepkhaaaDoor
open Go.ChangeShapes Go.WideShapes Go.ChangeAt Go.RowKit

set_option maxRecDepth 4000 in
set_option maxHeartbeats 2000000 in
theorem drawFM_c (p : Option Addr) (q : Nat) (cs : List UInt8) (w : World) (hr : Rd w p q cs) :
    Calls Tryd.prog 23 #[.slice p cs.length q] w fun e w' => ∃ (ps : Option Addr) (qs : Nat) (s : List UInt8) (pl : Option Addr) (ql : Nat) (l : List MsgD) (xs : List Value) (fp : List Nat), e = .returned (.tuple #[.slice ps s.length qs, .slice pl l.length ql]) ∧ s.length ≤ 32 ∧ l.length ≤ 13 ∧ (∀ a ∈ l, a.2.length ≤ 161) ∧ Own w' w.heap.size (.slice ps s.length qs) s ∧ OwnL 26 msgC w' w.heap.size (.slice pl l.length ql) l xs fp ∧ Below w.heap.size w w' := by
  go_enter Tryd.func23, Tryd.ntmps23
  go_wp2_with fail
  refine (l1Source_c p q cs w hr).mono ?_
  rintro e w1 ⟨rfl, hs, BW, hlt⟩
  have z1 : Hid (w.heap.size < w1.heap.size) := hlt
  clear hlt hr
  go_wp2_with fail
  refine (l4Key_c w.heap.size p q cs 0 w1 hs (by omega) (by omega)).mono ?_
  rintro e w2 ⟨u, s, t2, rfl, hsl, ht0, ht1, ho, hs2, hg2⟩
  obtain ⟨ps, qs, rfl, -⟩ := ho.rd
  replace BW := below_of_grown BW hg2
  have HS : Hid (s.length ≤ 32) := hsl
  clear hs hg2 hsl
  go_wp2_with fail
  refine (l6Many_c w.heap.size p q cs t2 w2 hs2 (by omega) (by omega)).mono ?_
  rintro e w3 ⟨v, l, t3, rfl, hl, ha, -, -, ⟨xs, fp, hol⟩, -, hg3⟩
  obtain ⟨pl, ql, rfl, -⟩ := hol.rd
  replace BW := below_of_grown BW hg3
  replace ho := ho.other hg3 (fun k hk e => by have := ho.ge k hk; have := z1.out; simp at e; omega)
  have z2 : Hid (w.heap.size ≤ w2.heap.size) := by have := BW.size; have := hs2.lt; show _ ≤ _; omega
  replace ho := ho.lower (B' := w.heap.size) (Nat.le_of_lt z1.out)
  replace hol := hol.low (B' := w.heap.size) z2.out
  have HO : Hid (Own w3 w.heap.size (.slice ps s.length qs) s) := ho
  have HOL : Hid (OwnL 26 msgC w3 w.heap.size (.slice pl l.length ql) l xs fp) := hol
  clear hg3 hol hs2 ho
  go_wp2
  exact bodyPost_ret (v := .tuple #[.slice ps s.length qs, .slice pl l.length ql]) (by simp [results, Tryd.results23, go_sem]) rfl ⟨ps, qs, s, pl, ql, l, xs, fp, rfl, HS.out, hl, ha, HO.out, HOL.out, BW⟩
theorem ownL_rdL {w : World} {B ql : Nat} {pl : Option Addr} {l : List MsgD} {xs : List Value} {fp : List Nat} (h : OwnL 26 msgC w B (.slice pl l.length ql) l xs fp) : RdL msgC w pl ql l := by
  obtain ⟨p, q, e, r⟩ := h.rd
  cases e
  exact r
theorem cf_end {w v W : World} {ps pl pm : Option Addr} {qs ql qm : Nat} {s mb : List UInt8} {l : List MsgD} {xs : List Value} {fp : List Nat} (hb : Below w.heap.size w v) (hW : W.heap.size = w.heap.size + 1) (os : Own v W.heap.size (.slice ps s.length qs) s) (ol : OwnL 26 msgC v W.heap.size (.slice pl l.length ql) l xs fp) (r : Rd v pm qm mb) (hl : ∀ y, pm = some y → w.heap.size < y.block) (x y : Value) :
    Rd ((v.setCell ⟨w.heap.size, 0, none⟩ x).setCell ⟨w.heap.size, 1, none⟩ y) ps qs s ∧ RdL msgC ((v.setCell ⟨w.heap.size, 0, none⟩ x).setCell ⟨w.heap.size, 1, none⟩ y) pl ql l ∧ Rd ((v.setCell ⟨w.heap.size, 0, none⟩ x).setCell ⟨w.heap.size, 1, none⟩ y) pm qm mb ∧ Below w.heap.size w ((v.setCell ⟨w.heap.size, 0, none⟩ x).setCell ⟨w.heap.size, 1, none⟩ y) :=
  ⟨Rd.own ((os.set (a := ⟨w.heap.size, 0, none⟩) (show w.heap.size < _ by omega) _).set (a := ⟨w.heap.size, 1, none⟩) (show w.heap.size < _ by omega) _), ownL_rdL ((ol.draw (grownBy_set v w.heap.size 0 x) (by omega)).draw (grownBy_set _ w.heap.size 1 y) (by omega)), (msg_end hb r hl x y).1, (msg_end hb r hl x y).2⟩
set_option maxRecDepth 4000 in
set_option maxHeartbeats 4000000 in
theorem drawCF_c (p : Option Addr) (q : Nat) (cs : List UInt8) (w : World) (hr : Rd w p q cs) :
    Calls Tryd.prog 6 #[.slice p cs.length q] w fun e w' => ∃ (ps : Option Addr) (qs : Nat) (s : List UInt8) (pl : Option Addr) (ql : Nat) (l : List MsgD) (km : Int) (pm : Option Addr) (qm : Nat) (mb : List UInt8), e = .returned (.tuple #[.slice ps s.length qs, .slice pl l.length ql, .agg #[.int .i64 km, .slice pm mb.length qm]]) ∧ s.length ≤ 32 ∧ l.length ≤ 13 ∧ (∀ a ∈ l, a.2.length ≤ 161) ∧ -1 ≤ km ∧ km ≤ 256 ∧ mb.length ≤ 161 ∧ Rd w' ps qs s ∧ RdL msgC w' pl ql l ∧ Rd w' pm qm mb ∧ Below w.heap.size w w' := by
  have A0 := Arr.new w [.int .i64 0, .slice none 0 0] 26
  have B0 := alloc_below w (.cells #[.int .i64 0, .slice none 0 0] 26)
  replace hr := hr.keep B0
  generalize hW : w.alloc (.cells #[.int .i64 0, .slice none 0 0] 26) = W at *
  have HW0 : Hid (W.heap.size = w.heap.size + 1) := by show _ = _; rw [← hW, size_alloc]
  go_enter Tryd.func6, Tryd.ntmps6
  go_wp2_with fail
  clear hW
  refine (drawFM_c p q cs W hr).mono ?_
  rintro e w1 ⟨ps, qs, s, pl, ql, l, xs, fp, rfl, hsl, hll, hla, os, ol, BW⟩
  have HB : Hid (s.length ≤ 32 ∧ l.length ≤ 13 ∧ ∀ a ∈ l, a.2.length ≤ 161) := ⟨hsl, hll, hla⟩
  have AA : Hid (Arr w1 w.heap.size 26 [.int .i64 0, .slice none 0 0]) := A0.stay BW
  have OS : Hid (Own w1 W.heap.size (.slice ps s.length qs) s) := os
  have OL : Hid (OwnL 26 msgC w1 W.heap.size (.slice pl l.length ql) l xs fp) := ol
  have BW0 : Hid (Below w.heap.size w w1) := B0.trans (BW.mono (by have := HW0.out; omega))
  have z1 : Hid (w.heap.size < w1.heap.size) := by have := BW.size; have := HW0.out; show _ < _; omega
  replace hr := hr.keep BW
  clear A0 os ol B0 BW hsl hll hla
  go_wp2_with fail
  refine (l1Later_c p q cs 3 w1 hr (by omega)).mono ?_
  rintro e w2 ⟨rfl, hs2, BW1, hz2⟩
  have z2 : Hid (w1.heap.size < w2.heap.size) := hz2
  have K := specFm_c s l ps pl qs ql w2 (Rd.own (OS.out.stay BW1)) (ownL_rdL (OL.out.stay BW1))
  clear hr hz2
  by_cases hc : fmC s l = 0
  · rw [fmD_ok hc] at K
    have HK : Hid (Calls Tryd.prog 9 #[.slice ps s.length qs, .slice pl l.length ql] w2 fun e w' => ∃ u, e = .returned (.agg #[.int .i64 0, .int .i64 20, u]) ∧ Own w' w2.heap.size u (fmL s l) ∧ Below w2.heap.size w2 w') := K
    have HF : Hid ((fmL s l).length = 32) := finN_len _ _
    clear K hc
    go_wp2_with fail
    refine HK.out.mono ?_
    rintro e w3 ⟨u3, rfl, k3, hb3⟩
    clear HK
    generalize fmL s l = fb at *
    obtain ⟨p3, q3, rfl, -⟩ := k3.rd
    have A2 := Arr.new w3 [.int .i64 0, .int .i64 20, .slice p3 fb.length q3] 30
    have BA := alloc_below w3 (.cells #[.int .i64 0, .int .i64 20, .slice p3 fb.length q3] 30)
    have z3 : Hid (w1.heap.size < w3.heap.size) := by have := hb3.size; have := z2.out; show _ < _; omega
    have hlo : Hid (∀ k, (Value.slice p3 fb.length q3).ownBlock = some k → w2.heap.size ≤ k ∧ k < w3.heap.size) := fun k hk => ⟨k3.ge k hk, k3.lt k hk⟩
    replace k3 := k3.stay BA
    replace hs2 := (hs2.keep hb3).keep BA
    replace BW1 := Below.step (Below.step BW1 hb3) BA
    have c0 := (A2.cell 0).trans (show _ = some _ from rfl)
    clear hb3 BA
    go_wp2_with fail
    clear c0
    generalize w3.alloc (.cells #[.int .i64 0, .int .i64 20, .slice p3 fb.length q3] 30) = v3 at *
    refine (l1Chance_c w1.heap.size p q cs _ 5 v3 hs2 (by omega) (by omega) (by omega) (by omega)).mono ?_
    rintro e w4 ⟨r, rfl, hs4, hg4⟩
    replace A2 := A2.other hg4 (fun e => by have := z3.out; simp at e; omega)
    replace k3 := k3.other hg4 (fun k hk e => by have := hlo.out k hk; have := z2.out; simp at e; omega)
    replace BW1 := below_of_grown BW1 hg4
    clear hs2 hg4
    cases r
    case true =>
      go_wp2_with fail
      refine (l6Bent_c _ p q cs (_) w4 hs4 (by omega) (by omega)).mono ?_
      rintro e w8 ⟨km, u8, b8, t8, rfl, m0, m1, hl8, -, -, ho8, -, hg8⟩
      obtain ⟨p8, q8, rfl, r8⟩ := ho8.rd
      have hloc8 : ∀ y, p8 = some y → w.heap.size < y.block := fun y hy => by subst hy; have := ho8.ge y.block rfl; have := BW1.size; have := z1.out; omega
      replace BW1 := below_of_grown BW1 hg8
      clear ho8 hg8 hs4 A2 k3
      have os := OS.out.stay BW1
      have ol := OL.out.stay BW1
      have A0 := AA.out.stay BW1
      have hE := cf_end (Below.step BW0.out BW1) HW0.out os ol r8 hloc8 (.int .i64 km) (.slice p8 b8.length q8)
      have d0 := (A0.cell 0).trans (show _ = some _ from rfl)
      have d1 := (A0.cell 1).trans (show _ = some _ from rfl)
      have fy := A0.frozen
      have HE : Hid (_ ∧ _) := hE
      clear A0 os ol r8 hE hloc8 BW1
      go_wp2_with fail
      exact bodyPost_ret (v := .tuple #[.slice ps s.length qs, .slice pl l.length ql, .agg #[.int .i64 km, .slice p8 b8.length q8]]) (by simp [results, Tryd.results6, go_sem, d0, d1]) rfl ⟨ps, qs, s, pl, ql, l, km, p8, q8, b8, rfl, HB.out.1, HB.out.2.1, HB.out.2.2, m0, m1, hl8, HE.out.1, HE.out.2.1, HE.out.2.2.1, HE.out.2.2.2⟩
    case false =>
      go_wp2_with fail
      refine (l1Chance_c w1.heap.size p q cs _ 4 w4 hs4 (by omega) (by omega) (by omega) (by omega)).mono ?_
      rintro e w5 ⟨r, rfl, hs5, hg5⟩
      replace A2 := A2.other hg5 (fun e => by have := z3.out; simp at e; omega)
      replace k3 := k3.other hg5 (fun k hk e => by have := hlo.out k hk; have := z2.out; simp at e; omega)
      replace BW1 := below_of_grown BW1 hg5
      clear hs4 hg5
      cases r
      case false =>
        have r8 := Rd.own k3
        have hloc8 : ∀ y, p3 = some y → w.heap.size < y.block := fun y hy => by subst hy; have := hlo.out y.block rfl; have := z2.out; have := z1.out; omega
        clear k3 hs5
        have os := OS.out.stay BW1
        have ol := OL.out.stay BW1
        have A0 := AA.out.stay BW1
        have hE := cf_end (Below.step BW0.out BW1) HW0.out os ol r8 hloc8 (.int .i64 20) (.slice p3 fb.length q3)
        have d0 := (A0.cell 0).trans (show _ = some _ from rfl)
        have d1 := (A0.cell 1).trans (show _ = some _ from rfl)
        have fy := A0.frozen
        have HE : Hid (_ ∧ _) := hE
        clear A0 os ol r8 hE hloc8 BW1
        have c1 := (A2.cell 1).trans (show _ = some _ from rfl)
        have c2 := (A2.cell 2).trans (show _ = some _ from rfl)
        have fz := A2.frozen
        clear A2
        go_wp2_with fail
        go_region
        go_wp2
        exact bodyPost_ret (v := .tuple #[.slice ps s.length qs, .slice pl l.length ql, .agg #[.int .i64 20, .slice p3 fb.length q3]]) (by simp [results, Tryd.results6, go_sem, d0, d1]) rfl ⟨ps, qs, s, pl, ql, l, 20, p3, q3, fb, rfl, HB.out.1, HB.out.2.1, HB.out.2.2, by decide, by decide, (show fb.length ≤ 161 by have := HF.out; omega), HE.out.1, HE.out.2.1, HE.out.2.2.1, HE.out.2.2.2.drew⟩
      case true =>
        have hI : 0 < (fb.length : Int) := by have := HF.out; omega
        obtain ⟨g, e3⟩ : ∃ g, p3 = some ⟨g, 0, none⟩ := by
          rcases k3.2 with ⟨e, hz⟩ | ⟨g, cap, cur, e, -⟩
          · omega
          · simp at e; exact ⟨g, e.1⟩
        subst e3
        have hgb : Hid (w1.heap.size < g ∧ g < w3.heap.size) := by have := hlo.out g rfl; have := z2.out; show _ ∧ _; omega
        have c2 := (A2.cell 2).trans (show _ = some _ from rfl)
        have g2 := Gen.But.cell (b := w1.heap.size) c2 (show w3.heap.size ≠ w1.heap.size by have := z3.out; omega)
        have hne := Gen.But.some w1.heap.size w5
        clear c2
        go_wp2_with fail
        refine Gen.wp_region_pick (Gen.But.pre w1.heap.size) [0, 1, 2, 3] 9 5 1 rfl rfl rfl (by kernel_rfl) (by kernel_rfl) (by kernel_rfl) (by kernel_rfl) ?_
        simp only [opsAt, List.getElem?_toArray, List.getElem?_cons_zero, List.getElem?_cons_succ]
        repeat (go_big_quiet_step (fail))
        refine wpQuiet_nil ?_
        refine Gen.wpM_only (i := 4) (by kernel_rfl) ?_
        refine Gen.mOp_call rfl (by go_simp) 27 _ #[.pointer (some ⟨w1.heap.size, 0, none⟩), .int .i64 32] (fun w => by go_simp) rfl ?_
        rintro _ ⟨n1, rfl⟩
        refine (l1Next_c w1.heap.size p q cs _ 32 _ (hs5.drewN n1) (by omega) (by omega) (by omega) (by omega)).mono ?_
        rintro e w6 ⟨x, rfl, x0, y0, hs6, hg6⟩
        refine ⟨_, rfl, ⟨⟨w6, hg6⟩, rfl⟩, ?_⟩
        obtain ⟨x, rfl⟩ := Int.eq_ofNat_of_zero_le x0
        have hxl : x < fb.length := by have := HF.out; omega
        have hxI : (x : Int) < (fb.length : Int) := by omega
        have hgw : w5.grownBy w6 (some w1.heap.size) := grownBy_trans (grownBy_drewN w5 n1 _) hg6
        replace A2 := A2.other hgw (fun e => by have := z3.out; simp at e; omega)
        replace k3 := k3.other hgw (fun k hk e => by have := hlo.out k hk; have := z2.out; simp at e; omega)
        replace BW1 := below_of_grown BW1 hgw
        have cx := World.ownsRow.cellAt k3 x (by omega)
        rw [u8v_at hxl] at cx
        have gx := Gen.But.cell (b := w1.heap.size) cx (show g ≠ w1.heap.size by have := hgb.out; omega)
        have hne6 := Gen.But.some w1.heap.size w6
        unfold at8 at gx cx
        have hxo : bits .xor .u8 ((fb.getD x 0).toNat : Int) 1 = ((fb.getD x 0 ^^^ 1).toNat : Int) := w6_xor8 (fb.getD x 0) 1
        have HX : Hid (bits .xor .u8 (((fb[x]'hxl).toNat : Nat) : Int) 1 = ((fb.getD x 0 ^^^ 1).toNat : Int)) := by rw [← hxo, show fb.getD x 0 = fb[x]'hxl by simp [hxl]]; exact rfl
        clear hgw hg6 hne hs5 hs6 g2 hxo
        refine Gen.wpM_more (Gen.But.pre w1.heap.size) [5, 6, 7, 8] 4 0 rfl (by kernel_rfl) (by kernel_rfl) (by kernel_rfl) (by kernel_rfl) ?_
        simp only [opsAt, List.getElem?_toArray, List.getElem?_cons_zero, List.getElem?_cons_succ]
        go_simp
        repeat (go_big_quiet_step (fail))
        refine wpQuiet_nil ?_
        refine Gen.wpM_end (by kernel_rfl) rfl (by kernel_rfl) (by decide) ?_
        rintro _ ⟨n3, rfl⟩
        simp only [List.drop_succ_cons, List.drop_zero]
        replace k3 : Own (w6.drewN n3) w2.heap.size (.slice (some ⟨g, 0, none⟩) fb.length q3) fb := k3
        replace A2 : Arr (w6.drewN n3) w3.heap.size 30 [.int .i64 0, .int .i64 20, .slice (some ⟨g, 0, none⟩) fb.length q3] := A2
        replace BW1 : Below w1.heap.size w1 (w6.drewN n3) := BW1.trans ⟨rfl, rfl, rfl, Nat.le_refl _, fun _ _ => rfl⟩
        clear gx cx
        generalize w6.drewN n3 = w7 at *
        have cx := World.ownsRow.cellAt k3 x (by omega)
        rw [u8v_at hxl] at cx
        unfold at8 at cx
        have fx := World.ownsRow.frozenAt k3 x
        generalize fb.getD x 0 = y0 at *
        have R := World.ownsRow.stored k3 x (u8v (y0 ^^^ 1))
        have hR : Own (w7.setCell ⟨g, x, none⟩ (u8v (y0 ^^^ 1))) w2.heap.size (.slice (some ⟨g, 0, none⟩) fb.length q3) (fb.set x (y0 ^^^ 1)) := by
          unfold Own
          rw [List.length_set, List.map_set]
          exact R.1
        have HLS : Hid ((fb.set x (y0 ^^^ 1)).length = fb.length) := List.length_set
        have M8 := A2.setOther (a := ⟨g, x, none⟩) (show w3.heap.size ≠ g by have := hgb.out; omega) (u8v (y0 ^^^ 1))
        have B8 := BW1.grown (grownBy_set w7 g x (u8v (y0 ^^^ 1))) BW1.size (fun k hk => by simp at hk; have := hgb.out; omega)
        have rz := Rd.own hR
        unfold u8v at rz M8 B8
        rw [← HX.out] at rz M8 B8
        generalize fb.set x (y0 ^^^ 1) = sd at *
        have HM : Hid (Arr _ _ _ _) := M8
        have HR8 : Hid (Rd _ _ _ _) := rz
        have HB8 : Hid (Below _ _ _) := B8
        clear k3 M8 B8 rz BW1 A2 R hR
        go_wp2_with fail
        have A2 := HM.out
        have r8 := HR8.out
        have BW1 := HB8.out
        have hloc8 : ∀ y, some (⟨g, 0, none⟩ : Addr) = some y → w.heap.size < y.block := fun y hy => by cases hy; have := hgb.out; have := z1.out; show w.heap.size < g; omega
        clear HM HR8 HB8 cx fx
        generalize w7.setCell ⟨g, x, none⟩ (.int .u8 (bits .xor .u8 (((fb[x]'hxl).toNat : Nat) : Int) 1)) = w8 at *
        clear HX
        have os := OS.out.stay BW1
        have ol := OL.out.stay BW1
        have A0 := AA.out.stay BW1
        have hE := cf_end (Below.step BW0.out BW1) HW0.out os ol r8 hloc8 (.int .i64 20) (.slice (some ⟨g, 0, none⟩) fb.length q3)
        have d0 := (A0.cell 0).trans (show _ = some _ from rfl)
        have d1 := (A0.cell 1).trans (show _ = some _ from rfl)
        have fy := A0.frozen
        have HE : Hid (_ ∧ _) := hE
        clear A0 os ol r8 hE hloc8 BW1
        have c1 := (A2.cell 1).trans (show _ = some _ from rfl)
        have c2 := (A2.cell 2).trans (show _ = some _ from rfl)
        have fz := A2.frozen
        clear A2
        go_wp2_with fail
        go_region
        go_wp2
        exact bodyPost_ret (v := .tuple #[.slice ps s.length qs, .slice pl l.length ql, .agg #[.int .i64 20, .slice (some ⟨g, 0, none⟩) fb.length q3]]) (by simp [results, Tryd.results6, go_sem, d0, d1]) rfl ⟨ps, qs, s, pl, ql, l, 20, (some ⟨g, 0, none⟩), q3, sd, (by rw [HLS.out]), HB.out.1, HB.out.2.1, HB.out.2.2, by decide, by decide, (show sd.length ≤ 161 by rw [HLS.out, HF.out]; decide), HE.out.1, HE.out.2.1, HE.out.2.2.1, HE.out.2.2.2.drew⟩
  · rw [fmD_bad hc] at K
    obtain ⟨c, HC⟩ : ∃ c, Hid (c = fmC s l) := ⟨_, rfl⟩
    have hne0 : (c != 0) = true := by rw [bne_iff_ne, HC.out]; exact hc
    rw [← HC.out] at K
    have HK : Hid (Calls Tryd.prog 9 #[.slice ps s.length qs, .slice pl l.length ql] w2 fun e w' => ∃ u, e = .returned (.agg #[.int .i64 c, .int .i64 0, u]) ∧ Own w' w2.heap.size u [] ∧ Below w2.heap.size w2 w') := K
    clear K hc HC
    go_wp2_with fail
    refine HK.out.mono ?_
    rintro e w3 ⟨u3, rfl, k3, hb3⟩
    clear HK
    obtain ⟨p3, q3, rfl, -⟩ := k3.rd
    have A2 := Arr.new w3 [.int .i64 c, .int .i64 0, .slice p3 ([] : List UInt8).length q3] 30
    have BA := alloc_below w3 (.cells #[.int .i64 c, .int .i64 0, .slice p3 ([] : List UInt8).length q3] 30)
    replace hs2 := (hs2.keep hb3).keep BA
    replace BW1 := Below.step (Below.step BW1 hb3) BA
    have c0 := (A2.cell 0).trans (show _ = some _ from rfl)
    clear hb3 BA k3
    go_wp2_with fail
    clear c0
    refine (l6Bent_c _ p q cs (_) _ hs2 (by omega) (by omega)).mono ?_
    rintro e w8 ⟨km, u8, b8, t8, rfl, m0, m1, hl8, -, -, ho8, -, hg8⟩
    obtain ⟨p8, q8, rfl, r8⟩ := ho8.rd
    have hloc8 : ∀ y, p8 = some y → w.heap.size < y.block := fun y hy => by subst hy; have := ho8.ge y.block rfl; have := BW1.size; have := z1.out; omega
    replace BW1 := below_of_grown BW1 hg8
    clear ho8 hg8 hs2 A2
    have os := OS.out.stay BW1
    have ol := OL.out.stay BW1
    have A0 := AA.out.stay BW1
    have hE := cf_end (Below.step BW0.out BW1) HW0.out os ol r8 hloc8 (.int .i64 km) (.slice p8 b8.length q8)
    have d0 := (A0.cell 0).trans (show _ = some _ from rfl)
    have d1 := (A0.cell 1).trans (show _ = some _ from rfl)
    have fy := A0.frozen
    have HE : Hid (_ ∧ _) := hE
    clear A0 os ol r8 hE hloc8 BW1
    go_wp2_with fail
    exact bodyPost_ret (v := .tuple #[.slice ps s.length qs, .slice pl l.length ql, .agg #[.int .i64 km, .slice p8 b8.length q8]]) (by simp [results, Tryd.results6, go_sem, d0, d1]) rfl ⟨ps, qs, s, pl, ql, l, km, p8, q8, b8, rfl, HB.out.1, HB.out.2.1, HB.out.2.2, m0, m1, hl8, HE.out.1, HE.out.2.1, HE.out.2.2.1, HE.out.2.2.2⟩
end Go.Proofs.YtpbkncliepkhaaaDoor

