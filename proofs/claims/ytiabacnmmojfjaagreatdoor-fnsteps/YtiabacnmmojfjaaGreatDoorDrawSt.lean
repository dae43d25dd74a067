/- The draws of chapter 11 behind l11Bent (written by tools/draw_st.py): both ends as far as the server's messages; an end turned; what HearClient, HearServer and HearFinish are asked at. -/
import Derived.Test.YtiabacnmmojfjaaGreatDoorJoint24
import Derived.Test.YtiabacnmmojfjaaGreatDoorShkZ
import Derived.Test.YtiabacnmmojfjaaGreatDoorShkW
import Derived.Test.YtiabacnmmojfjaaGreatDoorShkY
import Derived.Test.YtiabacnmmojfjaaGreatDoorJoint6
import Derived.Test.YtiabacnmmojfjaaGreatDoorDrawSu
import Derived.Test.YtiabacnmmojfjaaGreatDoorShkB
namespace Go.Proofs.YtiabacnmmojfjaaGreatDoor
open Go.ChangeShapes Go.WideShapes Go.ChangeAt Go.RowKit

theorem msgs_blk {w : World} {B : Nat} {l : List MsgD} {g o n q : Nat} {fp : List Nat} (h : msgsC.own w B l [.slice (some ⟨g, o, none⟩) n q] fp) : B ≤ g := by
  obtain ⟨v, xs, f, e, O, rfl⟩ := h
  cases e
  exact (O.ins g (List.mem_append_left _ (mem_opt.2 rfl))).1
set_option maxRecDepth 4000 in
set_option maxHeartbeats 4000000 in
theorem l11Ends_c (b : Nat) (p : Option Addr) (q : Nat) (cs : List UInt8) (t : Int) (w : World) (hs : Src w b p q cs t) (ht : 0 ≤ t) (ht2 : t ≤ 700000000) :
    Calls Tryz.prog 47 #[.pointer (some ⟨b, 0, none⟩)] w fun e w' => ∃ (x y : SideD) (us vs : List Value) (fa fb : List Nat), e = .returned (.tuple #[.agg us.toArray, .agg vs.toArray]) ∧ sfC x = 0 ∧ sfC y = 0 ∧ endResultC.own w' w.heap.size (stE x) us fa ∧ endResultC.own w' w.heap.size (hcE y (headM (stE x).2.2)) vs fb ∧ (∀ k, k ∈ fa → k ∉ fb) ∧ Src w' b p q cs (t + 20) ∧ w.grownBy w' (some b) := by
  have R2 := (Arr.new w [.int .i64 0, .int .i64 0, .slice none 0 0, .int .i64 0, .slice none 0 0, .int .i64 0, .int .i64 0, .slice none 0 0, .slice none 0 0, .slice none 0 0, .slice none 0 0, .slice none 0 0, .slice none 0 0, .slice none 0 0] 43).old _ (.cells #[.int .i64 0, .int .i64 0, .slice none 0 0, .int .i64 0, .slice none 0 0, .int .i64 0, .int .i64 0, .slice none 0 0, .slice none 0 0, .slice none 0 0, .slice none 0 0, .slice none 0 0, .slice none 0 0, .slice none 0 0] 43)
  have R3 := Arr.new (w.alloc (.cells #[.int .i64 0, .int .i64 0, .slice none 0 0, .int .i64 0, .slice none 0 0, .int .i64 0, .int .i64 0, .slice none 0 0, .slice none 0 0, .slice none 0 0, .slice none 0 0, .slice none 0 0, .slice none 0 0, .slice none 0 0] 43)) [.int .i64 0, .int .i64 0, .slice none 0 0, .int .i64 0, .slice none 0 0, .int .i64 0, .int .i64 0, .slice none 0 0, .slice none 0 0, .slice none 0 0, .slice none 0 0, .slice none 0 0, .slice none 0 0, .slice none 0 0] 43
  rw [size_alloc] at R3
  have B0 := Below.mk (alloc_below w (.cells #[.int .i64 0, .int .i64 0, .slice none 0 0, .int .i64 0, .slice none 0 0, .int .i64 0, .int .i64 0, .slice none 0 0, .slice none 0 0, .slice none 0 0, .slice none 0 0, .slice none 0 0, .slice none 0 0, .slice none 0 0] 43)) (.cells #[.int .i64 0, .int .i64 0, .slice none 0 0, .int .i64 0, .slice none 0 0, .int .i64 0, .int .i64 0, .slice none 0 0, .slice none 0 0, .slice none 0 0, .slice none 0 0, .slice none 0 0, .slice none 0 0, .slice none 0 0] 43)
  have hb0 : Hid (b < w.heap.size) := hs.lt
  have hs0 := hs.keep B0
  have hz0 : Hid (((w.alloc (.cells #[.int .i64 0, .int .i64 0, .slice none 0 0, .int .i64 0, .slice none 0 0, .int .i64 0, .int .i64 0, .slice none 0 0, .slice none 0 0, .slice none 0 0, .slice none 0 0, .slice none 0 0, .slice none 0 0, .slice none 0 0] 43)).alloc (.cells #[.int .i64 0, .int .i64 0, .slice none 0 0, .int .i64 0, .slice none 0 0, .int .i64 0, .int .i64 0, .slice none 0 0, .slice none 0 0, .slice none 0 0, .slice none 0 0, .slice none 0 0, .slice none 0 0, .slice none 0 0] 43)).heap.size = w.heap.size + 1 + 1) := by show _ = _; rw [size_alloc, size_alloc]
  go_enter Tryz.func47, Tryz.ntmps47
  go_wp2_with fail
  generalize ((w.alloc (.cells #[.int .i64 0, .int .i64 0, .slice none 0 0, .int .i64 0, .slice none 0 0, .int .i64 0, .int .i64 0, .slice none 0 0, .slice none 0 0, .slice none 0 0, .slice none 0 0, .slice none 0 0, .slice none 0 0, .slice none 0 0] 43)).alloc (.cells #[.int .i64 0, .int .i64 0, .slice none 0 0, .int .i64 0, .slice none 0 0, .int .i64 0, .int .i64 0, .slice none 0 0, .slice none 0 0, .slice none 0 0, .slice none 0 0, .slice none 0 0, .slice none 0 0, .slice none 0 0] 43)) = W at *
  refine (l11Draw_c b p q cs t W hs0 (by omega) (by omega)).mono ?_
  rintro e w1 ⟨pu, pv, qu, qv, x, rfl, hfx, ho, hk, hs1, hg1⟩
  replace R2 := R2.other hg1 (fun e => by have := hb0.out; simp at e; omega)
  replace R3 := R3.other hg1 (fun e => by have := hb0.out; simp at e; omega)
  have hG : w.grownBy w1 (some b) := grownBy_trans (grownBy_low B0 _) hg1
  have HX : Hid (sfC x = 0) := hfx
  obtain ⟨A, HA⟩ : ∃ A, Hid (A = stE x) := ⟨_, rfl⟩
  have KSt := specSt_k x _ w1 (side_mk (Rd.own ho) (Rd.own hk))
  rw [← HA.out] at KSt
  have HAl : Hid (0 < A.2.2.length) := by show _ < _; rw [HA.out, stE_ok hfx]; exact Nat.zero_lt_one
  clear hs0 hg1 ho hk hs hfx B0
  go_wp2_with fail
  refine KSt.mono ?_
  rintro e w2 ⟨usa, fa, rfl, Ka, hb2⟩
  obtain ⟨pa1, qa1, pa2, qa2, pa3, qa3, pa4, qa4, pa5, qa5, pa6, qa6, pa7, qa7, pa8, qa8, pas, qas, rfl, -, -, -, -, -, -, -, -, -⟩ := endResult_rep (endResultC.toRep Ka)
  have hl1 := alloc_below w2 (.cells #[.int .i64 A.1, .int .i64 A.2.1.1.1, .slice pa1 A.2.1.1.2.1.length qa1, .int .i64 A.2.1.1.2.2.1, .slice pa2 A.2.1.1.2.2.2.length qa2, .int .i64 A.2.1.2.1, .int .i64 A.2.1.2.2.1, .slice pa3 A.2.1.2.2.2.1.length qa3, .slice pa4 A.2.1.2.2.2.2.1.length qa4, .slice pa5 A.2.1.2.2.2.2.2.1.length qa5, .slice pa6 A.2.1.2.2.2.2.2.2.1.length qa6, .slice pa7 A.2.1.2.2.2.2.2.2.2.1.length qa7, .slice pa8 A.2.1.2.2.2.2.2.2.2.2.length qa8, .slice pas A.2.2.length qas] 43)
  have Na := Arr.new w2 [.int .i64 A.1, .int .i64 A.2.1.1.1, .slice pa1 A.2.1.1.2.1.length qa1, .int .i64 A.2.1.1.2.2.1, .slice pa2 A.2.1.1.2.2.2.length qa2, .int .i64 A.2.1.2.1, .int .i64 A.2.1.2.2.1, .slice pa3 A.2.1.2.2.2.1.length qa3, .slice pa4 A.2.1.2.2.2.2.1.length qa4, .slice pa5 A.2.1.2.2.2.2.2.1.length qa5, .slice pa6 A.2.1.2.2.2.2.2.2.1.length qa6, .slice pa7 A.2.1.2.2.2.2.2.2.2.1.length qa7, .slice pa8 A.2.1.2.2.2.2.2.2.2.2.length qa8, .slice pas A.2.2.length qas] 43
  have hb3 := Below.step hb2 hl1
  have hW1 : Hid (w.heap.size + 1 < w1.heap.size) := R3.lt
  have HKa : Hid (∀ k, k ∈ fa → k < w2.heap.size ∧ w1.heap.size ≤ k) := fun k hk => ⟨(endResultC.ins Ka k hk).2, (endResultC.ins Ka k hk).1⟩
  replace Ka := endResultC.low (endResultC.stay Ka hl1) (show w.heap.size ≤ w1.heap.size by have := hW1.out; omega)
  have hW2 : Hid (w1.heap.size ≤ w2.heap.size) := hb2.size
  replace R2 := R2.stay hb3
  replace R3 := R3.stay hb3
  replace hs1 := hs1.keep hb3
  replace hG := grownBy_trans hG (grownBy_low hb3 _)
  go_wp2_with fail
  generalize w2.alloc (.cells #[.int .i64 A.1, .int .i64 A.2.1.1.1, .slice pa1 A.2.1.1.2.1.length qa1, .int .i64 A.2.1.1.2.2.1, .slice pa2 A.2.1.1.2.2.2.length qa2, .int .i64 A.2.1.2.1, .int .i64 A.2.1.2.2.1, .slice pa3 A.2.1.2.2.2.1.length qa3, .slice pa4 A.2.1.2.2.2.2.1.length qa4, .slice pa5 A.2.1.2.2.2.2.2.1.length qa5, .slice pa6 A.2.1.2.2.2.2.2.2.1.length qa6, .slice pa7 A.2.1.2.2.2.2.2.2.2.1.length qa7, .slice pa8 A.2.1.2.2.2.2.2.2.2.2.length qa8, .slice pas A.2.2.length qas] 43) = V1 at *
  clear hb2 hl1 hb3 KSt
  obtain ⟨fae, fad, KAe, KAd, -⟩ := endR_parts (us := [.int .i64 A.2.1.1.1, .slice pa1 A.2.1.1.2.1.length qa1, .int .i64 A.2.1.1.2.2.1, .slice pa2 A.2.1.1.2.2.2.length qa2, .int .i64 A.2.1.2.1, .int .i64 A.2.1.2.2.1, .slice pa3 A.2.1.2.2.2.1.length qa3, .slice pa4 A.2.1.2.2.2.2.1.length qa4, .slice pa5 A.2.1.2.2.2.2.2.1.length qa5, .slice pa6 A.2.1.2.2.2.2.2.2.1.length qa6, .slice pa7 A.2.1.2.2.2.2.2.2.2.1.length qa7, .slice pa8 A.2.1.2.2.2.2.2.2.2.2.length qa8]) Ka rfl
  obtain ⟨ga0, oa0, qa0, pm, qm, ea, hq1, hq2, m0, m1, RM⟩ := head_at KAd HAl.out
  cases ea
  have hgb : Hid (w.heap.size ≤ ga0) := msgs_blk KAd
  obtain ⟨M, HM⟩ : ∃ M, Hid (M = headM A.2.2) := ⟨_, rfl⟩
  rw [← HM.out] at m0 m1 RM
  have hln : (0 : Int) < (A.2.2.length : Int) := by have := HAl.out; omega
  have hnb : w2.heap.size ≠ b := by have := hb0.out; have := hW1.out; have := hW2.out; omega
  have hnb2 : ga0 ≠ b := by have := hb0.out; have := hgb.out; omega
  have HC1 : Hid (V1.cell? ⟨ga0, oa0 + 1, none⟩ = some (.slice pm M.2.length qm)) := m1
  have n0 := Gen.But.cell (b := b) ((Na.cell 0).trans (show _ = some _ from rfl)) hnb
  have n1 := Gen.But.cell (b := b) ((Na.cell 1).trans (show _ = some _ from rfl)) hnb
  have n2 := Gen.But.cell (b := b) ((Na.cell 2).trans (show _ = some _ from rfl)) hnb
  have n3 := Gen.But.cell (b := b) ((Na.cell 3).trans (show _ = some _ from rfl)) hnb
  have n4 := Gen.But.cell (b := b) ((Na.cell 4).trans (show _ = some _ from rfl)) hnb
  have n5 := Gen.But.cell (b := b) ((Na.cell 5).trans (show _ = some _ from rfl)) hnb
  have n6 := Gen.But.cell (b := b) ((Na.cell 6).trans (show _ = some _ from rfl)) hnb
  have n7 := Gen.But.cell (b := b) ((Na.cell 7).trans (show _ = some _ from rfl)) hnb
  have n8 := Gen.But.cell (b := b) ((Na.cell 8).trans (show _ = some _ from rfl)) hnb
  have n9 := Gen.But.cell (b := b) ((Na.cell 9).trans (show _ = some _ from rfl)) hnb
  have n10 := Gen.But.cell (b := b) ((Na.cell 10).trans (show _ = some _ from rfl)) hnb
  have n11 := Gen.But.cell (b := b) ((Na.cell 11).trans (show _ = some _ from rfl)) hnb
  have n12 := Gen.But.cell (b := b) ((Na.cell 12).trans (show _ = some _ from rfl)) hnb
  have n13 := Gen.But.cell (b := b) ((Na.cell 13).trans (show _ = some _ from rfl)) hnb
  replace m0 := Gen.But.cell (b := b) m0 hnb2
  replace m1 := Gen.But.cell (b := b) m1 hnb2
  have hne := Gen.But.some b V1
  clear RM KAe KAd hnb hnb2
  refine Gen.wp_region_pick (Gen.But.pre b) [0, 1, 3, 4, 5, 6] 8 2 2 rfl rfl rfl (by kernel_rfl) (by kernel_rfl) (by kernel_rfl) (by kernel_rfl) ?_
  simp only [opsAt, List.getElem?_toArray, List.getElem?_cons_zero, List.getElem?_cons_succ]
  repeat (go_big_quiet_step (fail))
  refine wpQuiet_nil ?_
  clear m0 m1 n0 n1 n2 n3 n4 n5 n6 n7 n8 n9 n10 n11 n12 n13
  refine Gen.wpM_only (i := 2) (by kernel_rfl) ?_
  refine Gen.mOp_call rfl (by go_simp) 78 _ #[.pointer (some ⟨b, 0, none⟩)] (fun w => by go_simp) rfl ?_
  rintro _ ⟨n1, rfl⟩
  refine (l11Draw_c b p q cs (t + 10) _ (hs1.drewN n1) (by omega) (by omega)).mono ?_
  rintro e w3 ⟨pu2, pv2, qu2, qv2, y, rfl, hfy, hoy, hky, hs3, hg3⟩
  refine ⟨_, rfl, ⟨⟨w3, hg3⟩, rfl⟩, ?_⟩
  have HY : Hid (sfC y = 0) := hfy
  have hgw : V1.grownBy w3 (some b) := grownBy_trans (grownBy_drewN V1 n1 _) hg3
  replace R2 := R2.other hgw (fun e => by have := hb0.out; simp at e; omega)
  replace R3 := R3.other hgw (fun e => by have := hb0.out; simp at e; omega)
  replace hG := grownBy_trans hG hgw
  have hnotb : Hid (∀ k, k ∈ fa → k ∉ (some b).toList) := fun k hk e => by have h1 := (HKa.out k hk).2; have h2 := hb0.out; have h3 := hW1.out; simp at e; omega
  replace Ka := endResultC.other Ka (Only.grown hgw) hnotb.out
  have HKl : Hid (∀ k, k ∈ fa → k < w3.heap.size) := fun k hk => (endResultC.ins Ka k hk).2
  have HRM3 : Hid (Rd w3 pm qm M.2) := by
    obtain ⟨fae, fad, KAe, KAd, -⟩ := endR_parts (us := [.int .i64 A.2.1.1.1, .slice pa1 A.2.1.1.2.1.length qa1, .int .i64 A.2.1.1.2.2.1, .slice pa2 A.2.1.1.2.2.2.length qa2, .int .i64 A.2.1.2.1, .int .i64 A.2.1.2.2.1, .slice pa3 A.2.1.2.2.2.1.length qa3, .slice pa4 A.2.1.2.2.2.2.1.length qa4, .slice pa5 A.2.1.2.2.2.2.2.1.length qa5, .slice pa6 A.2.1.2.2.2.2.2.2.1.length qa6, .slice pa7 A.2.1.2.2.2.2.2.2.2.1.length qa7, .slice pa8 A.2.1.2.2.2.2.2.2.2.2.length qa8]) Ka rfl
    obtain ⟨g', o', q', pm', qm', e', -, -, -, c1', RM'⟩ := head_at KAd HAl.out
    cases e'
    rw [← HM.out] at c1' RM'
    have hc := cell_other HC1.out hgw (fun e => by have h1 := hb0.out; have h2 := hgb.out; simp at e; omega)
    rw [c1'] at hc
    obtain ⟨rfl, rfl⟩ : pm' = pm ∧ qm' = qm := by simpa using hc
    exact RM'
  obtain ⟨B, HB⟩ : ∃ B, Hid (B = hcE y M) := ⟨_, rfl⟩
  have hne3 := Gen.But.some b w3
  clear hgw hg3 hs1 hne HC1 hfy
  refine Gen.wpM_only (i := 7) (by kernel_rfl) ?_
  refine Gen.mOp_call rfl (by go_simp) 22 _ #[.agg #[.int .i64 y.1, .slice pu2 y.2.1.length qu2, .int .i64 y.2.2.1, .slice pv2 y.2.2.2.length qv2], .agg #[.int .i64 M.1, .slice pm M.2.length qm]] (fun w => by go_simp) rfl ?_
  rintro _ ⟨n2, rfl⟩
  have hoy' : Own (w3.drewN n2) _ _ _ := hoy
  have hky' : Own (w3.drewN n2) _ _ _ := hky
  have HRM4 : Rd (w3.drewN n2) pm qm M.2 := HRM3.out
  have KHc := specHc_k y M _ _ (w3.drewN n2) (side_mk (Rd.own hoy') (Rd.own hky')) (msg_mk (a := M) HRM4)
  rw [← HB.out] at KHc
  refine KHc.mono ?_
  rintro e w4 ⟨usb, fb, rfl, Kb, hb4⟩
  refine ⟨_, rfl, ⟨⟨w4, grownBy_low hb4 _⟩, rfl⟩, ?_⟩
  obtain ⟨pb1, qb1, pb2, qb2, pb3, qb3, pb4, qb4, pb5, qb5, pb6, qb6, pb7, qb7, pb8, qb8, pbs, qbs, rfl, -, -, -, -, -, -, -, -, -⟩ := endResult_rep (endResultC.toRep Kb)
  have hb5 : Below w3.heap.size w3 w4 := ⟨hb4.os, hb4.tape, hb4.output, hb4.size, hb4.block⟩
  have HKb : Hid (∀ k, k ∈ fb → w3.heap.size ≤ k) := fun k hk => (endResultC.ins Kb k hk).1
  have hW3 : Hid (w.heap.size + 1 < w3.heap.size) := R3.lt
  replace Kb := endResultC.low Kb (show w.heap.size ≤ w3.heap.size by have := hW3.out; omega)
  replace R2 := R2.stay hb5
  replace R3 := R3.stay hb5
  replace Ka := endResultC.stay Ka hb5
  replace hs3 := hs3.keep hb5
  rw [show t + 10 + 10 = t + 20 by omega] at hs3
  replace hG := grownBy_trans hG (grownBy_low hb5 _)
  have hres : Hid ((Tryz.prog.info? 43).map (·.size) = some 14) := by show _ = _; kernel_rfl
  clear hb4 hb5 KHc hoy hky hoy' hky' HRM3 HRM4 hne3 Na hq1 hq2 hln
  refine Gen.wpM_end (by kernel_rfl) rfl (by kernel_rfl) (by decide) ?_
  rintro _ ⟨n3, rfl⟩
  simp only [List.drop_succ_cons, List.drop_zero]
  replace R2 : Arr (w4.drewN n3) w.heap.size 43 [.int .i64 0, .int .i64 0, .slice none 0 0, .int .i64 0, .slice none 0 0, .int .i64 0, .int .i64 0, .slice none 0 0, .slice none 0 0, .slice none 0 0, .slice none 0 0, .slice none 0 0, .slice none 0 0, .slice none 0 0] := R2
  replace R3 : Arr (w4.drewN n3) (w.heap.size + 1) 43 [.int .i64 0, .int .i64 0, .slice none 0 0, .int .i64 0, .slice none 0 0, .int .i64 0, .int .i64 0, .slice none 0 0, .slice none 0 0, .slice none 0 0, .slice none 0 0, .slice none 0 0, .slice none 0 0, .slice none 0 0] := R3
  replace Ka := endResultC.fr (w' := w4.drewN n3) Ka (fun _ _ => rfl)
  replace Kb := endResultC.fr (w' := w4.drewN n3) Kb (fun _ _ => rfl)
  replace hs3 := hs3.drewN n3
  replace hG := grownBy_trans hG (grownBy_drewN w4 n3 _)
  generalize w4.drewN n3 = w5 at *
  have R3' := R3.rowOther (k := w.heap.size) (by omega) #[.int .i64 A.1, .int .i64 A.2.1.1.1, .slice pa1 A.2.1.1.2.1.length qa1, .int .i64 A.2.1.1.2.2.1, .slice pa2 A.2.1.1.2.2.2.length qa2, .int .i64 A.2.1.2.1, .int .i64 A.2.1.2.2.1, .slice pa3 A.2.1.2.2.2.1.length qa3, .slice pa4 A.2.1.2.2.2.2.1.length qa4, .slice pa5 A.2.1.2.2.2.2.2.1.length qa5, .slice pa6 A.2.1.2.2.2.2.2.2.1.length qa6, .slice pa7 A.2.1.2.2.2.2.2.2.2.1.length qa7, .slice pa8 A.2.1.2.2.2.2.2.2.2.2.length qa8, .slice (some ⟨ga0, oa0, none⟩) A.2.2.length qas]
  have RB := R3'.row [.int .i64 B.1, .int .i64 B.2.1.1.1, .slice pb1 B.2.1.1.2.1.length qb1, .int .i64 B.2.1.1.2.2.1, .slice pb2 B.2.1.1.2.2.2.length qb2, .int .i64 B.2.1.2.1, .int .i64 B.2.1.2.2.1, .slice pb3 B.2.1.2.2.2.1.length qb3, .slice pb4 B.2.1.2.2.2.2.1.length qb4, .slice pb5 B.2.1.2.2.2.2.2.1.length qb5, .slice pb6 B.2.1.2.2.2.2.2.2.1.length qb6, .slice pb7 B.2.1.2.2.2.2.2.2.2.1.length qb7, .slice pb8 B.2.1.2.2.2.2.2.2.2.2.length qb8, .slice pbs B.2.2.length qbs]
  have RA := (R2.row [.int .i64 A.1, .int .i64 A.2.1.1.1, .slice pa1 A.2.1.1.2.1.length qa1, .int .i64 A.2.1.1.2.2.1, .slice pa2 A.2.1.1.2.2.2.length qa2, .int .i64 A.2.1.2.1, .int .i64 A.2.1.2.2.1, .slice pa3 A.2.1.2.2.2.1.length qa3, .slice pa4 A.2.1.2.2.2.2.1.length qa4, .slice pa5 A.2.1.2.2.2.2.2.1.length qa5, .slice pa6 A.2.1.2.2.2.2.2.2.1.length qa6, .slice pa7 A.2.1.2.2.2.2.2.2.2.1.length qa7, .slice pa8 A.2.1.2.2.2.2.2.2.2.2.length qa8, .slice (some ⟨ga0, oa0, none⟩) A.2.2.length qas]).rowOther (k := w.heap.size + 1) (by omega) #[.int .i64 B.1, .int .i64 B.2.1.1.1, .slice pb1 B.2.1.1.2.1.length qb1, .int .i64 B.2.1.1.2.2.1, .slice pb2 B.2.1.1.2.2.2.length qb2, .int .i64 B.2.1.2.1, .int .i64 B.2.1.2.2.1, .slice pb3 B.2.1.2.2.2.1.length qb3, .slice pb4 B.2.1.2.2.2.2.1.length qb4, .slice pb5 B.2.1.2.2.2.2.2.1.length qb5, .slice pb6 B.2.1.2.2.2.2.2.2.1.length qb6, .slice pb7 B.2.1.2.2.2.2.2.2.2.1.length qb7, .slice pb8 B.2.1.2.2.2.2.2.2.2.2.length qb8, .slice pbs B.2.2.length qbs]
  have hFa := turned_fin hs3 hb0.out hG (Nat.le_refl _) #[.int .i64 A.1, .int .i64 A.2.1.1.1, .slice pa1 A.2.1.1.2.1.length qa1, .int .i64 A.2.1.1.2.2.1, .slice pa2 A.2.1.1.2.2.2.length qa2, .int .i64 A.2.1.2.1, .int .i64 A.2.1.2.2.1, .slice pa3 A.2.1.2.2.2.1.length qa3, .slice pa4 A.2.1.2.2.2.2.1.length qa4, .slice pa5 A.2.1.2.2.2.2.2.1.length qa5, .slice pa6 A.2.1.2.2.2.2.2.2.1.length qa6, .slice pa7 A.2.1.2.2.2.2.2.2.2.1.length qa7, .slice pa8 A.2.1.2.2.2.2.2.2.2.2.length qa8, .slice (some ⟨ga0, oa0, none⟩) A.2.2.length qas]
  have hFb := turned_fin hFa.1 hb0.out hFa.2 (show w.heap.size ≤ w.heap.size + 1 by omega) #[.int .i64 B.1, .int .i64 B.2.1.1.1, .slice pb1 B.2.1.1.2.1.length qb1, .int .i64 B.2.1.1.2.2.1, .slice pb2 B.2.1.1.2.2.2.length qb2, .int .i64 B.2.1.2.1, .int .i64 B.2.1.2.2.1, .slice pb3 B.2.1.2.2.2.1.length qb3, .slice pb4 B.2.1.2.2.2.2.1.length qb4, .slice pb5 B.2.1.2.2.2.2.2.1.length qb5, .slice pb6 B.2.1.2.2.2.2.2.2.1.length qb6, .slice pb7 B.2.1.2.2.2.2.2.2.2.1.length qb7, .slice pb8 B.2.1.2.2.2.2.2.2.2.2.length qb8, .slice pbs B.2.2.length qbs]
  replace Ka := endResultC.row (endResultC.row Ka (g := w.heap.size) (fun k hk e => by have h1 := (HKa.out k hk).2; have h2 := hW1.out; omega) #[.int .i64 A.1, .int .i64 A.2.1.1.1, .slice pa1 A.2.1.1.2.1.length qa1, .int .i64 A.2.1.1.2.2.1, .slice pa2 A.2.1.1.2.2.2.length qa2, .int .i64 A.2.1.2.1, .int .i64 A.2.1.2.2.1, .slice pa3 A.2.1.2.2.2.1.length qa3, .slice pa4 A.2.1.2.2.2.2.1.length qa4, .slice pa5 A.2.1.2.2.2.2.2.1.length qa5, .slice pa6 A.2.1.2.2.2.2.2.2.1.length qa6, .slice pa7 A.2.1.2.2.2.2.2.2.2.1.length qa7, .slice pa8 A.2.1.2.2.2.2.2.2.2.2.length qa8, .slice (some ⟨ga0, oa0, none⟩) A.2.2.length qas]) (g := w.heap.size + 1) (fun k hk e => by have h1 := (HKa.out k hk).2; have h2 := hW1.out; omega) #[.int .i64 B.1, .int .i64 B.2.1.1.1, .slice pb1 B.2.1.1.2.1.length qb1, .int .i64 B.2.1.1.2.2.1, .slice pb2 B.2.1.1.2.2.2.length qb2, .int .i64 B.2.1.2.1, .int .i64 B.2.1.2.2.1, .slice pb3 B.2.1.2.2.2.1.length qb3, .slice pb4 B.2.1.2.2.2.2.1.length qb4, .slice pb5 B.2.1.2.2.2.2.2.1.length qb5, .slice pb6 B.2.1.2.2.2.2.2.2.1.length qb6, .slice pb7 B.2.1.2.2.2.2.2.2.2.1.length qb7, .slice pb8 B.2.1.2.2.2.2.2.2.2.2.length qb8, .slice pbs B.2.2.length qbs]
  replace Kb := endResultC.row (endResultC.row Kb (g := w.heap.size) (fun k hk e => by have h1 := HKb.out k hk; have h2 := hW3.out; omega) #[.int .i64 A.1, .int .i64 A.2.1.1.1, .slice pa1 A.2.1.1.2.1.length qa1, .int .i64 A.2.1.1.2.2.1, .slice pa2 A.2.1.1.2.2.2.length qa2, .int .i64 A.2.1.2.1, .int .i64 A.2.1.2.2.1, .slice pa3 A.2.1.2.2.2.1.length qa3, .slice pa4 A.2.1.2.2.2.2.1.length qa4, .slice pa5 A.2.1.2.2.2.2.2.1.length qa5, .slice pa6 A.2.1.2.2.2.2.2.2.1.length qa6, .slice pa7 A.2.1.2.2.2.2.2.2.2.1.length qa7, .slice pa8 A.2.1.2.2.2.2.2.2.2.2.length qa8, .slice (some ⟨ga0, oa0, none⟩) A.2.2.length qas]) (g := w.heap.size + 1) (fun k hk e => by have h1 := HKb.out k hk; have h2 := hW3.out; omega) #[.int .i64 B.1, .int .i64 B.2.1.1.1, .slice pb1 B.2.1.1.2.1.length qb1, .int .i64 B.2.1.1.2.2.1, .slice pb2 B.2.1.1.2.2.2.length qb2, .int .i64 B.2.1.2.1, .int .i64 B.2.1.2.2.1, .slice pb3 B.2.1.2.2.2.1.length qb3, .slice pb4 B.2.1.2.2.2.2.1.length qb4, .slice pb5 B.2.1.2.2.2.2.2.1.length qb5, .slice pb6 B.2.1.2.2.2.2.2.2.1.length qb6, .slice pb7 B.2.1.2.2.2.2.2.2.2.1.length qb7, .slice pb8 B.2.1.2.2.2.2.2.2.2.2.length qb8, .slice pbs B.2.2.length qbs]
  have HKF : Hid (endResultC.own ((w5.setRow w.heap.size #[.int .i64 A.1, .int .i64 A.2.1.1.1, .slice pa1 A.2.1.1.2.1.length qa1, .int .i64 A.2.1.1.2.2.1, .slice pa2 A.2.1.1.2.2.2.length qa2, .int .i64 A.2.1.2.1, .int .i64 A.2.1.2.2.1, .slice pa3 A.2.1.2.2.2.1.length qa3, .slice pa4 A.2.1.2.2.2.2.1.length qa4, .slice pa5 A.2.1.2.2.2.2.2.1.length qa5, .slice pa6 A.2.1.2.2.2.2.2.2.1.length qa6, .slice pa7 A.2.1.2.2.2.2.2.2.2.1.length qa7, .slice pa8 A.2.1.2.2.2.2.2.2.2.2.length qa8, .slice (some ⟨ga0, oa0, none⟩) A.2.2.length qas]).setRow (w.heap.size + 1) #[.int .i64 B.1, .int .i64 B.2.1.1.1, .slice pb1 B.2.1.1.2.1.length qb1, .int .i64 B.2.1.1.2.2.1, .slice pb2 B.2.1.1.2.2.2.length qb2, .int .i64 B.2.1.2.1, .int .i64 B.2.1.2.2.1, .slice pb3 B.2.1.2.2.2.1.length qb3, .slice pb4 B.2.1.2.2.2.2.1.length qb4, .slice pb5 B.2.1.2.2.2.2.2.1.length qb5, .slice pb6 B.2.1.2.2.2.2.2.2.1.length qb6, .slice pb7 B.2.1.2.2.2.2.2.2.2.1.length qb7, .slice pb8 B.2.1.2.2.2.2.2.2.2.2.length qb8, .slice pbs B.2.2.length qbs]) w.heap.size (stE x) [.int .i64 A.1, .int .i64 A.2.1.1.1, .slice pa1 A.2.1.1.2.1.length qa1, .int .i64 A.2.1.1.2.2.1, .slice pa2 A.2.1.1.2.2.2.length qa2, .int .i64 A.2.1.2.1, .int .i64 A.2.1.2.2.1, .slice pa3 A.2.1.2.2.2.1.length qa3, .slice pa4 A.2.1.2.2.2.2.1.length qa4, .slice pa5 A.2.1.2.2.2.2.2.1.length qa5, .slice pa6 A.2.1.2.2.2.2.2.2.1.length qa6, .slice pa7 A.2.1.2.2.2.2.2.2.2.1.length qa7, .slice pa8 A.2.1.2.2.2.2.2.2.2.2.length qa8, .slice (some ⟨ga0, oa0, none⟩) A.2.2.length qas] fa ∧ endResultC.own ((w5.setRow w.heap.size #[.int .i64 A.1, .int .i64 A.2.1.1.1, .slice pa1 A.2.1.1.2.1.length qa1, .int .i64 A.2.1.1.2.2.1, .slice pa2 A.2.1.1.2.2.2.length qa2, .int .i64 A.2.1.2.1, .int .i64 A.2.1.2.2.1, .slice pa3 A.2.1.2.2.2.1.length qa3, .slice pa4 A.2.1.2.2.2.2.1.length qa4, .slice pa5 A.2.1.2.2.2.2.2.1.length qa5, .slice pa6 A.2.1.2.2.2.2.2.2.1.length qa6, .slice pa7 A.2.1.2.2.2.2.2.2.2.1.length qa7, .slice pa8 A.2.1.2.2.2.2.2.2.2.2.length qa8, .slice (some ⟨ga0, oa0, none⟩) A.2.2.length qas]).setRow (w.heap.size + 1) #[.int .i64 B.1, .int .i64 B.2.1.1.1, .slice pb1 B.2.1.1.2.1.length qb1, .int .i64 B.2.1.1.2.2.1, .slice pb2 B.2.1.1.2.2.2.length qb2, .int .i64 B.2.1.2.1, .int .i64 B.2.1.2.2.1, .slice pb3 B.2.1.2.2.2.1.length qb3, .slice pb4 B.2.1.2.2.2.2.1.length qb4, .slice pb5 B.2.1.2.2.2.2.2.1.length qb5, .slice pb6 B.2.1.2.2.2.2.2.2.1.length qb6, .slice pb7 B.2.1.2.2.2.2.2.2.2.1.length qb7, .slice pb8 B.2.1.2.2.2.2.2.2.2.2.length qb8, .slice pbs B.2.2.length qbs]) w.heap.size (hcE y (headM (stE x).2.2)) [.int .i64 B.1, .int .i64 B.2.1.1.1, .slice pb1 B.2.1.1.2.1.length qb1, .int .i64 B.2.1.1.2.2.1, .slice pb2 B.2.1.1.2.2.2.length qb2, .int .i64 B.2.1.2.1, .int .i64 B.2.1.2.2.1, .slice pb3 B.2.1.2.2.2.1.length qb3, .slice pb4 B.2.1.2.2.2.2.1.length qb4, .slice pb5 B.2.1.2.2.2.2.2.1.length qb5, .slice pb6 B.2.1.2.2.2.2.2.2.1.length qb6, .slice pb7 B.2.1.2.2.2.2.2.2.2.1.length qb7, .slice pb8 B.2.1.2.2.2.2.2.2.2.2.length qb8, .slice pbs B.2.2.length qbs] fb) := by
    show _ ∧ _
    rw [← HA.out, ← HM.out, ← HB.out]
    exact ⟨Ka, Kb⟩
  have HAP : Hid (∀ k, k ∈ fa → k ∉ fb) := fun k hk hk2 => by have h1 := HKl.out k hk; have h2 := HKb.out k hk2; omega
  have c0 := (RA.cell 0).trans (show _ = some _ from rfl)
  have c1 := (RA.cell 1).trans (show _ = some _ from rfl)
  have c2 := (RA.cell 2).trans (show _ = some _ from rfl)
  have c3 := (RA.cell 3).trans (show _ = some _ from rfl)
  have c4 := (RA.cell 4).trans (show _ = some _ from rfl)
  have c5 := (RA.cell 5).trans (show _ = some _ from rfl)
  have c6 := (RA.cell 6).trans (show _ = some _ from rfl)
  have c7 := (RA.cell 7).trans (show _ = some _ from rfl)
  have c8 := (RA.cell 8).trans (show _ = some _ from rfl)
  have c9 := (RA.cell 9).trans (show _ = some _ from rfl)
  have c10 := (RA.cell 10).trans (show _ = some _ from rfl)
  have c11 := (RA.cell 11).trans (show _ = some _ from rfl)
  have c12 := (RA.cell 12).trans (show _ = some _ from rfl)
  have c13 := (RA.cell 13).trans (show _ = some _ from rfl)
  have d0 := (RB.cell 0).trans (show _ = some _ from rfl)
  have d1 := (RB.cell 1).trans (show _ = some _ from rfl)
  have d2 := (RB.cell 2).trans (show _ = some _ from rfl)
  have d3 := (RB.cell 3).trans (show _ = some _ from rfl)
  have d4 := (RB.cell 4).trans (show _ = some _ from rfl)
  have d5 := (RB.cell 5).trans (show _ = some _ from rfl)
  have d6 := (RB.cell 6).trans (show _ = some _ from rfl)
  have d7 := (RB.cell 7).trans (show _ = some _ from rfl)
  have d8 := (RB.cell 8).trans (show _ = some _ from rfl)
  have d9 := (RB.cell 9).trans (show _ = some _ from rfl)
  have d10 := (RB.cell 10).trans (show _ = some _ from rfl)
  have d11 := (RB.cell 11).trans (show _ = some _ from rfl)
  have d12 := (RB.cell 12).trans (show _ = some _ from rfl)
  have d13 := (RB.cell 13).trans (show _ = some _ from rfl)
  clear Ka Kb hs3 hG RA RB
  go_wp2_with (first | refine wpList_store_row rfl 43 _ _ rfl w.heap.size #[.int .i64 A.1, .int .i64 A.2.1.1.1, .slice pa1 A.2.1.1.2.1.length qa1, .int .i64 A.2.1.1.2.2.1, .slice pa2 A.2.1.1.2.2.2.length qa2, .int .i64 A.2.1.2.1, .int .i64 A.2.1.2.2.1, .slice pa3 A.2.1.2.2.2.1.length qa3, .slice pa4 A.2.1.2.2.2.2.1.length qa4, .slice pa5 A.2.1.2.2.2.2.2.1.length qa5, .slice pa6 A.2.1.2.2.2.2.2.2.1.length qa6, .slice pa7 A.2.1.2.2.2.2.2.2.2.1.length qa7, .slice pa8 A.2.1.2.2.2.2.2.2.2.2.length qa8, .slice (some ⟨ga0, oa0, none⟩) A.2.2.length qas] rfl rfl 43 #[.int .i64 0, .int .i64 0, .slice none 0 0, .int .i64 0, .slice none 0 0, .int .i64 0, .int .i64 0, .slice none 0 0, .slice none 0 0, .slice none 0 0, .slice none 0 0, .slice none 0 0, .slice none 0 0, .slice none 0 0] R2 hres.out rfl (by simp [Value.oneCell']) ?_ | refine wpList_store_row rfl 43 _ _ rfl (w.heap.size + 1) #[.int .i64 B.1, .int .i64 B.2.1.1.1, .slice pb1 B.2.1.1.2.1.length qb1, .int .i64 B.2.1.1.2.2.1, .slice pb2 B.2.1.1.2.2.2.length qb2, .int .i64 B.2.1.2.1, .int .i64 B.2.1.2.2.1, .slice pb3 B.2.1.2.2.2.1.length qb3, .slice pb4 B.2.1.2.2.2.2.1.length qb4, .slice pb5 B.2.1.2.2.2.2.2.1.length qb5, .slice pb6 B.2.1.2.2.2.2.2.2.1.length qb6, .slice pb7 B.2.1.2.2.2.2.2.2.2.1.length qb7, .slice pb8 B.2.1.2.2.2.2.2.2.2.2.length qb8, .slice pbs B.2.2.length qbs] rfl rfl 43 #[.int .i64 0, .int .i64 0, .slice none 0 0, .int .i64 0, .slice none 0 0, .int .i64 0, .int .i64 0, .slice none 0 0, .slice none 0 0, .slice none 0 0, .slice none 0 0, .slice none 0 0, .slice none 0 0, .slice none 0 0] R3' hres.out rfl (by simp [Value.oneCell']) ?_)
  exact bodyPost_ret (v := .tuple #[.agg #[.int .i64 A.1, .int .i64 A.2.1.1.1, .slice pa1 A.2.1.1.2.1.length qa1, .int .i64 A.2.1.1.2.2.1, .slice pa2 A.2.1.1.2.2.2.length qa2, .int .i64 A.2.1.2.1, .int .i64 A.2.1.2.2.1, .slice pa3 A.2.1.2.2.2.1.length qa3, .slice pa4 A.2.1.2.2.2.2.1.length qa4, .slice pa5 A.2.1.2.2.2.2.2.1.length qa5, .slice pa6 A.2.1.2.2.2.2.2.2.1.length qa6, .slice pa7 A.2.1.2.2.2.2.2.2.2.1.length qa7, .slice pa8 A.2.1.2.2.2.2.2.2.2.2.length qa8, .slice (some ⟨ga0, oa0, none⟩) A.2.2.length qas], .agg #[.int .i64 B.1, .int .i64 B.2.1.1.1, .slice pb1 B.2.1.1.2.1.length qb1, .int .i64 B.2.1.1.2.2.1, .slice pb2 B.2.1.1.2.2.2.length qb2, .int .i64 B.2.1.2.1, .int .i64 B.2.1.2.2.1, .slice pb3 B.2.1.2.2.2.1.length qb3, .slice pb4 B.2.1.2.2.2.2.1.length qb4, .slice pb5 B.2.1.2.2.2.2.2.1.length qb5, .slice pb6 B.2.1.2.2.2.2.2.2.1.length qb6, .slice pb7 B.2.1.2.2.2.2.2.2.2.1.length qb7, .slice pb8 B.2.1.2.2.2.2.2.2.2.2.length qb8, .slice pbs B.2.2.length qbs]]) (by simp [results, Tryz.results47, go_sem, c0, c1, c2, c3, c4, c5, c6, c7, c8, c9, c10, c11, c12, c13, d0, d1, d2, d3, d4, d5, d6, d7, d8, d9, d10, d11, d12, d13]) rfl ⟨x, y, [.int .i64 A.1, .int .i64 A.2.1.1.1, .slice pa1 A.2.1.1.2.1.length qa1, .int .i64 A.2.1.1.2.2.1, .slice pa2 A.2.1.1.2.2.2.length qa2, .int .i64 A.2.1.2.1, .int .i64 A.2.1.2.2.1, .slice pa3 A.2.1.2.2.2.1.length qa3, .slice pa4 A.2.1.2.2.2.2.1.length qa4, .slice pa5 A.2.1.2.2.2.2.2.1.length qa5, .slice pa6 A.2.1.2.2.2.2.2.2.1.length qa6, .slice pa7 A.2.1.2.2.2.2.2.2.2.1.length qa7, .slice pa8 A.2.1.2.2.2.2.2.2.2.2.length qa8, .slice (some ⟨ga0, oa0, none⟩) A.2.2.length qas], [.int .i64 B.1, .int .i64 B.2.1.1.1, .slice pb1 B.2.1.1.2.1.length qb1, .int .i64 B.2.1.1.2.2.1, .slice pb2 B.2.1.1.2.2.2.length qb2, .int .i64 B.2.1.2.1, .int .i64 B.2.1.2.2.1, .slice pb3 B.2.1.2.2.2.1.length qb3, .slice pb4 B.2.1.2.2.2.2.1.length qb4, .slice pb5 B.2.1.2.2.2.2.2.1.length qb5, .slice pb6 B.2.1.2.2.2.2.2.2.1.length qb6, .slice pb7 B.2.1.2.2.2.2.2.2.2.1.length qb7, .slice pb8 B.2.1.2.2.2.2.2.2.2.2.length qb8, .slice pbs B.2.2.length qbs], fa, fb, rfl, HX.out, HY.out, HKF.out.1, HKF.out.2, HAP.out, hFb.1, hFb.2⟩
end Go.Proofs.YtiabacnmmojfjaaGreatDoor

