/- The draws of chapter 11: what HearFinish is asked at (written by tools/draw_st.py). -/
import Derived.Test.YtiabacnmmojfjaaGreatDoorDrawSw
import Derived.Test.YtiabacnmmojfjaaGreatDoorDrawSv
import Derived.Test.YtiabacnmmojfjaaGreatDoorJoint6
namespace Go.Proofs.YtiabacnmmojfjaaGreatDoor
open Go.ChangeShapes Go.WideShapes Go.ChangeAt Go.RowKit

set_option maxRecDepth 4000 in
set_option maxHeartbeats 4000000 in
theorem drawHF_c (p : Option Addr) (q : Nat) (cs : List UInt8) (w : World) (hr : Rd w p q cs) :
    Calls Tryz.prog 17 #[.slice p cs.length q] w fun e w' => ∃ (a : EndD) (m : MsgD) (us vs : List Value), e = .returned (.tuple #[.agg us.toArray, .agg vs.toArray]) ∧ endC.rep w' a us ∧ msgC.rep w' m vs ∧ Below w.heap.size w w' := by
  have R := (Arr.new w [.int .i64 0, .slice none 0 0, .int .i64 0, .slice none 0 0, .int .i64 0, .int .i64 0, .slice none 0 0, .slice none 0 0, .slice none 0 0, .slice none 0 0, .slice none 0 0, .slice none 0 0] 32).old _ (.cells #[.int .i64 0, .slice none 0 0] 46)
  have R1 := Arr.new (w.alloc (.cells #[.int .i64 0, .slice none 0 0, .int .i64 0, .slice none 0 0, .int .i64 0, .int .i64 0, .slice none 0 0, .slice none 0 0, .slice none 0 0, .slice none 0 0, .slice none 0 0, .slice none 0 0] 32)) [.int .i64 0, .slice none 0 0] 46
  rw [size_alloc] at R1
  have B0 := Below.mk (alloc_below w (.cells #[.int .i64 0, .slice none 0 0, .int .i64 0, .slice none 0 0, .int .i64 0, .int .i64 0, .slice none 0 0, .slice none 0 0, .slice none 0 0, .slice none 0 0, .slice none 0 0, .slice none 0 0] 32)) (.cells #[.int .i64 0, .slice none 0 0] 46)
  replace hr := hr.keep B0
  have hresM : Hid ((Tryz.prog.info? 46).map (·.size) = some 2) := by show _ = _; kernel_rfl
  have hresN : Hid ((Tryz.prog.info? 32).map (·.size) = some 12) := by show _ = _; kernel_rfl
  generalize hW : (w.alloc (.cells #[.int .i64 0, .slice none 0 0, .int .i64 0, .slice none 0 0, .int .i64 0, .int .i64 0, .slice none 0 0, .slice none 0 0, .slice none 0 0, .slice none 0 0, .slice none 0 0, .slice none 0 0] 32)).alloc (.cells #[.int .i64 0, .slice none 0 0] 46) = W at *
  have HW0 : Hid (W.heap.size = w.heap.size + 2) := by show _ = _; rw [← hW, size_alloc, size_alloc]
  go_enter Tryz.func17, Tryz.ntmps17
  go_wp2_with fail
  clear hW
  refine (l1Source_c p q cs W hr).mono ?_
  rintro e w0 ⟨rfl, hs0, BW, hz0⟩
  have z0 : Hid (W.heap.size < w0.heap.size) := hz0
  replace R := R.stay BW
  replace R1 := R1.stay BW
  clear hz0 hr
  go_wp2_with fail
  refine (l11Ends_c W.heap.size p q cs 0 w0 hs0 (by omega) (by omega)).mono ?_
  rintro e w1 ⟨x, y, us, vs, fa, fb, rfl, hfx, hfy, Ka, Kb, hap, hs1, hg1⟩
  have HFB : Hid (∀ k, k ∈ fb → k < w1.heap.size) := fun k hk => (endResultC.ins Kb k hk).2
  have HAP : Hid (∀ k, k ∈ fa → k ∉ fb) := hap
  clear hap
  obtain ⟨b1, b2, HB2, l1, l2⟩ := ends_two hfx hfy
  obtain ⟨B, HB⟩ : ∃ B, Hid (B = hcE y (headM (stE x).2.2)) := ⟨_, rfl⟩
  rw [← HB.out] at Kb HB2
  have hB2 : Hid (B.2.2 = [b1, b2]) := HB2
  clear HB2
  have HL1 : Hid (0 < b1.2.length ∧ b1.2.length ≤ 64) := l1
  have HL2 : Hid (0 < b2.2.length ∧ b2.2.length ≤ 64) := l2
  clear l1 l2
  have HBL : Hid (B.2.2.length = 2) := by show _ = _; rw [hB2.out]; rfl
  obtain ⟨A, HA⟩ : ∃ A, Hid (A = stE x) := ⟨_, rfl⟩
  rw [← HA.out] at Ka
  clear HA HB hfx hfy
  replace R := R.other hg1 (fun e => by have := HW0.out; simp at e; omega)
  replace R1 := R1.other hg1 (fun e => by have := HW0.out; simp at e; omega)
  replace BW := below_of_grown BW hg1
  have z1 : Hid (w0.heap.size ≤ w1.heap.size) := hg1.size
  obtain ⟨pa1, qa1, pa2, qa2, pa3, qa3, pa4, qa4, pa5, qa5, pa6, qa6, pa7, qa7, pa8, qa8, pas, qas, rfl, -, -, -, -, -, -, -, -, -⟩ := endResult_rep (endResultC.toRep Ka)
  obtain ⟨pb1, qb1, pb2, qb2, pb3, qb3, pb4, qb4, pb5, qb5, pb6, qb6, pb7, qb7, pb8, qb8, pbs, qbs, rfl, -, -, -, -, -, -, -, -, -⟩ := endResult_rep (endResultC.toRep Kb)
  have N5 := (Arr.new w1 [.int .i64 0, .int .i64 0, .slice none 0 0, .int .i64 0, .slice none 0 0, .int .i64 0, .int .i64 0, .slice none 0 0, .slice none 0 0, .slice none 0 0, .slice none 0 0, .slice none 0 0, .slice none 0 0, .slice none 0 0] 43).old _ (.cells #[.int .i64 0, .int .i64 0, .slice none 0 0, .int .i64 0, .slice none 0 0, .int .i64 0, .int .i64 0, .slice none 0 0, .slice none 0 0, .slice none 0 0, .slice none 0 0, .slice none 0 0, .slice none 0 0, .slice none 0 0] 43)
  have N6 := Arr.new (w1.alloc (.cells #[.int .i64 0, .int .i64 0, .slice none 0 0, .int .i64 0, .slice none 0 0, .int .i64 0, .int .i64 0, .slice none 0 0, .slice none 0 0, .slice none 0 0, .slice none 0 0, .slice none 0 0, .slice none 0 0, .slice none 0 0] 43)) [.int .i64 0, .int .i64 0, .slice none 0 0, .int .i64 0, .slice none 0 0, .int .i64 0, .int .i64 0, .slice none 0 0, .slice none 0 0, .slice none 0 0, .slice none 0 0, .slice none 0 0, .slice none 0 0, .slice none 0 0] 43
  rw [size_alloc] at N6
  have N6' := N6.rowOther (k := w1.heap.size) (by omega) #[.int .i64 A.1, .int .i64 A.2.1.1.1, .slice pa1 A.2.1.1.2.1.length qa1, .int .i64 A.2.1.1.2.2.1, .slice pa2 A.2.1.1.2.2.2.length qa2, .int .i64 A.2.1.2.1, .int .i64 A.2.1.2.2.1, .slice pa3 A.2.1.2.2.2.1.length qa3, .slice pa4 A.2.1.2.2.2.2.1.length qa4, .slice pa5 A.2.1.2.2.2.2.2.1.length qa5, .slice pa6 A.2.1.2.2.2.2.2.2.1.length qa6, .slice pa7 A.2.1.2.2.2.2.2.2.2.1.length qa7, .slice pa8 A.2.1.2.2.2.2.2.2.2.2.length qa8, .slice pas A.2.2.length qas]
  have Xa := (N5.row [.int .i64 A.1, .int .i64 A.2.1.1.1, .slice pa1 A.2.1.1.2.1.length qa1, .int .i64 A.2.1.1.2.2.1, .slice pa2 A.2.1.1.2.2.2.length qa2, .int .i64 A.2.1.2.1, .int .i64 A.2.1.2.2.1, .slice pa3 A.2.1.2.2.2.1.length qa3, .slice pa4 A.2.1.2.2.2.2.1.length qa4, .slice pa5 A.2.1.2.2.2.2.2.1.length qa5, .slice pa6 A.2.1.2.2.2.2.2.2.1.length qa6, .slice pa7 A.2.1.2.2.2.2.2.2.2.1.length qa7, .slice pa8 A.2.1.2.2.2.2.2.2.2.2.length qa8, .slice pas A.2.2.length qas]).rowOther (k := w1.heap.size + 1) (by omega) #[.int .i64 B.1, .int .i64 B.2.1.1.1, .slice pb1 B.2.1.1.2.1.length qb1, .int .i64 B.2.1.1.2.2.1, .slice pb2 B.2.1.1.2.2.2.length qb2, .int .i64 B.2.1.2.1, .int .i64 B.2.1.2.2.1, .slice pb3 B.2.1.2.2.2.1.length qb3, .slice pb4 B.2.1.2.2.2.2.1.length qb4, .slice pb5 B.2.1.2.2.2.2.2.1.length qb5, .slice pb6 B.2.1.2.2.2.2.2.2.1.length qb6, .slice pb7 B.2.1.2.2.2.2.2.2.2.1.length qb7, .slice pb8 B.2.1.2.2.2.2.2.2.2.2.length qb8, .slice pbs B.2.2.length qbs]
  have Xb := N6'.row [.int .i64 B.1, .int .i64 B.2.1.1.1, .slice pb1 B.2.1.1.2.1.length qb1, .int .i64 B.2.1.1.2.2.1, .slice pb2 B.2.1.1.2.2.2.length qb2, .int .i64 B.2.1.2.1, .int .i64 B.2.1.2.2.1, .slice pb3 B.2.1.2.2.2.1.length qb3, .slice pb4 B.2.1.2.2.2.2.1.length qb4, .slice pb5 B.2.1.2.2.2.2.2.1.length qb5, .slice pb6 B.2.1.2.2.2.2.2.2.1.length qb6, .slice pb7 B.2.1.2.2.2.2.2.2.2.1.length qb7, .slice pb8 B.2.1.2.2.2.2.2.2.2.2.length qb8, .slice pbs B.2.2.length qbs]
  have hb2 : Below w1.heap.size w1 ((((w1.alloc (.cells #[.int .i64 0, .int .i64 0, .slice none 0 0, .int .i64 0, .slice none 0 0, .int .i64 0, .int .i64 0, .slice none 0 0, .slice none 0 0, .slice none 0 0, .slice none 0 0, .slice none 0 0, .slice none 0 0, .slice none 0 0] 43)).alloc (.cells #[.int .i64 0, .int .i64 0, .slice none 0 0, .int .i64 0, .slice none 0 0, .int .i64 0, .int .i64 0, .slice none 0 0, .slice none 0 0, .slice none 0 0, .slice none 0 0, .slice none 0 0, .slice none 0 0, .slice none 0 0] 43)).setRow w1.heap.size #[.int .i64 A.1, .int .i64 A.2.1.1.1, .slice pa1 A.2.1.1.2.1.length qa1, .int .i64 A.2.1.1.2.2.1, .slice pa2 A.2.1.1.2.2.2.length qa2, .int .i64 A.2.1.2.1, .int .i64 A.2.1.2.2.1, .slice pa3 A.2.1.2.2.2.1.length qa3, .slice pa4 A.2.1.2.2.2.2.1.length qa4, .slice pa5 A.2.1.2.2.2.2.2.1.length qa5, .slice pa6 A.2.1.2.2.2.2.2.2.1.length qa6, .slice pa7 A.2.1.2.2.2.2.2.2.2.1.length qa7, .slice pa8 A.2.1.2.2.2.2.2.2.2.2.length qa8, .slice pas A.2.2.length qas]).setRow (w1.heap.size + 1) #[.int .i64 B.1, .int .i64 B.2.1.1.1, .slice pb1 B.2.1.1.2.1.length qb1, .int .i64 B.2.1.1.2.2.1, .slice pb2 B.2.1.1.2.2.2.length qb2, .int .i64 B.2.1.2.1, .int .i64 B.2.1.2.2.1, .slice pb3 B.2.1.2.2.2.1.length qb3, .slice pb4 B.2.1.2.2.2.2.1.length qb4, .slice pb5 B.2.1.2.2.2.2.2.1.length qb5, .slice pb6 B.2.1.2.2.2.2.2.2.1.length qb6, .slice pb7 B.2.1.2.2.2.2.2.2.2.1.length qb7, .slice pb8 B.2.1.2.2.2.2.2.2.2.2.length qb8, .slice pbs B.2.2.length qbs]) := Below.row (Below.row (Below.mk (alloc_below w1 _) _) (Nat.le_refl _) _) (by omega) _
  replace R := R.stay hb2
  replace R1 := R1.stay hb2
  replace Ka := endResultC.stay Ka hb2
  replace Kb := endResultC.stay Kb hb2
  have hs := hs1.keep hb2
  replace BW := Below.step BW hb2
  have hres : Hid ((Tryz.prog.info? 43).map (·.size) = some 14) := by show _ = _; kernel_rfl
  clear hb2 hs1 hg1 hs0 N6
  generalize e6 : ((((w1.alloc (.cells #[.int .i64 0, .int .i64 0, .slice none 0 0, .int .i64 0, .slice none 0 0, .int .i64 0, .int .i64 0, .slice none 0 0, .slice none 0 0, .slice none 0 0, .slice none 0 0, .slice none 0 0, .slice none 0 0, .slice none 0 0] 43)).alloc (.cells #[.int .i64 0, .int .i64 0, .slice none 0 0, .int .i64 0, .slice none 0 0, .int .i64 0, .int .i64 0, .slice none 0 0, .slice none 0 0, .slice none 0 0, .slice none 0 0, .slice none 0 0, .slice none 0 0, .slice none 0 0] 43)).setRow w1.heap.size #[.int .i64 A.1, .int .i64 A.2.1.1.1, .slice pa1 A.2.1.1.2.1.length qa1, .int .i64 A.2.1.1.2.2.1, .slice pa2 A.2.1.1.2.2.2.length qa2, .int .i64 A.2.1.2.1, .int .i64 A.2.1.2.2.1, .slice pa3 A.2.1.2.2.2.1.length qa3, .slice pa4 A.2.1.2.2.2.2.1.length qa4, .slice pa5 A.2.1.2.2.2.2.2.1.length qa5, .slice pa6 A.2.1.2.2.2.2.2.2.1.length qa6, .slice pa7 A.2.1.2.2.2.2.2.2.2.1.length qa7, .slice pa8 A.2.1.2.2.2.2.2.2.2.2.length qa8, .slice pas A.2.2.length qas]).setRow (w1.heap.size + 1) #[.int .i64 B.1, .int .i64 B.2.1.1.1, .slice pb1 B.2.1.1.2.1.length qb1, .int .i64 B.2.1.1.2.2.1, .slice pb2 B.2.1.1.2.2.2.length qb2, .int .i64 B.2.1.2.1, .int .i64 B.2.1.2.2.1, .slice pb3 B.2.1.2.2.2.1.length qb3, .slice pb4 B.2.1.2.2.2.2.1.length qb4, .slice pb5 B.2.1.2.2.2.2.2.1.length qb5, .slice pb6 B.2.1.2.2.2.2.2.2.1.length qb6, .slice pb7 B.2.1.2.2.2.2.2.2.2.1.length qb7, .slice pb8 B.2.1.2.2.2.2.2.2.2.2.length qb8, .slice pbs B.2.2.length qbs]) = V1 at *
  have xb0 := (Xb.cell 0).trans (show _ = some _ from rfl)
  have xb1 := (Xb.cell 1).trans (show _ = some _ from rfl)
  have xb2 := (Xb.cell 2).trans (show _ = some _ from rfl)
  have xb3 := (Xb.cell 3).trans (show _ = some _ from rfl)
  have xb4 := (Xb.cell 4).trans (show _ = some _ from rfl)
  have xb5 := (Xb.cell 5).trans (show _ = some _ from rfl)
  have xb6 := (Xb.cell 6).trans (show _ = some _ from rfl)
  have xb7 := (Xb.cell 7).trans (show _ = some _ from rfl)
  have xb8 := (Xb.cell 8).trans (show _ = some _ from rfl)
  have xb9 := (Xb.cell 9).trans (show _ = some _ from rfl)
  have xb10 := (Xb.cell 10).trans (show _ = some _ from rfl)
  have xb11 := (Xb.cell 11).trans (show _ = some _ from rfl)
  have xb12 := (Xb.cell 12).trans (show _ = some _ from rfl)
  have xb13 := (Xb.cell 13).trans (show _ = some _ from rfl)
  have xa0 := (Xa.cell 0).trans (show _ = some _ from rfl)
  have xa1 := (Xa.cell 1).trans (show _ = some _ from rfl)
  have xa2 := (Xa.cell 2).trans (show _ = some _ from rfl)
  have xa3 := (Xa.cell 3).trans (show _ = some _ from rfl)
  have xa4 := (Xa.cell 4).trans (show _ = some _ from rfl)
  have xa5 := (Xa.cell 5).trans (show _ = some _ from rfl)
  have xa6 := (Xa.cell 6).trans (show _ = some _ from rfl)
  have xa7 := (Xa.cell 7).trans (show _ = some _ from rfl)
  have xa8 := (Xa.cell 8).trans (show _ = some _ from rfl)
  have xa9 := (Xa.cell 9).trans (show _ = some _ from rfl)
  have xa10 := (Xa.cell 10).trans (show _ = some _ from rfl)
  have xa11 := (Xa.cell 11).trans (show _ = some _ from rfl)
  have xa12 := (Xa.cell 12).trans (show _ = some _ from rfl)
  have xa13 := (Xa.cell 13).trans (show _ = some _ from rfl)
  go_wp2_with (first | refine wpList_store_row rfl 43 _ _ rfl w1.heap.size #[.int .i64 A.1, .int .i64 A.2.1.1.1, .slice pa1 A.2.1.1.2.1.length qa1, .int .i64 A.2.1.1.2.2.1, .slice pa2 A.2.1.1.2.2.2.length qa2, .int .i64 A.2.1.2.1, .int .i64 A.2.1.2.2.1, .slice pa3 A.2.1.2.2.2.1.length qa3, .slice pa4 A.2.1.2.2.2.2.1.length qa4, .slice pa5 A.2.1.2.2.2.2.2.1.length qa5, .slice pa6 A.2.1.2.2.2.2.2.2.1.length qa6, .slice pa7 A.2.1.2.2.2.2.2.2.2.1.length qa7, .slice pa8 A.2.1.2.2.2.2.2.2.2.2.length qa8, .slice pas A.2.2.length qas] rfl rfl 43 #[.int .i64 0, .int .i64 0, .slice none 0 0, .int .i64 0, .slice none 0 0, .int .i64 0, .int .i64 0, .slice none 0 0, .slice none 0 0, .slice none 0 0, .slice none 0 0, .slice none 0 0, .slice none 0 0, .slice none 0 0] N5 hres.out rfl (by simp [Value.oneCell']) ?_ | (refine wpList_store_row rfl 43 _ _ rfl (w1.heap.size + 1) #[.int .i64 B.1, .int .i64 B.2.1.1.1, .slice pb1 B.2.1.1.2.1.length qb1, .int .i64 B.2.1.1.2.2.1, .slice pb2 B.2.1.1.2.2.2.length qb2, .int .i64 B.2.1.2.1, .int .i64 B.2.1.2.2.1, .slice pb3 B.2.1.2.2.2.1.length qb3, .slice pb4 B.2.1.2.2.2.2.1.length qb4, .slice pb5 B.2.1.2.2.2.2.2.1.length qb5, .slice pb6 B.2.1.2.2.2.2.2.2.1.length qb6, .slice pb7 B.2.1.2.2.2.2.2.2.2.1.length qb7, .slice pb8 B.2.1.2.2.2.2.2.2.2.2.length qb8, .slice pbs B.2.2.length qbs] rfl rfl 43 #[.int .i64 0, .int .i64 0, .slice none 0 0, .int .i64 0, .slice none 0 0, .int .i64 0, .int .i64 0, .slice none 0 0, .slice none 0 0, .slice none 0 0, .slice none 0 0, .slice none 0 0, .slice none 0 0, .slice none 0 0] N6' hres.out rfl (by simp [Value.oneCell']) ?_; rw [e6]))
  clear N5 N6' e6
  have HXB : Hid (w1.heap.size + 1 < V1.heap.size) := Xb.lt
  obtain ⟨fae, fad, KAe, -, -, -⟩ := endR_parts2 (us := [.int .i64 A.2.1.1.1, .slice pa1 A.2.1.1.2.1.length qa1, .int .i64 A.2.1.1.2.2.1, .slice pa2 A.2.1.1.2.2.2.length qa2, .int .i64 A.2.1.2.1, .int .i64 A.2.1.2.2.1, .slice pa3 A.2.1.2.2.2.1.length qa3, .slice pa4 A.2.1.2.2.2.2.1.length qa4, .slice pa5 A.2.1.2.2.2.2.2.1.length qa5, .slice pa6 A.2.1.2.2.2.2.2.2.1.length qa6, .slice pa7 A.2.1.2.2.2.2.2.2.2.1.length qa7, .slice pa8 A.2.1.2.2.2.2.2.2.2.2.length qa8]) Ka rfl
  obtain ⟨fbe, fbd, KBe, KBd, -, -⟩ := endR_parts2 (us := [.int .i64 B.2.1.1.1, .slice pb1 B.2.1.1.2.1.length qb1, .int .i64 B.2.1.1.2.2.1, .slice pb2 B.2.1.1.2.2.2.length qb2, .int .i64 B.2.1.2.1, .int .i64 B.2.1.2.2.1, .slice pb3 B.2.1.2.2.2.1.length qb3, .slice pb4 B.2.1.2.2.2.2.1.length qb4, .slice pb5 B.2.1.2.2.2.2.2.1.length qb5, .slice pb6 B.2.1.2.2.2.2.2.2.1.length qb6, .slice pb7 B.2.1.2.2.2.2.2.2.2.1.length qb7, .slice pb8 B.2.1.2.2.2.2.2.2.2.2.length qb8]) Kb rfl
  have KHv := specHv_k A.2.1 B.2.2 _ _ V1 (endC.toRep KAe) (msgsC.toRep KBd)
  obtain ⟨C, HC⟩ : ∃ C, Hid (C = hvE A.2.1 B.2.2) := ⟨_, rfl⟩
  rw [← HC.out] at KHv
  refine KHv.mono ?_
  rintro e w2 ⟨usc, fc, rfl, Kc, hb2⟩
  obtain ⟨pc1, qc1, pc2, qc2, pc3, qc3, pc4, qc4, pc5, qc5, pc6, qc6, pc7, qc7, pc8, qc8, pcs, qcs, rfl, -, -, -, -, -, -, -, -, -⟩ := endResult_rep (endResultC.toRep Kc)
  clear Ka Kb KAe KBd KHv Xa HL1 HL2 HBL hB2 HFB HAP xa0 xb0 xa1 xb1 xa2 xb2 xa3 xb3 xa4 xb4 xa5 xb5 xa6 xb6 xa7 xb7 xa8 xb8 xa9 xb9 xa10 xb10 xa11 xb11 xa12 xb12 xa13 xb13
  have HC1 : Hid (C.1 = 0 → C.2.2.length = 1) := fun h => by rw [HC.out]; exact hvE_send (by rw [← HC.out]; exact h)
  clear HC
  have hl := alloc_below w2 (.cells #[.int .i64 C.1, .int .i64 C.2.1.1.1, .slice pc1 C.2.1.1.2.1.length qc1, .int .i64 C.2.1.1.2.2.1, .slice pc2 C.2.1.1.2.2.2.length qc2, .int .i64 C.2.1.2.1, .int .i64 C.2.1.2.2.1, .slice pc3 C.2.1.2.2.2.1.length qc3, .slice pc4 C.2.1.2.2.2.2.1.length qc4, .slice pc5 C.2.1.2.2.2.2.2.1.length qc5, .slice pc6 C.2.1.2.2.2.2.2.2.1.length qc6, .slice pc7 C.2.1.2.2.2.2.2.2.2.1.length qc7, .slice pc8 C.2.1.2.2.2.2.2.2.2.2.length qc8, .slice pcs C.2.2.length qcs] 43)
  have Xc := Arr.new w2 [.int .i64 C.1, .int .i64 C.2.1.1.1, .slice pc1 C.2.1.1.2.1.length qc1, .int .i64 C.2.1.1.2.2.1, .slice pc2 C.2.1.1.2.2.2.length qc2, .int .i64 C.2.1.2.1, .int .i64 C.2.1.2.2.1, .slice pc3 C.2.1.2.2.2.1.length qc3, .slice pc4 C.2.1.2.2.2.2.1.length qc4, .slice pc5 C.2.1.2.2.2.2.2.1.length qc5, .slice pc6 C.2.1.2.2.2.2.2.2.1.length qc6, .slice pc7 C.2.1.2.2.2.2.2.2.2.1.length qc7, .slice pc8 C.2.1.2.2.2.2.2.2.2.2.length qc8, .slice pcs C.2.2.length qcs] 43
  have hb3 := Below.step hb2 hl
  replace R := R.stay hb3
  replace R1 := R1.stay hb3
  replace Xb := Xb.stay hb3
  replace KBe := endC.stay KBe hb3
  replace Kc := endResultC.low (endResultC.stay Kc hl) (show w0.heap.size ≤ V1.heap.size from Nat.le_trans z1.out (Nat.le_of_lt (Nat.lt_of_succ_lt HXB.out)))
  replace hs := hs.keep hb3
  replace BW := Below.step BW hb3
  have z2 : Hid (w1.heap.size ≤ w2.heap.size) := by have h1 := HXB.out; have h2 := hb2.size; show _ ≤ _; omega
  clear hb2 hl hb3
  go_wp2_with fail
  generalize w2.alloc (.cells #[.int .i64 C.1, .int .i64 C.2.1.1.1, .slice pc1 C.2.1.1.2.1.length qc1, .int .i64 C.2.1.1.2.2.1, .slice pc2 C.2.1.1.2.2.2.length qc2, .int .i64 C.2.1.2.1, .int .i64 C.2.1.2.2.1, .slice pc3 C.2.1.2.2.2.1.length qc3, .slice pc4 C.2.1.2.2.2.2.1.length qc4, .slice pc5 C.2.1.2.2.2.2.2.1.length qc5, .slice pc6 C.2.1.2.2.2.2.2.2.1.length qc6, .slice pc7 C.2.1.2.2.2.2.2.2.2.1.length qc7, .slice pc8 C.2.1.2.2.2.2.2.2.2.2.length qc8, .slice pcs C.2.2.length qcs] 43) = V2 at *
  refine (l6Bent_c W.heap.size p q cs (0 + 20) V2 hs (by omega) (by omega)).mono ?_
  rintro e w3 ⟨k3, u3, bs3, t3, rfl, -, -, -, kt1, kt2, o3, hs3, hg3⟩
  obtain ⟨pm, qm, rfl, -⟩ := o3.rd
  have hzV : Hid (w2.heap.size < V2.heap.size) := Xc.lt
  have o3L := o3.lower (show w0.heap.size ≤ V2.heap.size by have := hzV.out; have := z2.out; have := z1.out; omega)
  replace R := R.other hg3 (fun e => by have := HW0.out; simp at e; omega)
  replace R1 := R1.other hg3 (fun e => by have := HW0.out; simp at e; omega)
  replace Xb := Xb.other hg3 (fun e => by have := z0.out; have := z1.out; have := z2.out; simp at e; omega)
  replace Xc := Xc.other hg3 (fun e => by have := z0.out; have := z1.out; have := z2.out; simp at e; omega)
  replace KBe := endC.other KBe (Only.grown hg3) (fun k hk e => by have h1 := (endC.ins KBe k hk).1; have h2 := z0.out; simp at e; omega)
  replace Kc := endResultC.other Kc (Only.grown hg3) (fun k hk e => by have h1 := (endResultC.ins Kc k hk).1; have h2 := z0.out; simp at e; omega)
  replace BW := below_of_grown BW hg3
  have zm : Hid (W.heap.size < w3.heap.size) := hs3.lt
  have HBE : Hid (∀ k, k ∈ fbe → k < w3.heap.size) := fun k hk => (endC.ins KBe k hk).2
  have hzV3 : Hid (w1.heap.size + 1 < w3.heap.size) := Xb.lt
  have HCE : Hid (∀ k, k ∈ fc → k < w3.heap.size) := fun k hk => (endResultC.ins Kc k hk).2
  have hl3 := alloc_below w3 (.cells #[.int .i64 k3, .slice pm bs3.length qm] 46)
  have Mm := Arr.new w3 [.int .i64 k3, .slice pm bs3.length qm] 46
  replace R := R.stay hl3
  replace R1 := R1.stay hl3
  replace Xb := Xb.stay hl3
  replace Xc := Xc.stay hl3
  replace o3L := o3L.stay hl3
  replace KBe := endC.stay KBe hl3
  replace Kc := endResultC.stay Kc hl3
  replace hs := hs3.keep hl3
  replace BW := Below.step BW hl3
  clear hs3 hg3 o3 hl3
  have xc0 := (Xc.cell 0).trans (show _ = some _ from rfl)
  by_cases hC : C.1 = 0
  · have dC : (C.1 == 0) = true := by rw [beq_iff_eq]; exact hC
    have HCL : Hid (C.2.2.length = 1) := HC1.out hC
    clear hC HC1
    go_wp2_with fail
    generalize (w3.alloc (.cells #[.int .i64 k3, .slice pm bs3.length qm] 46)) = V3 at *
    refine (l1Chance_c W.heap.size p q cs t3 6 V3 hs (by omega) (by omega) (by omega) (by omega)).mono ?_
    rintro e w5 ⟨ch, rfl, hs5, hg5⟩
    replace R := R.other hg5 (fun e => by have := HW0.out; simp at e; omega)
    replace R1 := R1.other hg5 (fun e => by have := HW0.out; simp at e; omega)
    replace Xb := Xb.other hg5 (fun e => by have := z0.out; have := z1.out; have := z2.out; simp at e; omega)
    replace Xc := Xc.other hg5 (fun e => by have := z0.out; have := z1.out; have := z2.out; simp at e; omega)
    replace Mm := Mm.other hg5 (fun e => by have := zm.out; simp at e; omega)
    replace KBe := endC.other KBe (Only.grown hg5) (fun k hk e => by have h1 := (endC.ins KBe k hk).1; have h2 := z0.out; simp at e; omega)
    replace Kc := endResultC.other Kc (Only.grown hg5) (fun k hk e => by have h1 := (endResultC.ins Kc k hk).1; have h2 := z0.out; simp at e; omega)
    replace o3L := o3L.other hg5 (fun k hk e => by have h1 := o3L.ge k hk; have h2 := z0.out; simp at e; omega)
    replace BW := below_of_grown BW hg5
    replace hs := hs5
    clear hs5 hg5 xc0 dC
    cases ch
    · obtain ⟨fce, fcd, -, KCd, -, sC⟩ := endR_parts2 (us := [.int .i64 C.2.1.1.1, .slice pc1 C.2.1.1.2.1.length qc1, .int .i64 C.2.1.1.2.2.1, .slice pc2 C.2.1.1.2.2.2.length qc2, .int .i64 C.2.1.2.1, .int .i64 C.2.1.2.2.1, .slice pc3 C.2.1.2.2.2.1.length qc3, .slice pc4 C.2.1.2.2.2.2.1.length qc4, .slice pc5 C.2.1.2.2.2.2.2.1.length qc5, .slice pc6 C.2.1.2.2.2.2.2.2.1.length qc6, .slice pc7 C.2.1.2.2.2.2.2.2.2.1.length qc7, .slice pc8 C.2.1.2.2.2.2.2.2.2.2.length qc8]) Kc rfl
      obtain ⟨vd, xd, fd, ed, OD, efd⟩ := KCd
      cases ed
      obtain ⟨M, HMM⟩ : ∃ M, Hid (C.2.2 = [M]) := by
        obtain ⟨M, h⟩ := List.length_eq_one_iff.1 HCL.out
        exact ⟨M, h⟩
      have OD2 := OD
      generalize hvv : (Value.slice pcs C.2.2.length qcs) = vv at OD2
      rw [HMM.out] at OD2
      obtain ⟨g, qg, pn, qn, eg, hq1, hq2, hgB, m0, m1, om, hdg, -⟩ := body_at (P := []) (a := M) (D := []) OD2
      subst hvv
      rw [show ([] ++ M :: []) = C.2.2 from HMM.out.symm] at eg hq1
      replace m0 : w5.cell? ⟨g, 0, none⟩ = some (.int .i64 M.1) := m0
      replace m1 : w5.cell? ⟨g, 1, none⟩ = some (.slice pn M.2.length qn) := m1
      have HLn : Hid (C.2.2.length = C.2.2.length) := rfl
      cases eg
      have hln : (0 : Int) < (C.2.2.length : Int) := by have := HCL.out; omega
      have xc13 := (Xc.cell 13).trans (show _ = some _ from rfl)
      have HCM : Hid (∀ k, (Value.slice pn M.2.length qn).ownBlock = some k → k < w3.heap.size) := fun k hk => HCE.out k (sC k (by rw [efd]; exact List.mem_append_right _ (hdg k hk).2))
      clear sC efd
      have R' := R.rowOther (k := w3.heap.size) (by have := zm.out; have := HW0.out; omega) #[.int .i64 M.1, .slice pn M.2.length qn]
      have R1' := R1.rowOther (k := w3.heap.size) (by have := zm.out; have := HW0.out; omega) #[.int .i64 M.1, .slice pn M.2.length qn]
      have Xb' := Xb.rowOther (k := w3.heap.size) (by have := hzV3.out; omega) #[.int .i64 M.1, .slice pn M.2.length qn]
      have Mm' := Mm.row [.int .i64 M.1, .slice pn M.2.length qn]
      have KBe' := endC.fr (w' := w5.setRow w3.heap.size #[.int .i64 M.1, .slice pn M.2.length qn]) KBe (fun k hk => setRow_other _ _ _ _ (by have h1 := HBE.out k hk; omega))
      replace BW := Below.row BW (g := w3.heap.size) (by have := zm.out; omega) #[.int .i64 M.1, .slice pn M.2.length qn]
      replace hs := hs.other (grownBy_row w5 w3.heap.size #[.int .i64 M.1, .slice pn M.2.length qn]) (fun k hk => by simp at hk; have := zm.out; omega)
      have HM : Hid (∀ W', (∀ k, w0.heap.size ≤ k → k < (w5.setRow w3.heap.size #[.int .i64 M.1, .slice pn M.2.length qn]).heap.size → W'.heap[k]? = (w5.setRow w3.heap.size #[.int .i64 M.1, .slice pn M.2.length qn]).heap[k]?) → msgC.rep W' M [.int .i64 M.1, .slice pn M.2.length qn]) := fun W' hk => msg_mk (rd_from (Rd.own om) (fun y hy => by subst hy; rw [hk _ (om.ge y.block rfl) (by rw [size_setRow]; exact om.lt y.block rfl)]; exact setRow_other _ _ _ _ (by have h1 := HCM.out y.block rfl; omega)))
      generalize e6 : w5.setRow w3.heap.size #[.int .i64 M.1, .slice pn M.2.length qn] = w6 at *
      go_wp2_with (refine wpList_store_row rfl 46 _ _ rfl w3.heap.size #[.int .i64 M.1, .slice pn M.2.length qn] rfl rfl 46 #[.int .i64 k3, .slice pm bs3.length qm] Mm hresM.out rfl (by simp [Value.oneCell']) ?_)
      rw [e6]
      go_simp
      clear R R1 Xb Mm KBe
      have R := R'
      have R1 := R1'
      have Xb := Xb'
      have Mm := Mm'
      have KBe := KBe'
      clear R' R1' Xb' Mm' KBe' e6 om OD OD2 m0 m1 hln xc13 Xc Kc o3L hq1 hq2 hgB hdg
      have hn1 : w3.heap.size ≠ w.heap.size := by have := zm.out; have := HW0.out; omega
      have hnm : w3.heap.size ∉ [W.heap.size, w.heap.size] := by have := zm.out; simp; omega
      have hnb : w1.heap.size + 1 ∉ [W.heap.size, w.heap.size] := by have := z0.out; have := z1.out; have := HW0.out; simp; omega
      have m0 := GenS.only_cell (fp := [W.heap.size, w.heap.size]) ((Mm.cell 0).trans (show _ = some _ from rfl)) hnm
      have m1 := GenS.only_cell (fp := [W.heap.size, w.heap.size]) ((Mm.cell 1).trans (show _ = some _ from rfl)) hnm
      have xb1 := GenS.only_cell (fp := [W.heap.size, w.heap.size]) ((Xb.cell 1).trans (show _ = some _ from rfl)) hnb
      have xb2 := GenS.only_cell (fp := [W.heap.size, w.heap.size]) ((Xb.cell 2).trans (show _ = some _ from rfl)) hnb
      have xb3 := GenS.only_cell (fp := [W.heap.size, w.heap.size]) ((Xb.cell 3).trans (show _ = some _ from rfl)) hnb
      have xb4 := GenS.only_cell (fp := [W.heap.size, w.heap.size]) ((Xb.cell 4).trans (show _ = some _ from rfl)) hnb
      have xb5 := GenS.only_cell (fp := [W.heap.size, w.heap.size]) ((Xb.cell 5).trans (show _ = some _ from rfl)) hnb
      have xb6 := GenS.only_cell (fp := [W.heap.size, w.heap.size]) ((Xb.cell 6).trans (show _ = some _ from rfl)) hnb
      have xb7 := GenS.only_cell (fp := [W.heap.size, w.heap.size]) ((Xb.cell 7).trans (show _ = some _ from rfl)) hnb
      have xb8 := GenS.only_cell (fp := [W.heap.size, w.heap.size]) ((Xb.cell 8).trans (show _ = some _ from rfl)) hnb
      have xb9 := GenS.only_cell (fp := [W.heap.size, w.heap.size]) ((Xb.cell 9).trans (show _ = some _ from rfl)) hnb
      have xb10 := GenS.only_cell (fp := [W.heap.size, w.heap.size]) ((Xb.cell 10).trans (show _ = some _ from rfl)) hnb
      have xb11 := GenS.only_cell (fp := [W.heap.size, w.heap.size]) ((Xb.cell 11).trans (show _ = some _ from rfl)) hnb
      have xb12 := GenS.only_cell (fp := [W.heap.size, w.heap.size]) ((Xb.cell 12).trans (show _ = some _ from rfl)) hnb
      have hne := GenS.only_some [W.heap.size, w.heap.size] w6
      clear hnm hnb
      go_wp2_with fail
      refine GenS.wp_region_pick (GenS.only_pre [W.heap.size, w.heap.size]) [0, 1, 2, 4] 6 2 1 rfl rfl rfl (by kernel_rfl) (by kernel_rfl) (by kernel_rfl) (by kernel_rfl) ?_
      simp only [opsAt, List.getElem?_toArray, List.getElem?_cons_zero, List.getElem?_cons_succ]
      repeat (go_big_quiet_step (fail))
      refine wpQuiet_nil ?_
      clear m0 m1 hne xb1 xb2 xb3 xb4 xb5 xb6 xb7 xb8 xb9 xb10 xb11 xb12
      refine GenS.wpM_only (i := 3) (by kernel_rfl) ?_
      refine GenS.mOp_call rfl (by go_simp) 49 _ #[.pointer (some ⟨W.heap.size, 0, none⟩), .agg #[.int .i64 B.2.1.1.1, .slice pb1 B.2.1.1.2.1.length qb1, .int .i64 B.2.1.1.2.2.1, .slice pb2 B.2.1.1.2.2.2.length qb2, .int .i64 B.2.1.2.1, .int .i64 B.2.1.2.2.1, .slice pb3 B.2.1.2.2.2.1.length qb3, .slice pb4 B.2.1.2.2.2.2.1.length qb4, .slice pb5 B.2.1.2.2.2.2.2.1.length qb5, .slice pb6 B.2.1.2.2.2.2.2.2.1.length qb6, .slice pb7 B.2.1.2.2.2.2.2.2.2.1.length qb7, .slice pb8 B.2.1.2.2.2.2.2.2.2.2.length qb8]] (fun w => by go_simp) rfl ?_
      rintro _ ⟨n1, rfl⟩
      refine (l11Turned_c W.heap.size p q cs (t3 + 1) _ (hs.drewN n1) (by omega) (by omega) B.2.1 _ _ w0.heap.size z0.out (show w0.heap.size ≤ w6.heap.size from Nat.le_trans z1.out (Nat.le_of_lt (Nat.lt_of_succ_lt Xb.lt))) (endC.fr (w' := w6.drewN n1) KBe (fun _ _ => rfl))).mono ?_
      rintro e w9 ⟨e9, us9, t9, rfl, hrep9, k1, k2, hs9, hg9⟩
      refine ⟨_, rfl, ⟨⟨w9, Only.more (Only.grown hg9) (fun k hk => by simp at hk; simp [hk])⟩, rfl⟩, ?_⟩
      obtain ⟨pe1, qe1, pe2, qe2, pe3, qe3, pe4, qe4, pe5, qe5, pe6, qe6, pe7, qe7, pe8, qe8, rfl, -, -, -, -, -, -, -, -⟩ := end_rep (hrep9 w9 (fun _ _ => rfl))
      have hgw : w6.grownBy w9 (some W.heap.size) := grownBy_trans (grownBy_drewN w6 n1 _) hg9
      replace R := R.other hgw (fun e => by have := HW0.out; simp at e; omega)
      replace R1 := R1.other hgw (fun e => by have := HW0.out; simp at e; omega)
      replace BW := below_of_grown BW hgw
      have HM9 : Hid (∀ W', (∀ k, w0.heap.size ≤ k → W'.heap[k]? = w9.heap[k]?) → msgC.rep W' M [.int .i64 M.1, .slice pn M.2.length qn]) := fun W' hk => HM.out W' (fun k h1 h2 => (hk k h1).trans (hgw.block k h2 (fun e => by have h4 := z0.out; simp at e; omega)))
      have HR9 : Hid (∀ W' : World, (∀ k, w0.heap.size ≤ k → W'.heap[k]? = w9.heap[k]?) → endC.rep W' e9 [.int .i64 e9.1.1, .slice pe1 e9.1.2.1.length qe1, .int .i64 e9.1.2.2.1, .slice pe2 e9.1.2.2.2.length qe2, .int .i64 e9.2.1, .int .i64 e9.2.2.1, .slice pe3 e9.2.2.2.1.length qe3, .slice pe4 e9.2.2.2.2.1.length qe4, .slice pe5 e9.2.2.2.2.2.1.length qe5, .slice pe6 e9.2.2.2.2.2.2.1.length qe6, .slice pe7 e9.2.2.2.2.2.2.2.1.length qe7, .slice pe8 e9.2.2.2.2.2.2.2.2.length qe8]) := hrep9
      clear hgw hg9 hs hs9 HM hrep9 KBe Xb Mm
      refine GenS.wpM_only (i := 5) (by kernel_rfl) ?_
      refine GenS.mOp_store rfl (by go_simp) 32 _ _ rfl w.heap.size #[.int .i64 e9.1.1, .slice pe1 e9.1.2.1.length qe1, .int .i64 e9.1.2.2.1, .slice pe2 e9.1.2.2.2.length qe2, .int .i64 e9.2.1, .int .i64 e9.2.2.1, .slice pe3 e9.2.2.2.1.length qe3, .slice pe4 e9.2.2.2.2.1.length qe4, .slice pe5 e9.2.2.2.2.2.1.length qe5, .slice pe6 e9.2.2.2.2.2.2.1.length qe6, .slice pe7 e9.2.2.2.2.2.2.2.1.length qe7, .slice pe8 e9.2.2.2.2.2.2.2.2.length qe8] rfl rfl 32 #[.int .i64 0, .slice none 0 0, .int .i64 0, .slice none 0 0, .int .i64 0, .int .i64 0, .slice none 0 0, .slice none 0 0, .slice none 0 0, .slice none 0 0, .slice none 0 0, .slice none 0 0] (fun n => R) hresN.out rfl (by simp [Value.oneCell']) (fun n => Only.more (Only.grown (grownBy_row _ _ _)) (fun k hk => by simp at hk; simp [hk])) ?_
      intro n2
      refine GenS.wpM_end (by kernel_rfl) rfl (by kernel_rfl) (by decide) ?_
      rintro _ ⟨n3, rfl⟩
      simp only [List.drop_succ_cons, List.drop_zero]
      have RA : Arr (((w9.drewN n2).setRow w.heap.size #[.int .i64 e9.1.1, .slice pe1 e9.1.2.1.length qe1, .int .i64 e9.1.2.2.1, .slice pe2 e9.1.2.2.2.length qe2, .int .i64 e9.2.1, .int .i64 e9.2.2.1, .slice pe3 e9.2.2.2.1.length qe3, .slice pe4 e9.2.2.2.2.1.length qe4, .slice pe5 e9.2.2.2.2.2.1.length qe5, .slice pe6 e9.2.2.2.2.2.2.1.length qe6, .slice pe7 e9.2.2.2.2.2.2.2.1.length qe7, .slice pe8 e9.2.2.2.2.2.2.2.2.length qe8]).drewN n3) w.heap.size 32 [.int .i64 e9.1.1, .slice pe1 e9.1.2.1.length qe1, .int .i64 e9.1.2.2.1, .slice pe2 e9.1.2.2.2.length qe2, .int .i64 e9.2.1, .int .i64 e9.2.2.1, .slice pe3 e9.2.2.2.1.length qe3, .slice pe4 e9.2.2.2.2.1.length qe4, .slice pe5 e9.2.2.2.2.2.1.length qe5, .slice pe6 e9.2.2.2.2.2.2.1.length qe6, .slice pe7 e9.2.2.2.2.2.2.2.1.length qe7, .slice pe8 e9.2.2.2.2.2.2.2.2.length qe8] := Arr.row (w := w9.drewN n2) R [.int .i64 e9.1.1, .slice pe1 e9.1.2.1.length qe1, .int .i64 e9.1.2.2.1, .slice pe2 e9.1.2.2.2.length qe2, .int .i64 e9.2.1, .int .i64 e9.2.2.1, .slice pe3 e9.2.2.2.1.length qe3, .slice pe4 e9.2.2.2.2.1.length qe4, .slice pe5 e9.2.2.2.2.2.1.length qe5, .slice pe6 e9.2.2.2.2.2.2.1.length qe6, .slice pe7 e9.2.2.2.2.2.2.2.1.length qe7, .slice pe8 e9.2.2.2.2.2.2.2.2.length qe8]
      have R1z : Arr (((w9.drewN n2).setRow w.heap.size #[.int .i64 e9.1.1, .slice pe1 e9.1.2.1.length qe1, .int .i64 e9.1.2.2.1, .slice pe2 e9.1.2.2.2.length qe2, .int .i64 e9.2.1, .int .i64 e9.2.2.1, .slice pe3 e9.2.2.2.1.length qe3, .slice pe4 e9.2.2.2.2.1.length qe4, .slice pe5 e9.2.2.2.2.2.1.length qe5, .slice pe6 e9.2.2.2.2.2.2.1.length qe6, .slice pe7 e9.2.2.2.2.2.2.2.1.length qe7, .slice pe8 e9.2.2.2.2.2.2.2.2.length qe8]).drewN n3) (w.heap.size + 1) 46 [.int .i64 0, .slice none 0 0] := Arr.rowOther (w := w9.drewN n2) (k := w.heap.size) R1 (by omega) #[.int .i64 e9.1.1, .slice pe1 e9.1.2.1.length qe1, .int .i64 e9.1.2.2.1, .slice pe2 e9.1.2.2.2.length qe2, .int .i64 e9.2.1, .int .i64 e9.2.2.1, .slice pe3 e9.2.2.2.1.length qe3, .slice pe4 e9.2.2.2.2.1.length qe4, .slice pe5 e9.2.2.2.2.2.1.length qe5, .slice pe6 e9.2.2.2.2.2.2.1.length qe6, .slice pe7 e9.2.2.2.2.2.2.2.1.length qe7, .slice pe8 e9.2.2.2.2.2.2.2.2.length qe8]
      have SAME : Hid (∀ k, w0.heap.size ≤ k → (((w9.drewN n2).setRow w.heap.size #[.int .i64 e9.1.1, .slice pe1 e9.1.2.1.length qe1, .int .i64 e9.1.2.2.1, .slice pe2 e9.1.2.2.2.length qe2, .int .i64 e9.2.1, .int .i64 e9.2.2.1, .slice pe3 e9.2.2.2.1.length qe3, .slice pe4 e9.2.2.2.2.1.length qe4, .slice pe5 e9.2.2.2.2.2.1.length qe5, .slice pe6 e9.2.2.2.2.2.2.1.length qe6, .slice pe7 e9.2.2.2.2.2.2.2.1.length qe7, .slice pe8 e9.2.2.2.2.2.2.2.2.length qe8]).drewN n3).heap[k]? = w9.heap[k]?) := fun k hk => setRow_other (w9.drewN n2) w.heap.size k #[.int .i64 e9.1.1, .slice pe1 e9.1.2.1.length qe1, .int .i64 e9.1.2.2.1, .slice pe2 e9.1.2.2.2.length qe2, .int .i64 e9.2.1, .int .i64 e9.2.2.1, .slice pe3 e9.2.2.2.1.length qe3, .slice pe4 e9.2.2.2.2.1.length qe4, .slice pe5 e9.2.2.2.2.2.1.length qe5, .slice pe6 e9.2.2.2.2.2.2.1.length qe6, .slice pe7 e9.2.2.2.2.2.2.2.1.length qe7, .slice pe8 e9.2.2.2.2.2.2.2.2.length qe8] (by have h3 := HW0.out; have h4 := z0.out; omega)
      have BEL : Below w.heap.size w (((w9.drewN n2).setRow w.heap.size #[.int .i64 e9.1.1, .slice pe1 e9.1.2.1.length qe1, .int .i64 e9.1.2.2.1, .slice pe2 e9.1.2.2.2.length qe2, .int .i64 e9.2.1, .int .i64 e9.2.2.1, .slice pe3 e9.2.2.2.1.length qe3, .slice pe4 e9.2.2.2.2.1.length qe4, .slice pe5 e9.2.2.2.2.2.1.length qe5, .slice pe6 e9.2.2.2.2.2.2.1.length qe6, .slice pe7 e9.2.2.2.2.2.2.2.1.length qe7, .slice pe8 e9.2.2.2.2.2.2.2.2.length qe8]).drewN n3) := (Below.row ((B0.trans (BW.mono (by have := HW0.out; omega))).trans (show Below w.heap.size w9 (w9.drewN n2) from ⟨rfl, rfl, rfl, Nat.le_refl _, fun _ _ => rfl⟩)) (Nat.le_refl _) #[.int .i64 e9.1.1, .slice pe1 e9.1.2.1.length qe1, .int .i64 e9.1.2.2.1, .slice pe2 e9.1.2.2.2.length qe2, .int .i64 e9.2.1, .int .i64 e9.2.2.1, .slice pe3 e9.2.2.2.1.length qe3, .slice pe4 e9.2.2.2.2.1.length qe4, .slice pe5 e9.2.2.2.2.2.1.length qe5, .slice pe6 e9.2.2.2.2.2.2.1.length qe6, .slice pe7 e9.2.2.2.2.2.2.2.1.length qe7, .slice pe8 e9.2.2.2.2.2.2.2.2.length qe8]).trans ⟨rfl, rfl, rfl, Nat.le_refl _, fun _ _ => rfl⟩
      clear R R1 BW
      generalize ((w9.drewN n2).setRow w.heap.size #[.int .i64 e9.1.1, .slice pe1 e9.1.2.1.length qe1, .int .i64 e9.1.2.2.1, .slice pe2 e9.1.2.2.2.length qe2, .int .i64 e9.2.1, .int .i64 e9.2.2.1, .slice pe3 e9.2.2.2.1.length qe3, .slice pe4 e9.2.2.2.2.1.length qe4, .slice pe5 e9.2.2.2.2.2.1.length qe5, .slice pe6 e9.2.2.2.2.2.2.1.length qe6, .slice pe7 e9.2.2.2.2.2.2.2.1.length qe7, .slice pe8 e9.2.2.2.2.2.2.2.2.length qe8]).drewN n3 = w10 at *
      have NA := RA.rowOther (k := w.heap.size + 1) (by omega) #[.int .i64 M.1, .slice pn M.2.length qn]
      have NB := R1z.row [.int .i64 M.1, .slice pn M.2.length qn]
      have c0 := (NA.cell 0).trans (show _ = some _ from rfl)
      have c1 := (NA.cell 1).trans (show _ = some _ from rfl)
      have c2 := (NA.cell 2).trans (show _ = some _ from rfl)
      have c3 := (NA.cell 3).trans (show _ = some _ from rfl)
      have c4 := (NA.cell 4).trans (show _ = some _ from rfl)
      have c5 := (NA.cell 5).trans (show _ = some _ from rfl)
      have c6 := (NA.cell 6).trans (show _ = some _ from rfl)
      have c7 := (NA.cell 7).trans (show _ = some _ from rfl)
      have c8 := (NA.cell 8).trans (show _ = some _ from rfl)
      have c9 := (NA.cell 9).trans (show _ = some _ from rfl)
      have c10 := (NA.cell 10).trans (show _ = some _ from rfl)
      have c11 := (NA.cell 11).trans (show _ = some _ from rfl)
      have d0 := (NB.cell 0).trans (show _ = some _ from rfl)
      have d1 := (NB.cell 1).trans (show _ = some _ from rfl)
      have HSM : Hid (∀ k, w0.heap.size ≤ k → (w10.setRow (w.heap.size + 1) #[.int .i64 M.1, .slice pn M.2.length qn]).heap[k]? = w9.heap[k]?) := fun k hk => (setRow_other _ _ _ _ (by have h3 := HW0.out; have h4 := z0.out; omega)).trans (SAME.out k hk)
      have HBE2 : Hid (Below w.heap.size w (w10.setRow (w.heap.size + 1) #[.int .i64 M.1, .slice pn M.2.length qn])) := Below.row BEL (Nat.le_succ _) _
      clear NA NB RA BEL
      go_wp2_with (refine wpList_store_row rfl 46 _ _ rfl (w.heap.size + 1) #[.int .i64 M.1, .slice pn M.2.length qn] rfl rfl 46 #[.int .i64 0, .slice none 0 0] R1z hresM.out rfl (by simp [Value.oneCell']) ?_)
      exact bodyPost_ret (v := .tuple #[.agg #[.int .i64 e9.1.1, .slice pe1 e9.1.2.1.length qe1, .int .i64 e9.1.2.2.1, .slice pe2 e9.1.2.2.2.length qe2, .int .i64 e9.2.1, .int .i64 e9.2.2.1, .slice pe3 e9.2.2.2.1.length qe3, .slice pe4 e9.2.2.2.2.1.length qe4, .slice pe5 e9.2.2.2.2.2.1.length qe5, .slice pe6 e9.2.2.2.2.2.2.1.length qe6, .slice pe7 e9.2.2.2.2.2.2.2.1.length qe7, .slice pe8 e9.2.2.2.2.2.2.2.2.length qe8], .agg #[.int .i64 M.1, .slice pn M.2.length qn]]) (by simp [results, Tryz.results17, go_sem, c0, c1, c2, c3, c4, c5, c6, c7, c8, c9, c10, c11, d0, d1]) rfl ⟨e9, M, [.int .i64 e9.1.1, .slice pe1 e9.1.2.1.length qe1, .int .i64 e9.1.2.2.1, .slice pe2 e9.1.2.2.2.length qe2, .int .i64 e9.2.1, .int .i64 e9.2.2.1, .slice pe3 e9.2.2.2.1.length qe3, .slice pe4 e9.2.2.2.2.1.length qe4, .slice pe5 e9.2.2.2.2.2.1.length qe5, .slice pe6 e9.2.2.2.2.2.2.1.length qe6, .slice pe7 e9.2.2.2.2.2.2.2.1.length qe7, .slice pe8 e9.2.2.2.2.2.2.2.2.length qe8], [.int .i64 M.1, .slice pn M.2.length qn], rfl, HR9.out _ HSM.out, HM9.out _ HSM.out, HBE2.out⟩
    · clear Xc Kc
      have HM : Hid (∀ W', (∀ k, w0.heap.size ≤ k → k < w5.heap.size → W'.heap[k]? = w5.heap[k]?) → msgC.rep W' (k3, bs3) [.int .i64 k3, .slice pm bs3.length qm]) := fun W' hk => msg_mkN (a := (k3, bs3)) (rd_from (Rd.own o3L) (fun y hy => by subst hy; exact hk _ (o3L.ge y.block rfl) (o3L.lt y.block rfl))) rfl
      clear o3L
      have hn1 : w3.heap.size ≠ w.heap.size := by have := zm.out; have := HW0.out; omega
      have hnm : w3.heap.size ∉ [W.heap.size, w.heap.size] := by have := zm.out; simp; omega
      have hnb : w1.heap.size + 1 ∉ [W.heap.size, w.heap.size] := by have := z0.out; have := z1.out; have := HW0.out; simp; omega
      have m0 := GenS.only_cell (fp := [W.heap.size, w.heap.size]) ((Mm.cell 0).trans (show _ = some _ from rfl)) hnm
      have m1 := GenS.only_cell (fp := [W.heap.size, w.heap.size]) ((Mm.cell 1).trans (show _ = some _ from rfl)) hnm
      have xb1 := GenS.only_cell (fp := [W.heap.size, w.heap.size]) ((Xb.cell 1).trans (show _ = some _ from rfl)) hnb
      have xb2 := GenS.only_cell (fp := [W.heap.size, w.heap.size]) ((Xb.cell 2).trans (show _ = some _ from rfl)) hnb
      have xb3 := GenS.only_cell (fp := [W.heap.size, w.heap.size]) ((Xb.cell 3).trans (show _ = some _ from rfl)) hnb
      have xb4 := GenS.only_cell (fp := [W.heap.size, w.heap.size]) ((Xb.cell 4).trans (show _ = some _ from rfl)) hnb
      have xb5 := GenS.only_cell (fp := [W.heap.size, w.heap.size]) ((Xb.cell 5).trans (show _ = some _ from rfl)) hnb
      have xb6 := GenS.only_cell (fp := [W.heap.size, w.heap.size]) ((Xb.cell 6).trans (show _ = some _ from rfl)) hnb
      have xb7 := GenS.only_cell (fp := [W.heap.size, w.heap.size]) ((Xb.cell 7).trans (show _ = some _ from rfl)) hnb
      have xb8 := GenS.only_cell (fp := [W.heap.size, w.heap.size]) ((Xb.cell 8).trans (show _ = some _ from rfl)) hnb
      have xb9 := GenS.only_cell (fp := [W.heap.size, w.heap.size]) ((Xb.cell 9).trans (show _ = some _ from rfl)) hnb
      have xb10 := GenS.only_cell (fp := [W.heap.size, w.heap.size]) ((Xb.cell 10).trans (show _ = some _ from rfl)) hnb
      have xb11 := GenS.only_cell (fp := [W.heap.size, w.heap.size]) ((Xb.cell 11).trans (show _ = some _ from rfl)) hnb
      have xb12 := GenS.only_cell (fp := [W.heap.size, w.heap.size]) ((Xb.cell 12).trans (show _ = some _ from rfl)) hnb
      have hne := GenS.only_some [W.heap.size, w.heap.size] w5
      clear hnm hnb
      go_wp2_with fail
      refine GenS.wp_region_pick (GenS.only_pre [W.heap.size, w.heap.size]) [0, 1, 2, 4] 6 2 1 rfl rfl rfl (by kernel_rfl) (by kernel_rfl) (by kernel_rfl) (by kernel_rfl) ?_
      simp only [opsAt, List.getElem?_toArray, List.getElem?_cons_zero, List.getElem?_cons_succ]
      repeat (go_big_quiet_step (fail))
      refine wpQuiet_nil ?_
      clear m0 m1 hne xb1 xb2 xb3 xb4 xb5 xb6 xb7 xb8 xb9 xb10 xb11 xb12
      refine GenS.wpM_only (i := 3) (by kernel_rfl) ?_
      refine GenS.mOp_call rfl (by go_simp) 49 _ #[.pointer (some ⟨W.heap.size, 0, none⟩), .agg #[.int .i64 B.2.1.1.1, .slice pb1 B.2.1.1.2.1.length qb1, .int .i64 B.2.1.1.2.2.1, .slice pb2 B.2.1.1.2.2.2.length qb2, .int .i64 B.2.1.2.1, .int .i64 B.2.1.2.2.1, .slice pb3 B.2.1.2.2.2.1.length qb3, .slice pb4 B.2.1.2.2.2.2.1.length qb4, .slice pb5 B.2.1.2.2.2.2.2.1.length qb5, .slice pb6 B.2.1.2.2.2.2.2.2.1.length qb6, .slice pb7 B.2.1.2.2.2.2.2.2.2.1.length qb7, .slice pb8 B.2.1.2.2.2.2.2.2.2.2.length qb8]] (fun w => by go_simp) rfl ?_
      rintro _ ⟨n1, rfl⟩
      refine (l11Turned_c W.heap.size p q cs (t3 + 1) _ (hs.drewN n1) (by omega) (by omega) B.2.1 _ _ w0.heap.size z0.out (show w0.heap.size ≤ w5.heap.size from Nat.le_trans z1.out (Nat.le_of_lt (Nat.lt_of_succ_lt Xb.lt))) (endC.fr (w' := w5.drewN n1) KBe (fun _ _ => rfl))).mono ?_
      rintro e w9 ⟨e9, us9, t9, rfl, hrep9, k1, k2, hs9, hg9⟩
      refine ⟨_, rfl, ⟨⟨w9, Only.more (Only.grown hg9) (fun k hk => by simp at hk; simp [hk])⟩, rfl⟩, ?_⟩
      obtain ⟨pe1, qe1, pe2, qe2, pe3, qe3, pe4, qe4, pe5, qe5, pe6, qe6, pe7, qe7, pe8, qe8, rfl, -, -, -, -, -, -, -, -⟩ := end_rep (hrep9 w9 (fun _ _ => rfl))
      have hgw : w5.grownBy w9 (some W.heap.size) := grownBy_trans (grownBy_drewN w5 n1 _) hg9
      replace R := R.other hgw (fun e => by have := HW0.out; simp at e; omega)
      replace R1 := R1.other hgw (fun e => by have := HW0.out; simp at e; omega)
      replace BW := below_of_grown BW hgw
      have HM9 : Hid (∀ W', (∀ k, w0.heap.size ≤ k → W'.heap[k]? = w9.heap[k]?) → msgC.rep W' (k3, bs3) [.int .i64 k3, .slice pm bs3.length qm]) := fun W' hk => HM.out W' (fun k h1 h2 => (hk k h1).trans (hgw.block k h2 (fun e => by have h4 := z0.out; simp at e; omega)))
      have HR9 : Hid (∀ W' : World, (∀ k, w0.heap.size ≤ k → W'.heap[k]? = w9.heap[k]?) → endC.rep W' e9 [.int .i64 e9.1.1, .slice pe1 e9.1.2.1.length qe1, .int .i64 e9.1.2.2.1, .slice pe2 e9.1.2.2.2.length qe2, .int .i64 e9.2.1, .int .i64 e9.2.2.1, .slice pe3 e9.2.2.2.1.length qe3, .slice pe4 e9.2.2.2.2.1.length qe4, .slice pe5 e9.2.2.2.2.2.1.length qe5, .slice pe6 e9.2.2.2.2.2.2.1.length qe6, .slice pe7 e9.2.2.2.2.2.2.2.1.length qe7, .slice pe8 e9.2.2.2.2.2.2.2.2.length qe8]) := hrep9
      clear hgw hg9 hs hs9 HM hrep9 KBe Xb Mm
      refine GenS.wpM_only (i := 5) (by kernel_rfl) ?_
      refine GenS.mOp_store rfl (by go_simp) 32 _ _ rfl w.heap.size #[.int .i64 e9.1.1, .slice pe1 e9.1.2.1.length qe1, .int .i64 e9.1.2.2.1, .slice pe2 e9.1.2.2.2.length qe2, .int .i64 e9.2.1, .int .i64 e9.2.2.1, .slice pe3 e9.2.2.2.1.length qe3, .slice pe4 e9.2.2.2.2.1.length qe4, .slice pe5 e9.2.2.2.2.2.1.length qe5, .slice pe6 e9.2.2.2.2.2.2.1.length qe6, .slice pe7 e9.2.2.2.2.2.2.2.1.length qe7, .slice pe8 e9.2.2.2.2.2.2.2.2.length qe8] rfl rfl 32 #[.int .i64 0, .slice none 0 0, .int .i64 0, .slice none 0 0, .int .i64 0, .int .i64 0, .slice none 0 0, .slice none 0 0, .slice none 0 0, .slice none 0 0, .slice none 0 0, .slice none 0 0] (fun n => R) hresN.out rfl (by simp [Value.oneCell']) (fun n => Only.more (Only.grown (grownBy_row _ _ _)) (fun k hk => by simp at hk; simp [hk])) ?_
      intro n2
      refine GenS.wpM_end (by kernel_rfl) rfl (by kernel_rfl) (by decide) ?_
      rintro _ ⟨n3, rfl⟩
      simp only [List.drop_succ_cons, List.drop_zero]
      have RA : Arr (((w9.drewN n2).setRow w.heap.size #[.int .i64 e9.1.1, .slice pe1 e9.1.2.1.length qe1, .int .i64 e9.1.2.2.1, .slice pe2 e9.1.2.2.2.length qe2, .int .i64 e9.2.1, .int .i64 e9.2.2.1, .slice pe3 e9.2.2.2.1.length qe3, .slice pe4 e9.2.2.2.2.1.length qe4, .slice pe5 e9.2.2.2.2.2.1.length qe5, .slice pe6 e9.2.2.2.2.2.2.1.length qe6, .slice pe7 e9.2.2.2.2.2.2.2.1.length qe7, .slice pe8 e9.2.2.2.2.2.2.2.2.length qe8]).drewN n3) w.heap.size 32 [.int .i64 e9.1.1, .slice pe1 e9.1.2.1.length qe1, .int .i64 e9.1.2.2.1, .slice pe2 e9.1.2.2.2.length qe2, .int .i64 e9.2.1, .int .i64 e9.2.2.1, .slice pe3 e9.2.2.2.1.length qe3, .slice pe4 e9.2.2.2.2.1.length qe4, .slice pe5 e9.2.2.2.2.2.1.length qe5, .slice pe6 e9.2.2.2.2.2.2.1.length qe6, .slice pe7 e9.2.2.2.2.2.2.2.1.length qe7, .slice pe8 e9.2.2.2.2.2.2.2.2.length qe8] := Arr.row (w := w9.drewN n2) R [.int .i64 e9.1.1, .slice pe1 e9.1.2.1.length qe1, .int .i64 e9.1.2.2.1, .slice pe2 e9.1.2.2.2.length qe2, .int .i64 e9.2.1, .int .i64 e9.2.2.1, .slice pe3 e9.2.2.2.1.length qe3, .slice pe4 e9.2.2.2.2.1.length qe4, .slice pe5 e9.2.2.2.2.2.1.length qe5, .slice pe6 e9.2.2.2.2.2.2.1.length qe6, .slice pe7 e9.2.2.2.2.2.2.2.1.length qe7, .slice pe8 e9.2.2.2.2.2.2.2.2.length qe8]
      have R1z : Arr (((w9.drewN n2).setRow w.heap.size #[.int .i64 e9.1.1, .slice pe1 e9.1.2.1.length qe1, .int .i64 e9.1.2.2.1, .slice pe2 e9.1.2.2.2.length qe2, .int .i64 e9.2.1, .int .i64 e9.2.2.1, .slice pe3 e9.2.2.2.1.length qe3, .slice pe4 e9.2.2.2.2.1.length qe4, .slice pe5 e9.2.2.2.2.2.1.length qe5, .slice pe6 e9.2.2.2.2.2.2.1.length qe6, .slice pe7 e9.2.2.2.2.2.2.2.1.length qe7, .slice pe8 e9.2.2.2.2.2.2.2.2.length qe8]).drewN n3) (w.heap.size + 1) 46 [.int .i64 0, .slice none 0 0] := Arr.rowOther (w := w9.drewN n2) (k := w.heap.size) R1 (by omega) #[.int .i64 e9.1.1, .slice pe1 e9.1.2.1.length qe1, .int .i64 e9.1.2.2.1, .slice pe2 e9.1.2.2.2.length qe2, .int .i64 e9.2.1, .int .i64 e9.2.2.1, .slice pe3 e9.2.2.2.1.length qe3, .slice pe4 e9.2.2.2.2.1.length qe4, .slice pe5 e9.2.2.2.2.2.1.length qe5, .slice pe6 e9.2.2.2.2.2.2.1.length qe6, .slice pe7 e9.2.2.2.2.2.2.2.1.length qe7, .slice pe8 e9.2.2.2.2.2.2.2.2.length qe8]
      have SAME : Hid (∀ k, w0.heap.size ≤ k → (((w9.drewN n2).setRow w.heap.size #[.int .i64 e9.1.1, .slice pe1 e9.1.2.1.length qe1, .int .i64 e9.1.2.2.1, .slice pe2 e9.1.2.2.2.length qe2, .int .i64 e9.2.1, .int .i64 e9.2.2.1, .slice pe3 e9.2.2.2.1.length qe3, .slice pe4 e9.2.2.2.2.1.length qe4, .slice pe5 e9.2.2.2.2.2.1.length qe5, .slice pe6 e9.2.2.2.2.2.2.1.length qe6, .slice pe7 e9.2.2.2.2.2.2.2.1.length qe7, .slice pe8 e9.2.2.2.2.2.2.2.2.length qe8]).drewN n3).heap[k]? = w9.heap[k]?) := fun k hk => setRow_other (w9.drewN n2) w.heap.size k #[.int .i64 e9.1.1, .slice pe1 e9.1.2.1.length qe1, .int .i64 e9.1.2.2.1, .slice pe2 e9.1.2.2.2.length qe2, .int .i64 e9.2.1, .int .i64 e9.2.2.1, .slice pe3 e9.2.2.2.1.length qe3, .slice pe4 e9.2.2.2.2.1.length qe4, .slice pe5 e9.2.2.2.2.2.1.length qe5, .slice pe6 e9.2.2.2.2.2.2.1.length qe6, .slice pe7 e9.2.2.2.2.2.2.2.1.length qe7, .slice pe8 e9.2.2.2.2.2.2.2.2.length qe8] (by have h3 := HW0.out; have h4 := z0.out; omega)
      have BEL : Below w.heap.size w (((w9.drewN n2).setRow w.heap.size #[.int .i64 e9.1.1, .slice pe1 e9.1.2.1.length qe1, .int .i64 e9.1.2.2.1, .slice pe2 e9.1.2.2.2.length qe2, .int .i64 e9.2.1, .int .i64 e9.2.2.1, .slice pe3 e9.2.2.2.1.length qe3, .slice pe4 e9.2.2.2.2.1.length qe4, .slice pe5 e9.2.2.2.2.2.1.length qe5, .slice pe6 e9.2.2.2.2.2.2.1.length qe6, .slice pe7 e9.2.2.2.2.2.2.2.1.length qe7, .slice pe8 e9.2.2.2.2.2.2.2.2.length qe8]).drewN n3) := (Below.row ((B0.trans (BW.mono (by have := HW0.out; omega))).trans (show Below w.heap.size w9 (w9.drewN n2) from ⟨rfl, rfl, rfl, Nat.le_refl _, fun _ _ => rfl⟩)) (Nat.le_refl _) #[.int .i64 e9.1.1, .slice pe1 e9.1.2.1.length qe1, .int .i64 e9.1.2.2.1, .slice pe2 e9.1.2.2.2.length qe2, .int .i64 e9.2.1, .int .i64 e9.2.2.1, .slice pe3 e9.2.2.2.1.length qe3, .slice pe4 e9.2.2.2.2.1.length qe4, .slice pe5 e9.2.2.2.2.2.1.length qe5, .slice pe6 e9.2.2.2.2.2.2.1.length qe6, .slice pe7 e9.2.2.2.2.2.2.2.1.length qe7, .slice pe8 e9.2.2.2.2.2.2.2.2.length qe8]).trans ⟨rfl, rfl, rfl, Nat.le_refl _, fun _ _ => rfl⟩
      clear R R1 BW
      generalize ((w9.drewN n2).setRow w.heap.size #[.int .i64 e9.1.1, .slice pe1 e9.1.2.1.length qe1, .int .i64 e9.1.2.2.1, .slice pe2 e9.1.2.2.2.length qe2, .int .i64 e9.2.1, .int .i64 e9.2.2.1, .slice pe3 e9.2.2.2.1.length qe3, .slice pe4 e9.2.2.2.2.1.length qe4, .slice pe5 e9.2.2.2.2.2.1.length qe5, .slice pe6 e9.2.2.2.2.2.2.1.length qe6, .slice pe7 e9.2.2.2.2.2.2.2.1.length qe7, .slice pe8 e9.2.2.2.2.2.2.2.2.length qe8]).drewN n3 = w10 at *
      have NA := RA.rowOther (k := w.heap.size + 1) (by omega) #[.int .i64 k3, .slice pm bs3.length qm]
      have NB := R1z.row [.int .i64 k3, .slice pm bs3.length qm]
      have c0 := (NA.cell 0).trans (show _ = some _ from rfl)
      have c1 := (NA.cell 1).trans (show _ = some _ from rfl)
      have c2 := (NA.cell 2).trans (show _ = some _ from rfl)
      have c3 := (NA.cell 3).trans (show _ = some _ from rfl)
      have c4 := (NA.cell 4).trans (show _ = some _ from rfl)
      have c5 := (NA.cell 5).trans (show _ = some _ from rfl)
      have c6 := (NA.cell 6).trans (show _ = some _ from rfl)
      have c7 := (NA.cell 7).trans (show _ = some _ from rfl)
      have c8 := (NA.cell 8).trans (show _ = some _ from rfl)
      have c9 := (NA.cell 9).trans (show _ = some _ from rfl)
      have c10 := (NA.cell 10).trans (show _ = some _ from rfl)
      have c11 := (NA.cell 11).trans (show _ = some _ from rfl)
      have d0 := (NB.cell 0).trans (show _ = some _ from rfl)
      have d1 := (NB.cell 1).trans (show _ = some _ from rfl)
      have HSM : Hid (∀ k, w0.heap.size ≤ k → (w10.setRow (w.heap.size + 1) #[.int .i64 k3, .slice pm bs3.length qm]).heap[k]? = w9.heap[k]?) := fun k hk => (setRow_other _ _ _ _ (by have h3 := HW0.out; have h4 := z0.out; omega)).trans (SAME.out k hk)
      have HBE2 : Hid (Below w.heap.size w (w10.setRow (w.heap.size + 1) #[.int .i64 k3, .slice pm bs3.length qm])) := Below.row BEL (Nat.le_succ _) _
      clear NA NB RA BEL
      go_wp2_with (refine wpList_store_row rfl 46 _ _ rfl (w.heap.size + 1) #[.int .i64 k3, .slice pm bs3.length qm] rfl rfl 46 #[.int .i64 0, .slice none 0 0] R1z hresM.out rfl (by simp [Value.oneCell']) ?_)
      exact bodyPost_ret (v := .tuple #[.agg #[.int .i64 e9.1.1, .slice pe1 e9.1.2.1.length qe1, .int .i64 e9.1.2.2.1, .slice pe2 e9.1.2.2.2.length qe2, .int .i64 e9.2.1, .int .i64 e9.2.2.1, .slice pe3 e9.2.2.2.1.length qe3, .slice pe4 e9.2.2.2.2.1.length qe4, .slice pe5 e9.2.2.2.2.2.1.length qe5, .slice pe6 e9.2.2.2.2.2.2.1.length qe6, .slice pe7 e9.2.2.2.2.2.2.2.1.length qe7, .slice pe8 e9.2.2.2.2.2.2.2.2.length qe8], .agg #[.int .i64 k3, .slice pm bs3.length qm]]) (by simp [results, Tryz.results17, go_sem, c0, c1, c2, c3, c4, c5, c6, c7, c8, c9, c10, c11, d0, d1]) rfl ⟨e9, (k3, bs3), [.int .i64 e9.1.1, .slice pe1 e9.1.2.1.length qe1, .int .i64 e9.1.2.2.1, .slice pe2 e9.1.2.2.2.length qe2, .int .i64 e9.2.1, .int .i64 e9.2.2.1, .slice pe3 e9.2.2.2.1.length qe3, .slice pe4 e9.2.2.2.2.1.length qe4, .slice pe5 e9.2.2.2.2.2.1.length qe5, .slice pe6 e9.2.2.2.2.2.2.1.length qe6, .slice pe7 e9.2.2.2.2.2.2.2.1.length qe7, .slice pe8 e9.2.2.2.2.2.2.2.2.length qe8], [.int .i64 k3, .slice pm bs3.length qm], rfl, HR9.out _ HSM.out, HM9.out _ HSM.out, HBE2.out⟩
  · have dC : (C.1 == 0) = false := by rw [beq_eq_false_iff_ne]; exact hC
    clear hC HC1
    go_wp2_with fail
    generalize (w3.alloc (.cells #[.int .i64 k3, .slice pm bs3.length qm] 46)) = V3 at *
    clear xc0 dC Xc Kc
    have HM : Hid (∀ W', (∀ k, w0.heap.size ≤ k → k < V3.heap.size → W'.heap[k]? = V3.heap[k]?) → msgC.rep W' (k3, bs3) [.int .i64 k3, .slice pm bs3.length qm]) := fun W' hk => msg_mkN (a := (k3, bs3)) (rd_from (Rd.own o3L) (fun y hy => by subst hy; exact hk _ (o3L.ge y.block rfl) (o3L.lt y.block rfl))) rfl
    clear o3L
    have hn1 : w3.heap.size ≠ w.heap.size := by have := zm.out; have := HW0.out; omega
    have hnm : w3.heap.size ∉ [W.heap.size, w.heap.size] := by have := zm.out; simp; omega
    have hnb : w1.heap.size + 1 ∉ [W.heap.size, w.heap.size] := by have := z0.out; have := z1.out; have := HW0.out; simp; omega
    have m0 := GenS.only_cell (fp := [W.heap.size, w.heap.size]) ((Mm.cell 0).trans (show _ = some _ from rfl)) hnm
    have m1 := GenS.only_cell (fp := [W.heap.size, w.heap.size]) ((Mm.cell 1).trans (show _ = some _ from rfl)) hnm
    have xb1 := GenS.only_cell (fp := [W.heap.size, w.heap.size]) ((Xb.cell 1).trans (show _ = some _ from rfl)) hnb
    have xb2 := GenS.only_cell (fp := [W.heap.size, w.heap.size]) ((Xb.cell 2).trans (show _ = some _ from rfl)) hnb
    have xb3 := GenS.only_cell (fp := [W.heap.size, w.heap.size]) ((Xb.cell 3).trans (show _ = some _ from rfl)) hnb
    have xb4 := GenS.only_cell (fp := [W.heap.size, w.heap.size]) ((Xb.cell 4).trans (show _ = some _ from rfl)) hnb
    have xb5 := GenS.only_cell (fp := [W.heap.size, w.heap.size]) ((Xb.cell 5).trans (show _ = some _ from rfl)) hnb
    have xb6 := GenS.only_cell (fp := [W.heap.size, w.heap.size]) ((Xb.cell 6).trans (show _ = some _ from rfl)) hnb
    have xb7 := GenS.only_cell (fp := [W.heap.size, w.heap.size]) ((Xb.cell 7).trans (show _ = some _ from rfl)) hnb
    have xb8 := GenS.only_cell (fp := [W.heap.size, w.heap.size]) ((Xb.cell 8).trans (show _ = some _ from rfl)) hnb
    have xb9 := GenS.only_cell (fp := [W.heap.size, w.heap.size]) ((Xb.cell 9).trans (show _ = some _ from rfl)) hnb
    have xb10 := GenS.only_cell (fp := [W.heap.size, w.heap.size]) ((Xb.cell 10).trans (show _ = some _ from rfl)) hnb
    have xb11 := GenS.only_cell (fp := [W.heap.size, w.heap.size]) ((Xb.cell 11).trans (show _ = some _ from rfl)) hnb
    have xb12 := GenS.only_cell (fp := [W.heap.size, w.heap.size]) ((Xb.cell 12).trans (show _ = some _ from rfl)) hnb
    have hne := GenS.only_some [W.heap.size, w.heap.size] V3
    clear hnm hnb
    go_wp2_with fail
    refine GenS.wp_region_pick (GenS.only_pre [W.heap.size, w.heap.size]) [0, 1, 2, 4] 6 2 1 rfl rfl rfl (by kernel_rfl) (by kernel_rfl) (by kernel_rfl) (by kernel_rfl) ?_
    simp only [opsAt, List.getElem?_toArray, List.getElem?_cons_zero, List.getElem?_cons_succ]
    repeat (go_big_quiet_step (fail))
    refine wpQuiet_nil ?_
    clear m0 m1 hne xb1 xb2 xb3 xb4 xb5 xb6 xb7 xb8 xb9 xb10 xb11 xb12
    refine GenS.wpM_only (i := 3) (by kernel_rfl) ?_
    refine GenS.mOp_call rfl (by go_simp) 49 _ #[.pointer (some ⟨W.heap.size, 0, none⟩), .agg #[.int .i64 B.2.1.1.1, .slice pb1 B.2.1.1.2.1.length qb1, .int .i64 B.2.1.1.2.2.1, .slice pb2 B.2.1.1.2.2.2.length qb2, .int .i64 B.2.1.2.1, .int .i64 B.2.1.2.2.1, .slice pb3 B.2.1.2.2.2.1.length qb3, .slice pb4 B.2.1.2.2.2.2.1.length qb4, .slice pb5 B.2.1.2.2.2.2.2.1.length qb5, .slice pb6 B.2.1.2.2.2.2.2.2.1.length qb6, .slice pb7 B.2.1.2.2.2.2.2.2.2.1.length qb7, .slice pb8 B.2.1.2.2.2.2.2.2.2.2.length qb8]] (fun w => by go_simp) rfl ?_
    rintro _ ⟨n1, rfl⟩
    refine (l11Turned_c W.heap.size p q cs t3 _ (hs.drewN n1) (by omega) (by omega) B.2.1 _ _ w0.heap.size z0.out (show w0.heap.size ≤ V3.heap.size from Nat.le_trans z1.out (Nat.le_of_lt (Nat.lt_of_succ_lt Xb.lt))) (endC.fr (w' := V3.drewN n1) KBe (fun _ _ => rfl))).mono ?_
    rintro e w9 ⟨e9, us9, t9, rfl, hrep9, k1, k2, hs9, hg9⟩
    refine ⟨_, rfl, ⟨⟨w9, Only.more (Only.grown hg9) (fun k hk => by simp at hk; simp [hk])⟩, rfl⟩, ?_⟩
    obtain ⟨pe1, qe1, pe2, qe2, pe3, qe3, pe4, qe4, pe5, qe5, pe6, qe6, pe7, qe7, pe8, qe8, rfl, -, -, -, -, -, -, -, -⟩ := end_rep (hrep9 w9 (fun _ _ => rfl))
    have hgw : V3.grownBy w9 (some W.heap.size) := grownBy_trans (grownBy_drewN V3 n1 _) hg9
    replace R := R.other hgw (fun e => by have := HW0.out; simp at e; omega)
    replace R1 := R1.other hgw (fun e => by have := HW0.out; simp at e; omega)
    replace BW := below_of_grown BW hgw
    have HM9 : Hid (∀ W', (∀ k, w0.heap.size ≤ k → W'.heap[k]? = w9.heap[k]?) → msgC.rep W' (k3, bs3) [.int .i64 k3, .slice pm bs3.length qm]) := fun W' hk => HM.out W' (fun k h1 h2 => (hk k h1).trans (hgw.block k h2 (fun e => by have h4 := z0.out; simp at e; omega)))
    have HR9 : Hid (∀ W' : World, (∀ k, w0.heap.size ≤ k → W'.heap[k]? = w9.heap[k]?) → endC.rep W' e9 [.int .i64 e9.1.1, .slice pe1 e9.1.2.1.length qe1, .int .i64 e9.1.2.2.1, .slice pe2 e9.1.2.2.2.length qe2, .int .i64 e9.2.1, .int .i64 e9.2.2.1, .slice pe3 e9.2.2.2.1.length qe3, .slice pe4 e9.2.2.2.2.1.length qe4, .slice pe5 e9.2.2.2.2.2.1.length qe5, .slice pe6 e9.2.2.2.2.2.2.1.length qe6, .slice pe7 e9.2.2.2.2.2.2.2.1.length qe7, .slice pe8 e9.2.2.2.2.2.2.2.2.length qe8]) := hrep9
    clear hgw hg9 hs hs9 HM hrep9 KBe Xb Mm
    refine GenS.wpM_only (i := 5) (by kernel_rfl) ?_
    refine GenS.mOp_store rfl (by go_simp) 32 _ _ rfl w.heap.size #[.int .i64 e9.1.1, .slice pe1 e9.1.2.1.length qe1, .int .i64 e9.1.2.2.1, .slice pe2 e9.1.2.2.2.length qe2, .int .i64 e9.2.1, .int .i64 e9.2.2.1, .slice pe3 e9.2.2.2.1.length qe3, .slice pe4 e9.2.2.2.2.1.length qe4, .slice pe5 e9.2.2.2.2.2.1.length qe5, .slice pe6 e9.2.2.2.2.2.2.1.length qe6, .slice pe7 e9.2.2.2.2.2.2.2.1.length qe7, .slice pe8 e9.2.2.2.2.2.2.2.2.length qe8] rfl rfl 32 #[.int .i64 0, .slice none 0 0, .int .i64 0, .slice none 0 0, .int .i64 0, .int .i64 0, .slice none 0 0, .slice none 0 0, .slice none 0 0, .slice none 0 0, .slice none 0 0, .slice none 0 0] (fun n => R) hresN.out rfl (by simp [Value.oneCell']) (fun n => Only.more (Only.grown (grownBy_row _ _ _)) (fun k hk => by simp at hk; simp [hk])) ?_
    intro n2
    refine GenS.wpM_end (by kernel_rfl) rfl (by kernel_rfl) (by decide) ?_
    rintro _ ⟨n3, rfl⟩
    simp only [List.drop_succ_cons, List.drop_zero]
    have RA : Arr (((w9.drewN n2).setRow w.heap.size #[.int .i64 e9.1.1, .slice pe1 e9.1.2.1.length qe1, .int .i64 e9.1.2.2.1, .slice pe2 e9.1.2.2.2.length qe2, .int .i64 e9.2.1, .int .i64 e9.2.2.1, .slice pe3 e9.2.2.2.1.length qe3, .slice pe4 e9.2.2.2.2.1.length qe4, .slice pe5 e9.2.2.2.2.2.1.length qe5, .slice pe6 e9.2.2.2.2.2.2.1.length qe6, .slice pe7 e9.2.2.2.2.2.2.2.1.length qe7, .slice pe8 e9.2.2.2.2.2.2.2.2.length qe8]).drewN n3) w.heap.size 32 [.int .i64 e9.1.1, .slice pe1 e9.1.2.1.length qe1, .int .i64 e9.1.2.2.1, .slice pe2 e9.1.2.2.2.length qe2, .int .i64 e9.2.1, .int .i64 e9.2.2.1, .slice pe3 e9.2.2.2.1.length qe3, .slice pe4 e9.2.2.2.2.1.length qe4, .slice pe5 e9.2.2.2.2.2.1.length qe5, .slice pe6 e9.2.2.2.2.2.2.1.length qe6, .slice pe7 e9.2.2.2.2.2.2.2.1.length qe7, .slice pe8 e9.2.2.2.2.2.2.2.2.length qe8] := Arr.row (w := w9.drewN n2) R [.int .i64 e9.1.1, .slice pe1 e9.1.2.1.length qe1, .int .i64 e9.1.2.2.1, .slice pe2 e9.1.2.2.2.length qe2, .int .i64 e9.2.1, .int .i64 e9.2.2.1, .slice pe3 e9.2.2.2.1.length qe3, .slice pe4 e9.2.2.2.2.1.length qe4, .slice pe5 e9.2.2.2.2.2.1.length qe5, .slice pe6 e9.2.2.2.2.2.2.1.length qe6, .slice pe7 e9.2.2.2.2.2.2.2.1.length qe7, .slice pe8 e9.2.2.2.2.2.2.2.2.length qe8]
    have R1z : Arr (((w9.drewN n2).setRow w.heap.size #[.int .i64 e9.1.1, .slice pe1 e9.1.2.1.length qe1, .int .i64 e9.1.2.2.1, .slice pe2 e9.1.2.2.2.length qe2, .int .i64 e9.2.1, .int .i64 e9.2.2.1, .slice pe3 e9.2.2.2.1.length qe3, .slice pe4 e9.2.2.2.2.1.length qe4, .slice pe5 e9.2.2.2.2.2.1.length qe5, .slice pe6 e9.2.2.2.2.2.2.1.length qe6, .slice pe7 e9.2.2.2.2.2.2.2.1.length qe7, .slice pe8 e9.2.2.2.2.2.2.2.2.length qe8]).drewN n3) (w.heap.size + 1) 46 [.int .i64 0, .slice none 0 0] := Arr.rowOther (w := w9.drewN n2) (k := w.heap.size) R1 (by omega) #[.int .i64 e9.1.1, .slice pe1 e9.1.2.1.length qe1, .int .i64 e9.1.2.2.1, .slice pe2 e9.1.2.2.2.length qe2, .int .i64 e9.2.1, .int .i64 e9.2.2.1, .slice pe3 e9.2.2.2.1.length qe3, .slice pe4 e9.2.2.2.2.1.length qe4, .slice pe5 e9.2.2.2.2.2.1.length qe5, .slice pe6 e9.2.2.2.2.2.2.1.length qe6, .slice pe7 e9.2.2.2.2.2.2.2.1.length qe7, .slice pe8 e9.2.2.2.2.2.2.2.2.length qe8]
    have SAME : Hid (∀ k, w0.heap.size ≤ k → (((w9.drewN n2).setRow w.heap.size #[.int .i64 e9.1.1, .slice pe1 e9.1.2.1.length qe1, .int .i64 e9.1.2.2.1, .slice pe2 e9.1.2.2.2.length qe2, .int .i64 e9.2.1, .int .i64 e9.2.2.1, .slice pe3 e9.2.2.2.1.length qe3, .slice pe4 e9.2.2.2.2.1.length qe4, .slice pe5 e9.2.2.2.2.2.1.length qe5, .slice pe6 e9.2.2.2.2.2.2.1.length qe6, .slice pe7 e9.2.2.2.2.2.2.2.1.length qe7, .slice pe8 e9.2.2.2.2.2.2.2.2.length qe8]).drewN n3).heap[k]? = w9.heap[k]?) := fun k hk => setRow_other (w9.drewN n2) w.heap.size k #[.int .i64 e9.1.1, .slice pe1 e9.1.2.1.length qe1, .int .i64 e9.1.2.2.1, .slice pe2 e9.1.2.2.2.length qe2, .int .i64 e9.2.1, .int .i64 e9.2.2.1, .slice pe3 e9.2.2.2.1.length qe3, .slice pe4 e9.2.2.2.2.1.length qe4, .slice pe5 e9.2.2.2.2.2.1.length qe5, .slice pe6 e9.2.2.2.2.2.2.1.length qe6, .slice pe7 e9.2.2.2.2.2.2.2.1.length qe7, .slice pe8 e9.2.2.2.2.2.2.2.2.length qe8] (by have h3 := HW0.out; have h4 := z0.out; omega)
    have BEL : Below w.heap.size w (((w9.drewN n2).setRow w.heap.size #[.int .i64 e9.1.1, .slice pe1 e9.1.2.1.length qe1, .int .i64 e9.1.2.2.1, .slice pe2 e9.1.2.2.2.length qe2, .int .i64 e9.2.1, .int .i64 e9.2.2.1, .slice pe3 e9.2.2.2.1.length qe3, .slice pe4 e9.2.2.2.2.1.length qe4, .slice pe5 e9.2.2.2.2.2.1.length qe5, .slice pe6 e9.2.2.2.2.2.2.1.length qe6, .slice pe7 e9.2.2.2.2.2.2.2.1.length qe7, .slice pe8 e9.2.2.2.2.2.2.2.2.length qe8]).drewN n3) := (Below.row ((B0.trans (BW.mono (by have := HW0.out; omega))).trans (show Below w.heap.size w9 (w9.drewN n2) from ⟨rfl, rfl, rfl, Nat.le_refl _, fun _ _ => rfl⟩)) (Nat.le_refl _) #[.int .i64 e9.1.1, .slice pe1 e9.1.2.1.length qe1, .int .i64 e9.1.2.2.1, .slice pe2 e9.1.2.2.2.length qe2, .int .i64 e9.2.1, .int .i64 e9.2.2.1, .slice pe3 e9.2.2.2.1.length qe3, .slice pe4 e9.2.2.2.2.1.length qe4, .slice pe5 e9.2.2.2.2.2.1.length qe5, .slice pe6 e9.2.2.2.2.2.2.1.length qe6, .slice pe7 e9.2.2.2.2.2.2.2.1.length qe7, .slice pe8 e9.2.2.2.2.2.2.2.2.length qe8]).trans ⟨rfl, rfl, rfl, Nat.le_refl _, fun _ _ => rfl⟩
    clear R R1 BW
    generalize ((w9.drewN n2).setRow w.heap.size #[.int .i64 e9.1.1, .slice pe1 e9.1.2.1.length qe1, .int .i64 e9.1.2.2.1, .slice pe2 e9.1.2.2.2.length qe2, .int .i64 e9.2.1, .int .i64 e9.2.2.1, .slice pe3 e9.2.2.2.1.length qe3, .slice pe4 e9.2.2.2.2.1.length qe4, .slice pe5 e9.2.2.2.2.2.1.length qe5, .slice pe6 e9.2.2.2.2.2.2.1.length qe6, .slice pe7 e9.2.2.2.2.2.2.2.1.length qe7, .slice pe8 e9.2.2.2.2.2.2.2.2.length qe8]).drewN n3 = w10 at *
    have NA := RA.rowOther (k := w.heap.size + 1) (by omega) #[.int .i64 k3, .slice pm bs3.length qm]
    have NB := R1z.row [.int .i64 k3, .slice pm bs3.length qm]
    have c0 := (NA.cell 0).trans (show _ = some _ from rfl)
    have c1 := (NA.cell 1).trans (show _ = some _ from rfl)
    have c2 := (NA.cell 2).trans (show _ = some _ from rfl)
    have c3 := (NA.cell 3).trans (show _ = some _ from rfl)
    have c4 := (NA.cell 4).trans (show _ = some _ from rfl)
    have c5 := (NA.cell 5).trans (show _ = some _ from rfl)
    have c6 := (NA.cell 6).trans (show _ = some _ from rfl)
    have c7 := (NA.cell 7).trans (show _ = some _ from rfl)
    have c8 := (NA.cell 8).trans (show _ = some _ from rfl)
    have c9 := (NA.cell 9).trans (show _ = some _ from rfl)
    have c10 := (NA.cell 10).trans (show _ = some _ from rfl)
    have c11 := (NA.cell 11).trans (show _ = some _ from rfl)
    have d0 := (NB.cell 0).trans (show _ = some _ from rfl)
    have d1 := (NB.cell 1).trans (show _ = some _ from rfl)
    have HSM : Hid (∀ k, w0.heap.size ≤ k → (w10.setRow (w.heap.size + 1) #[.int .i64 k3, .slice pm bs3.length qm]).heap[k]? = w9.heap[k]?) := fun k hk => (setRow_other _ _ _ _ (by have h3 := HW0.out; have h4 := z0.out; omega)).trans (SAME.out k hk)
    have HBE2 : Hid (Below w.heap.size w (w10.setRow (w.heap.size + 1) #[.int .i64 k3, .slice pm bs3.length qm])) := Below.row BEL (Nat.le_succ _) _
    clear NA NB RA BEL
    go_wp2_with (refine wpList_store_row rfl 46 _ _ rfl (w.heap.size + 1) #[.int .i64 k3, .slice pm bs3.length qm] rfl rfl 46 #[.int .i64 0, .slice none 0 0] R1z hresM.out rfl (by simp [Value.oneCell']) ?_)
    exact bodyPost_ret (v := .tuple #[.agg #[.int .i64 e9.1.1, .slice pe1 e9.1.2.1.length qe1, .int .i64 e9.1.2.2.1, .slice pe2 e9.1.2.2.2.length qe2, .int .i64 e9.2.1, .int .i64 e9.2.2.1, .slice pe3 e9.2.2.2.1.length qe3, .slice pe4 e9.2.2.2.2.1.length qe4, .slice pe5 e9.2.2.2.2.2.1.length qe5, .slice pe6 e9.2.2.2.2.2.2.1.length qe6, .slice pe7 e9.2.2.2.2.2.2.2.1.length qe7, .slice pe8 e9.2.2.2.2.2.2.2.2.length qe8], .agg #[.int .i64 k3, .slice pm bs3.length qm]]) (by simp [results, Tryz.results17, go_sem, c0, c1, c2, c3, c4, c5, c6, c7, c8, c9, c10, c11, d0, d1]) rfl ⟨e9, (k3, bs3), [.int .i64 e9.1.1, .slice pe1 e9.1.2.1.length qe1, .int .i64 e9.1.2.2.1, .slice pe2 e9.1.2.2.2.length qe2, .int .i64 e9.2.1, .int .i64 e9.2.2.1, .slice pe3 e9.2.2.2.1.length qe3, .slice pe4 e9.2.2.2.2.1.length qe4, .slice pe5 e9.2.2.2.2.2.1.length qe5, .slice pe6 e9.2.2.2.2.2.2.1.length qe6, .slice pe7 e9.2.2.2.2.2.2.2.1.length qe7, .slice pe8 e9.2.2.2.2.2.2.2.2.length qe8], [.int .i64 k3, .slice pm bs3.length qm], rfl, HR9.out _ HSM.out, HM9.out _ HSM.out, HBE2.out⟩
end Go.Proofs.YtiabacnmmojfjaaGreatDoor

