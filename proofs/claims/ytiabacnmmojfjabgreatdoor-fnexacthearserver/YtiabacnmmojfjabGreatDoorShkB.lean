import Derived.Test.YtiabacnmmojfjabGreatDoorShkA
import Derived.Test.YtiabacnmmojfjabGreatDoorJoint19
import Derived.Test.YtiabacnmmojfjabGreatDoorJoint12
import Derived.Test.YtiabacnmmojfjabGreatDoorJoint5
import Derived.Deep.AppendLies
namespace Go.Proofs.YtiabacnmmojfjabGreatDoor
open Go.ChangeShapes Go.WideShapes Go.ChangeAt Go.RowKit
theorem Cod.row {α : Type} (c : Cod α) {w : World} {B : Nat} {a : α} {vs : List Value} {fp : List Nat} (h : c.own w B a vs fp) {g : Nat} (hg : ∀ k, k ∈ fp → k ≠ g) (us : Array Value) : c.own (w.setRow g us) B a vs fp :=
 c.fr h fun k hk => setRow_other w g k us (hg k hk)
theorem byt_ownK {w : World} {B : Nat} {u : Value} {bs : List UInt8} (h : Own w B u bs) : bytC.own w B bs [u] u.ownBlock.toList := ⟨u, rfl, h, rfl⟩
set_option maxRecDepth 4000 in
set_option maxHeartbeats 1000000 in
theorem ownSide_k (s : SideD) (us : List Value) (w : World) (r : sideC.rep w s us) (hl : s.2.1.length ≤ 1000000) (hl2 : s.2.2.2.length ≤ 1000000) :
  Calls Tryz.prog 165 #[.agg us.toArray] w fun e w' => ∃ us fp, e = .returned (.agg us.toArray) ∧ sideC.own w' w.heap.size s us fp ∧ Below w.heap.size w w' := by
 obtain ⟨p, q, p2, q2, rfl, r1, r2⟩ := side_rep r
 clear r
 have HR1 : Hid (Rd w p q s.2.1) := r1
 have HR2 : Hid (Rd w p2 q2 s.2.2.2) := r2
 have HL1 : Hid (s.2.1.length ≤ 1000000) := hl
 have HL2 : Hid (s.2.2.2.length ≤ 1000000) := hl2
 clear r1 r2 hl hl2
 have BW := Below.mk (alloc_below w (.cells #[.int .i64 s.1, .slice p s.2.1.length q, .int .i64 s.2.2.1, .slice p2 s.2.2.2.length q2] 32)) (.cells #[.int .i64 0, .slice none 0 0, .int .i64 0, .slice none 0 0] 32)
 have A := (Arr.new w [.int .i64 s.1, .slice p s.2.1.length q, .int .i64 s.2.2.1, .slice p2 s.2.2.2.length q2] 32).old _ (.cells #[.int .i64 0, .slice none 0 0, .int .i64 0, .slice none 0 0] 32)
 have R := Arr.new (w.alloc (.cells #[.int .i64 s.1, .slice p s.2.1.length q, .int .i64 s.2.2.1, .slice p2 s.2.2.2.length q2] 32)) [.int .i64 0, .slice none 0 0, .int .i64 0, .slice none 0 0] 32
 rw [size_alloc] at R
 go_enter Tryz.func165, Tryz.ntmps165
 go_wp2_with fail
 generalize (w.alloc (.cells #[.int .i64 s.1, .slice p s.2.1.length q, .int .i64 s.2.2.1, .slice p2 s.2.2.2.length q2] 32)).alloc (.cells #[.int .i64 0, .slice none 0 0, .int .i64 0, .slice none 0 0] 32) = V at *
 have hne := HW.some V
 have HVR : Hid (w.heap.size + 1 < V.heap.size) := R.lt
 have c0 := HW.at ((A.cell 0).trans (show _ = some _ from rfl))
 have c1 := HW.at ((A.cell 1).trans (show _ = some _ from rfl))
 have c2 := HW.at ((A.cell 2).trans (show _ = some _ from rfl))
 have c3 := HW.at ((A.cell 3).trans (show _ = some _ from rfl))
 clear A
 refine wp_region_pick [0, 1, 2, 3, 5, 6, 7, 8] 11 3 1 rfl rfl rfl (by kernel_rfl) (by kernel_rfl) (by kernel_rfl) (by kernel_rfl) ?_
 simp only [opsAt, List.getElem?_toArray, List.getElem?_cons_zero, List.getElem?_cons_succ]
 repeat (go_big_quiet_step (fail))
 refine wpQuiet_nil ?_
 clear c0 c1 c2 c3
 refine wpM_only (i := 4) (by kernel_rfl) ?_
 refine mOp_call rfl (by go_simp) 167 _ #[.slice p s.2.1.length q] (fun w => by go_simp) rfl ?_
 rintro _ ⟨sg, rfl⟩
 refine (bytesClone_c p q s.2.1 _ (HR1.out.keep (Below.step BW sg.h)) HL1.out).mono ?_
 rintro e wg0 ⟨ua, rfl, Ka, hbx⟩
 obtain ⟨pa, qa, rfl, -⟩ := Ka.rd
 replace Ka := byt_ownK Ka
 have hbg := Below.step sg.h hbx
 refine ⟨_, rfl, ⟨⟨wg0, hbx⟩, rfl⟩, ?_⟩
 have I0 : Hid (∀ k, k ∈ (Value.slice pa s.2.1.length qa).ownBlock.toList → V.heap.size ≤ k ∧ k < wg0.heap.size) := fun k hk => ⟨Nat.le_trans sg.h.size (bytC.ins Ka k hk).1, (bytC.ins Ka k hk).2⟩
 have T0 : Hid (V.heap.size ≤ wg0.heap.size) := Nat.le_trans sg.h.size hbx.size
 replace Ka := bytC.low Ka (Below.step BW sg.h).size
 replace R := R.stay hbg
 replace BW := Below.step BW hbg
 replace hne := HW.some wg0
 clear hbg hbx sg
 refine wpM_only (i := 9) (by kernel_rfl) ?_
 refine mOp_call rfl (by go_simp) 167 _ #[.slice p2 s.2.2.2.length q2] (fun w => by go_simp) rfl ?_
 rintro _ ⟨sg, rfl⟩
 refine (bytesClone_c p2 q2 s.2.2.2 _ (HR2.out.keep (Below.step BW sg.h)) HL2.out).mono ?_
 rintro e wg1 ⟨ub, rfl, Kb, hbx⟩
 obtain ⟨pb, qb, rfl, -⟩ := Kb.rd
 replace Kb := byt_ownK Kb
 have hbg := Below.step sg.h hbx
 refine ⟨_, rfl, ⟨⟨wg1, hbx⟩, rfl⟩, ?_⟩
 have I1 : Hid (∀ k, k ∈ (Value.slice pb s.2.2.2.length qb).ownBlock.toList → wg0.heap.size ≤ k ∧ k < wg1.heap.size) := fun k hk => ⟨Nat.le_trans sg.h.size (bytC.ins Kb k hk).1, (bytC.ins Kb k hk).2⟩
 have T1 : Hid (wg0.heap.size ≤ wg1.heap.size) := Nat.le_trans sg.h.size hbx.size
 replace Kb := bytC.low Kb (Below.step BW sg.h).size
 replace R := R.stay hbg
 replace Ka := bytC.stay Ka hbg
 replace BW := Below.step BW hbg
 replace hne := HW.some wg1
 clear hbg hbx sg
 refine wpM_more [10] 1 0 rfl (by kernel_rfl) (by kernel_rfl) (by kernel_rfl) (by kernel_rfl) ?_
 simp only [opsAt, List.getElem?_toArray, List.getElem?_cons_zero, List.getElem?_cons_succ]
 go_simp
 repeat (go_big_quiet_step (fail))
 refine wpQuiet_nil ?_
 refine wpM_end (by kernel_rfl) rfl (by kernel_rfl) (by decide) ?_
 rintro _ ⟨sgz, rfl⟩
 simp only [List.drop_succ_cons, List.drop_zero]
 go_simp
 replace R := R.stay sgz.h
 replace Ka := bytC.stay Ka sgz.h
 replace Kb := bytC.stay Kb sgz.h
 replace BW := Below.step BW sgz.h
 clear hne
 generalize sgz.w = W at *
 clear sgz
 have hres : Hid ((Tryz.prog.info? 32).map (·.size) = some 4) := by show _ = _; kernel_rfl
 refine wpList_store_row rfl 32 (.tmp 2) (.tmp 13) rfl (w.heap.size + 1) #[.int .i64 s.1, .slice pa s.2.1.length qa, .int .i64 s.2.2.1, .slice pb s.2.2.2.length qb] rfl rfl 32 #[.int .i64 0, .slice none 0 0, .int .i64 0, .slice none 0 0] R hres.out rfl (by simp [Value.oneCell']) ?_
 go_wp2
 refine bodyPost_ret (v := .agg #[.int .i64 s.1, .slice pa s.2.1.length qa, .int .i64 s.2.2.1, .slice pb s.2.2.2.length qb]) (results_cell_row Tryz.results165 _ _ (w.heap.size + 1) 32 _ (0, 0) _ rfl (R.row [.int .i64 s.1, .slice pa s.2.1.length qa, .int .i64 s.2.2.1, .slice pb s.2.2.2.length qb]) Tryz.underlying32 rfl hres.out) rfl ⟨[.int .i64 s.1, .slice pa s.2.1.length qa, .int .i64 s.2.2.1, .slice pb s.2.2.2.length qb], _, rfl, own_apartK (a := s) (us := [.int .i64 s.1]) own_int (own_apartK (a := s.2) (bytC.row Ka (fun k hk => by have := I0.out k hk; have := HVR.out; omega) _) (own_apartK (a := s.2.2) (us := [.int .i64 s.2.2.1]) own_int (bytC.row Kb (fun k hk => by have := I1.out k hk; have := HVR.out; have := T0.out; omega) _) (fun _ h => by cases h)) (fun k h1 h2 => by have := I0.out k h1; have := I1.out k h2; have := T0.out; have := T1.out; omega)) (fun _ h => by cases h), Below.row BW (by omega) _⟩
set_option maxRecDepth 4000 in
set_option maxHeartbeats 1000000 in
theorem ownSecrets_k (x : SecretsD) (us : List Value) (w : World) (r : secretsC.rep w x us) (h1 : x.1.length ≤ 1000000) (h2 : x.2.1.length ≤ 1000000) (h3 : x.2.2.1.length ≤ 1000000) (h4 : x.2.2.2.length ≤ 1000000) :
  Calls Tryz.prog 168 #[.agg us.toArray] w fun e w' => ∃ us fp, e = .returned (.agg us.toArray) ∧ secretsC.own w' w.heap.size x us fp ∧ Below w.heap.size w w' := by
 obtain ⟨p1, q1, p2, q2, p3, q3, p4, q4, rfl, r1, r2, r3, r4⟩ := secrets_rep r
 clear r
 have HR1 : Hid (Rd w p1 q1 x.1) := r1
 have HR2 : Hid (Rd w p2 q2 x.2.1) := r2
 have HR3 : Hid (Rd w p3 q3 x.2.2.1) := r3
 have HR4 : Hid (Rd w p4 q4 x.2.2.2) := r4
 have HL1 : Hid (x.1.length ≤ 1000000) := h1
 have HL2 : Hid (x.2.1.length ≤ 1000000) := h2
 have HL3 : Hid (x.2.2.1.length ≤ 1000000) := h3
 have HL4 : Hid (x.2.2.2.length ≤ 1000000) := h4
 clear r1 r2 r3 r4 h1 h2 h3 h4
 have BW := Below.mk (alloc_below w (.cells #[.slice p1 x.1.length q1, .slice p2 x.2.1.length q2, .slice p3 x.2.2.1.length q3, .slice p4 x.2.2.2.length q4] 34)) (.cells #[.slice none 0 0, .slice none 0 0, .slice none 0 0, .slice none 0 0] 34)
 have A := (Arr.new w [.slice p1 x.1.length q1, .slice p2 x.2.1.length q2, .slice p3 x.2.2.1.length q3, .slice p4 x.2.2.2.length q4] 34).old _ (.cells #[.slice none 0 0, .slice none 0 0, .slice none 0 0, .slice none 0 0] 34)
 have R := Arr.new (w.alloc (.cells #[.slice p1 x.1.length q1, .slice p2 x.2.1.length q2, .slice p3 x.2.2.1.length q3, .slice p4 x.2.2.2.length q4] 34)) [.slice none 0 0, .slice none 0 0, .slice none 0 0, .slice none 0 0] 34
 rw [size_alloc] at R
 go_enter Tryz.func168, Tryz.ntmps168
 go_wp2_with fail
 generalize (w.alloc (.cells #[.slice p1 x.1.length q1, .slice p2 x.2.1.length q2, .slice p3 x.2.2.1.length q3, .slice p4 x.2.2.2.length q4] 34)).alloc (.cells #[.slice none 0 0, .slice none 0 0, .slice none 0 0, .slice none 0 0] 34) = V at *
 have hne := HW.some V
 have HVR : Hid (w.heap.size + 1 < V.heap.size) := R.lt
 have c0 := HW.at ((A.cell 0).trans (show _ = some _ from rfl))
 have c1 := HW.at ((A.cell 1).trans (show _ = some _ from rfl))
 have c2 := HW.at ((A.cell 2).trans (show _ = some _ from rfl))
 have c3 := HW.at ((A.cell 3).trans (show _ = some _ from rfl))
 clear A
 refine wp_region_pick [0, 1, 3, 4, 6, 7, 9, 10] 13 5 1 rfl rfl rfl (by kernel_rfl) (by kernel_rfl) (by kernel_rfl) (by kernel_rfl) ?_
 simp only [opsAt, List.getElem?_toArray, List.getElem?_cons_zero, List.getElem?_cons_succ]
 repeat (go_big_quiet_step (fail))
 refine wpQuiet_nil ?_
 clear c0 c1 c2 c3
 refine wpM_only (i := 2) (by kernel_rfl) ?_
 refine mOp_call rfl (by go_simp) 167 _ #[.slice p1 x.1.length q1] (fun w => by go_simp) rfl ?_
 rintro _ ⟨sg, rfl⟩
 refine (bytesClone_c p1 q1 x.1 _ (HR1.out.keep (Below.step BW sg.h)) HL1.out).mono ?_
 rintro e wg0 ⟨ua, rfl, Ka, hbx⟩
 obtain ⟨pa, qa, rfl, -⟩ := Ka.rd
 replace Ka := byt_ownK Ka
 have hbg := Below.step sg.h hbx
 refine ⟨_, rfl, ⟨⟨wg0, hbx⟩, rfl⟩, ?_⟩
 have I0 : Hid (∀ k, k ∈ (Value.slice pa x.1.length qa).ownBlock.toList → V.heap.size ≤ k ∧ k < wg0.heap.size) := fun k hk => ⟨Nat.le_trans sg.h.size (bytC.ins Ka k hk).1, (bytC.ins Ka k hk).2⟩
 have T0 : Hid (V.heap.size ≤ wg0.heap.size) := Nat.le_trans sg.h.size hbx.size
 replace Ka := bytC.low Ka (Below.step BW sg.h).size
 replace R := R.stay hbg
 replace BW := Below.step BW hbg
 replace hne := HW.some wg0
 clear hbg hbx sg
 refine wpM_only (i := 5) (by kernel_rfl) ?_
 refine mOp_call rfl (by go_simp) 167 _ #[.slice p2 x.2.1.length q2] (fun w => by go_simp) rfl ?_
 rintro _ ⟨sg, rfl⟩
 refine (bytesClone_c p2 q2 x.2.1 _ (HR2.out.keep (Below.step BW sg.h)) HL2.out).mono ?_
 rintro e wg1 ⟨ub, rfl, Kb, hbx⟩
 obtain ⟨pb, qb, rfl, -⟩ := Kb.rd
 replace Kb := byt_ownK Kb
 have hbg := Below.step sg.h hbx
 refine ⟨_, rfl, ⟨⟨wg1, hbx⟩, rfl⟩, ?_⟩
 have I1 : Hid (∀ k, k ∈ (Value.slice pb x.2.1.length qb).ownBlock.toList → wg0.heap.size ≤ k ∧ k < wg1.heap.size) := fun k hk => ⟨Nat.le_trans sg.h.size (bytC.ins Kb k hk).1, (bytC.ins Kb k hk).2⟩
 have T1 : Hid (wg0.heap.size ≤ wg1.heap.size) := Nat.le_trans sg.h.size hbx.size
 replace Kb := bytC.low Kb (Below.step BW sg.h).size
 replace R := R.stay hbg
 replace Ka := bytC.stay Ka hbg
 replace BW := Below.step BW hbg
 replace hne := HW.some wg1
 clear hbg hbx sg
 refine wpM_only (i := 8) (by kernel_rfl) ?_
 refine mOp_call rfl (by go_simp) 167 _ #[.slice p3 x.2.2.1.length q3] (fun w => by go_simp) rfl ?_
 rintro _ ⟨sg, rfl⟩
 refine (bytesClone_c p3 q3 x.2.2.1 _ (HR3.out.keep (Below.step BW sg.h)) HL3.out).mono ?_
 rintro e wg2 ⟨uc, rfl, Kc, hbx⟩
 obtain ⟨pc, qc, rfl, -⟩ := Kc.rd
 replace Kc := byt_ownK Kc
 have hbg := Below.step sg.h hbx
 refine ⟨_, rfl, ⟨⟨wg2, hbx⟩, rfl⟩, ?_⟩
 have I2 : Hid (∀ k, k ∈ (Value.slice pc x.2.2.1.length qc).ownBlock.toList → wg1.heap.size ≤ k ∧ k < wg2.heap.size) := fun k hk => ⟨Nat.le_trans sg.h.size (bytC.ins Kc k hk).1, (bytC.ins Kc k hk).2⟩
 have T2 : Hid (wg1.heap.size ≤ wg2.heap.size) := Nat.le_trans sg.h.size hbx.size
 replace Kc := bytC.low Kc (Below.step BW sg.h).size
 replace R := R.stay hbg
 replace Ka := bytC.stay Ka hbg
 replace Kb := bytC.stay Kb hbg
 replace BW := Below.step BW hbg
 replace hne := HW.some wg2
 clear hbg hbx sg
 refine wpM_only (i := 11) (by kernel_rfl) ?_
 refine mOp_call rfl (by go_simp) 167 _ #[.slice p4 x.2.2.2.length q4] (fun w => by go_simp) rfl ?_
 rintro _ ⟨sg, rfl⟩
 refine (bytesClone_c p4 q4 x.2.2.2 _ (HR4.out.keep (Below.step BW sg.h)) HL4.out).mono ?_
 rintro e wg3 ⟨ud, rfl, Kd, hbx⟩
 obtain ⟨pd, qd, rfl, -⟩ := Kd.rd
 replace Kd := byt_ownK Kd
 have hbg := Below.step sg.h hbx
 refine ⟨_, rfl, ⟨⟨wg3, hbx⟩, rfl⟩, ?_⟩
 have I3 : Hid (∀ k, k ∈ (Value.slice pd x.2.2.2.length qd).ownBlock.toList → wg2.heap.size ≤ k ∧ k < wg3.heap.size) := fun k hk => ⟨Nat.le_trans sg.h.size (bytC.ins Kd k hk).1, (bytC.ins Kd k hk).2⟩
 have T3 : Hid (wg2.heap.size ≤ wg3.heap.size) := Nat.le_trans sg.h.size hbx.size
 replace Kd := bytC.low Kd (Below.step BW sg.h).size
 replace R := R.stay hbg
 replace Ka := bytC.stay Ka hbg
 replace Kb := bytC.stay Kb hbg
 replace Kc := bytC.stay Kc hbg
 replace BW := Below.step BW hbg
 replace hne := HW.some wg3
 clear hbg hbx sg
 refine wpM_more [12] 1 0 rfl (by kernel_rfl) (by kernel_rfl) (by kernel_rfl) (by kernel_rfl) ?_
 simp only [opsAt, List.getElem?_toArray, List.getElem?_cons_zero, List.getElem?_cons_succ]
 go_simp
 repeat (go_big_quiet_step (fail))
 refine wpQuiet_nil ?_
 refine wpM_end (by kernel_rfl) rfl (by kernel_rfl) (by decide) ?_
 rintro _ ⟨sgz, rfl⟩
 simp only [List.drop_succ_cons, List.drop_zero]
 go_simp
 replace R := R.stay sgz.h
 replace Ka := bytC.stay Ka sgz.h
 replace Kb := bytC.stay Kb sgz.h
 replace Kc := bytC.stay Kc sgz.h
 replace Kd := bytC.stay Kd sgz.h
 replace BW := Below.step BW sgz.h
 clear hne
 generalize sgz.w = W at *
 clear sgz
 have hres : Hid ((Tryz.prog.info? 34).map (·.size) = some 4) := by show _ = _; kernel_rfl
 refine wpList_store_row rfl 34 (.tmp 2) (.tmp 15) rfl (w.heap.size + 1) #[.slice pa x.1.length qa, .slice pb x.2.1.length qb, .slice pc x.2.2.1.length qc, .slice pd x.2.2.2.length qd] rfl rfl 34 #[.slice none 0 0, .slice none 0 0, .slice none 0 0, .slice none 0 0] R hres.out rfl (by simp [Value.oneCell']) ?_
 go_wp2
 refine bodyPost_ret (v := .agg #[.slice pa x.1.length qa, .slice pb x.2.1.length qb, .slice pc x.2.2.1.length qc, .slice pd x.2.2.2.length qd]) (results_cell_row Tryz.results168 _ _ (w.heap.size + 1) 34 _ (0, 0) _ rfl (R.row [.slice pa x.1.length qa, .slice pb x.2.1.length qb, .slice pc x.2.2.1.length qc, .slice pd x.2.2.2.length qd]) Tryz.underlying34 rfl hres.out) rfl ⟨[.slice pa x.1.length qa, .slice pb x.2.1.length qb, .slice pc x.2.2.1.length qc, .slice pd x.2.2.2.length qd], _, rfl, own_apartK (a := x) (bytC.row Ka (fun k hk => by have := I0.out k hk; have := HVR.out; omega) _) (own_apartK (a := x.2) (bytC.row Kb (fun k hk => by have := I1.out k hk; have := HVR.out; have := T0.out; omega) _) (own_apartK (a := x.2.2) (bytC.row Kc (fun k hk => by have := I2.out k hk; have := HVR.out; have := T0.out; have := T1.out; omega) _) (bytC.row Kd (fun k hk => by have := I3.out k hk; have := HVR.out; have := T0.out; have := T1.out; have := T2.out; omega) _) (fun k h1 h2 => by have := I2.out k h1; have := I3.out k h2; have := T0.out; have := T1.out; have := T2.out; have := T3.out; omega)) (fun k h1 h2 => by
   have z0 := I1.out k h1
   simp only [List.mem_append] at h2
   rcases h2 with h3 | h3
   ·have := I2.out k h3; have := T0.out; have := T1.out; have := T2.out; omega
   ·have := I3.out k h3; have := T0.out; have := T1.out; have := T2.out; have := T3.out; omega)) (fun k h1 h2 => by
   have z0 := I0.out k h1
   simp only [List.mem_append] at h2
   rcases h2 with h3 | h3 | h3
   ·have := I1.out k h3; have := T0.out; have := T1.out; omega
   ·have := I2.out k h3; have := T0.out; have := T1.out; have := T2.out; omega
   ·have := I3.out k h3; have := T0.out; have := T1.out; have := T2.out; have := T3.out; omega), Below.row BW (by omega) _⟩
theorem bulkM_smallP {l : List MsgD} {k : Nat} {a : MsgD} (h : l[k]? = some a) (hl : bulkM l ≤ 1000000) : a.2.length ≤ 1000000 := Nat.le_trans (bulkM_at h) hl
set_option maxRecDepth 4000 in
set_option maxHeartbeats 2000000 in
theorem ownMsgs_c (l : List MsgD) (p : Option Addr) (q : Nat) (w : World) (hr : RdL msgC w p q l) (hl : bulkM l ≤ 1000000) :
  Calls Tryz.prog 166 #[.slice p l.length q] w fun e w' => ∃ v xs fp, e = .returned v ∧ OwnL 53 msgC w' w.heap.size v l xs fp ∧ Below w.heap.size w w' := by
 have HR : Hid (RdL msgC w p q l) := hr
 have hq1 : l.length ≤ q := hr.1
 have hq2 : q ≤ 2 ^ 63 - 1 := hr.2.1
 have HL : Hid (bulkM l ≤ 1000000) := hl
 have hln : (l.length : Int) ≤ 1000000 := by
  have : l.length ≤ bulkM l := Nat.le_add_left _ _
  omega
 have O1 := nil_ownM w w.heap.size
 clear hr hl
 go_enter Tryz.func166, Tryz.ntmps166
 go_wp2_with fail
 go_loopw [3, 8] (fun v i wr => ∃ (k : Nat) (xs : List Value) (fp : List Nat), k ≤ l.length ∧ i = .int .i64 k ∧ OwnL 53 msgC wr w.heap.size v (l.take k) xs fp ∧ Below w.heap.size w wr)
  (fun _ i _ => l.length - (intOf i).toNat)
 case atStart => exact ⟨0, [], [], Nat.zero_le _, rfl, O1, Below.refl _ _⟩
 case round =>
  clear O1
  obtain ⟨k, xs, fp, hk, rfl, ho, BW⟩ := hrel
  by_cases hlt : k < l.length
  ·have hI : (k : Int) < (l.length : Int) := by omega
   obtain ⟨b, o, e1, hc⟩ := (HR.out.keep BW).2.2.2 (by omega)
   subst e1
   obtain ⟨a, ha⟩ : ∃ a, l[k]? = some a := ⟨l[k], by simp [hlt]⟩
   obtain ⟨us, hrep, hcell⟩ := hc k a ha
   obtain ⟨pa, qa, rfl, ra⟩ := msg_rep hrep
   have m0 := hcell 0 _ rfl
   have m1 := hcell 1 _ rfl
   rw [show msgC.n = 2 from rfl] at m0 m1
   rw [Nat.add_zero] at m0
   have HTk : Hid (l.take (k + 1) = l.take k ++ [a]) := by show _ = _; rw [List.take_add_one, ha]; rfl
   have HA : Hid (a.2.length ≤ 1000000) := bulkM_smallP ha HL.out
   obtain ⟨out, HO⟩ : ∃ out, Hid (out = l.take k) := ⟨_, rfl⟩
   have hol : (out.length : Int) = (k : Int) := by rw [HO.out, List.length_take]; omega
   have HOL : Hid (out.length = k) := by show _ = _; omega
   rw [← HO.out] at ho
   obtain ⟨po, qo, rfl, hord⟩ := ho.rd
   have hqo2 : qo ≤ 2 ^ 63 - 1 := hord.2.1
   clear hc hcell hrep hord
   go_wp2_with fail
   have hal := alloc_below wr (.cells #[.int .i64 a.1, .slice pa a.2.length qa] 53)
   have N := Arr.new wr [.int .i64 a.1, .slice pa a.2.length qa] 53
   have hinsO : Hid (∀ j, j ∈ (Value.slice po out.length qo).ownBlock.toList ++ fp → j < wr.heap.size) := fun j hj => (ho.ins j hj).2
   have HRA : Hid (Rd (wr.alloc (.cells #[.int .i64 a.1, .slice pa a.2.length qa] 53)) pa qa a.2) := ra.keep hal
   have hzr : Hid (wr.heap.size ≤ (wr.alloc (.cells #[.int .i64 a.1, .slice pa a.2.length qa] 53)).heap.size) := hal.size
   replace ho := ho.stay hal
   replace BW := Below.step BW hal
   clear m0 m1 hal ra
   generalize eV : wr.alloc (.cells #[.int .i64 a.1, .slice pa a.2.length qa] 53) = V at *
   clear eV
   have hc0 := HW.at ((N.cell 0).trans (show _ = some _ from rfl))
   have hc1 := HW.at ((N.cell 1).trans (show _ = some _ from rfl))
   have hne := HW.some V
   refine wp_region_mix 5 3 2 rfl (by kernel_rfl) (by kernel_rfl) (by kernel_rfl) (by kernel_rfl) (by kernel_rfl) ?_
   simp only [List.take_succ_cons, List.take_zero]
   repeat (go_big_quiet_step (fail))
   refine wpQuiet_nil ?_
   refine wpM_call (k := 5) rfl (by kernel_rfl) (by kernel_rfl) (by go_simp) 167 _ #[.slice pa a.2.length qa] (fun w => by go_simp) rfl ?_
   rintro _ ⟨s1, rfl⟩
   refine (bytesClone_c pa qa a.2 _ (HRA.out.keep s1.h) HA.out).mono ?_
   rintro e w3 ⟨u3, rfl, k3, hb3⟩
   refine ⟨u3, rfl, ⟨⟨_, hb3⟩, rfl⟩, ?_⟩
   obtain ⟨pv, qv, rfl, -⟩ := k3.rd
   refine wpM_make (k := 6) rfl (by kernel_rfl) (by kernel_rfl) (by go_simp) ?_
   rintro _ ⟨s4, rfl⟩
   refine ⟨.agg #[.int .i64 a.1, .slice pv a.2.length qv], s4.w, by go_simp, ⟨⟨_, Below.refl _ _⟩, rfl⟩, ?_⟩
   refine wpM_make (k := 7) rfl (by kernel_rfl) (by kernel_rfl) (by go_simp) ?_
   rintro _ ⟨s5, rfl⟩
   refine ⟨.slice (some ⟨s5.w.heap.size, 0, none⟩) 1 1, s5.w.alloc (.cells #[.int .i64 a.1, .slice pv a.2.length qv] 53), by go_simp, ⟨⟨_, alloc_below _ _⟩, rfl⟩, ?_⟩
   refine wpM_tail rfl (by kernel_rfl) (by decide) ?_
   rintro _ ⟨s6, rfl⟩
   have hnew : ∀ j u, [Value.int .i64 a.1, .slice pv a.2.length qv][j]? = some u → s6.w.cell? ((⟨s5.w.heap.size, 0, none⟩ : Addr).add j) = some u := fun j u hj => cell_keep ((Arr.new s5.w [.int .i64 a.1, .slice pv a.2.length qv] 53).cells j u hj) s6.h
   have hb4 := Below.step (Below.step s4.h s5.h) (Below.step (alloc_below s5.w (.cells #[.int .i64 a.1, .slice pv a.2.length qv] 53)) s6.h)
   have k5 := k3.stay hb4
   have hb5 := Below.step (Below.step s1.h hb3) hb4
   have ho5 := ho.stay hb5
   have BW5 := Below.step BW hb5
   have hz4 : Hid (V.heap.size ≤ s1.w.heap.size) := s1.h.size
   have hrow5 : Hid (s6.w.ownsRow w.heap.size 53 2 (.slice po out.length qo) out.length xs) := ho5.row
   generalize s6.w = W at *
   generalize s5.w.heap.size = H5 at *
   generalize s1.w.heap.size = H1 at *
   clear hc0 hc1 hne
   simp only [List.drop_succ_cons, List.drop_zero]
   obtain ⟨i0, hi, hz0, hz1, hz2⟩ := info_parts infoMsg
   go_simp
   go_wp2_with (at_builtin; refine wpList_append_lies _ rfl (.tmp 12) (.tmp 19) 33 rfl w.heap.size 53 i0 (.agg #[.int .i64 0, .slice none 0 0]) 2 32 Tryz.underlying33 hi hz0 hz1 hz2 rfl (by decide) (.slice po out.length qo) out.length xs rfl hrow5.out ⟨H5, 0, none⟩ 1 1 [.int .i64 a.1, .slice pv a.2.length qv] rfl rfl hnew (by intro u hu; simp at hu; rcases hu with rfl | rfl <;> rfl) (by decide) (by unfold maxLen; omega) (by omega) BW5.size W.heap.size rfl ?_; intro g6 c6 w6 hown6 hgrow6 hat6 hlt6)
   have hlow : Hid (∀ j, (Value.slice pv a.2.length qv).ownBlock = some j → H1 ≤ j) := fun j hj => k5.ge j hj
   have ka := msg_own_mk (a := a) (k5.lower (B' := w.heap.size) (by have := hz4.out; have := BW.size; omega))
   have OP := ho5.push ka (fun j hj hj2 => by
    have h1 := hlow.out j (mem_opt.1 hj)
    have h2 := hinsO.out j hj2
    have h3 := hz4.out
    have h4 := hzr.out
    omega) (k := out.length + 1) (v' := .slice (some ⟨g6, 0, none⟩) (out.length + 1) c6) (g := g6) hown6 (by simp) hgrow6 rfl hat6
   have BW6 := BW5.grown hgrow6 BW5.size (fun k hk => (ho5.ins k (List.mem_append_left _ (mem_opt.2 hk))).1)
   rw [HO.out, ← HTk.out] at OP
   clear ho ho5 k3 k5 hown6 hgrow6 hat6 hnew hrow5 ka BW5 BW hb3 hb4 hb5 N
   go_wp2_with fail
   go_roundw
   case rel => exact ⟨k + 1, _, _, by omega, by go_num, by first | exact OP | (rw [← HO.out] at OP; exact OP), BW6⟩
   case measure => simp [intOf]; omega
  ·have e : k = l.length := by omega
   subst e
   rw [List.take_length] at ho
   obtain ⟨po, qo, rfl, -⟩ := ho.rd
   go_wp2_with fail
   go_ret
   exact ⟨_, _, _, rfl, ho, BW⟩
theorem ownMsgs_k (l : List MsgD) (u : Value) (w : World) (r : msgsC.rep w l [u]) (hl : bulkM l ≤ 1000000) :
  Calls Tryz.prog 166 #[u] w fun e w' => ∃ v fp, e = .returned v ∧ msgsC.own w' w.heap.size l [v] fp ∧ Below w.heap.size w w' := by
 obtain ⟨p, q, e, rr⟩ := r
 simp only [List.cons.injEq, and_true] at e
 subst e
 exact (ownMsgs_c l p q w rr hl).mono fun _ _ ⟨v, xs, fp, h1, h2, h3⟩ => ⟨v, _, h1, ⟨v, xs, fp, rfl, h2, rfl⟩, h3⟩
set_option maxRecDepth 4000 in
set_option maxHeartbeats 2000000 in
theorem ownEnd_k (e : EndD) (us : List Value) (w : World) (r : endC.rep w e us) (hl : endT e ≤ 1000000) :
  Calls Tryz.prog 139 #[.agg us.toArray] w fun x w' => ∃ us fp, x = .returned (.agg us.toArray) ∧ endC.own w' w.heap.size e us fp ∧ Below w.heap.size w w' := by
 obtain ⟨p1, q1, p2, q2, p3, q3, p4, q4, p5, q5, p6, q6, p7, q7, p8, q8, rfl, r1, r2, r3, r4, r5, r6, r7, r8⟩ := end_rep r
 clear r
 have HR1 : Hid (sideC.rep w e.1 [.int .i64 e.1.1, .slice p1 e.1.2.1.length q1, .int .i64 e.1.2.2.1, .slice p2 e.1.2.2.2.length q2]) := side_mk r1 r2
 have HR3 : Hid (RdL msgC w p3 q3 e.2.2.2.1) := r3
 have HR4 : Hid (Rd w p4 q4 e.2.2.2.2.1) := r4
 have HR5 : Hid (secretsC.rep w e.2.2.2.2.2 [.slice p5 e.2.2.2.2.2.1.length q5, .slice p6 e.2.2.2.2.2.2.1.length q6, .slice p7 e.2.2.2.2.2.2.2.1.length q7, .slice p8 e.2.2.2.2.2.2.2.2.length q8]) := secrets_mk r5 r6 r7 r8
 have HL1 : Hid (e.1.2.1.length ≤ 1000000 ∧ e.1.2.2.2.length ≤ 1000000) := by show _ ∧ _; unfold endT sideT at hl; omega
 have HL3 : Hid (bulkM e.2.2.2.1 ≤ 1000000) := by show _ ≤ _; unfold endT at hl; omega
 have HL4 : Hid (e.2.2.2.2.1.length ≤ 1000000) := by show _ ≤ _; unfold endT at hl; omega
 have HL5 : Hid (e.2.2.2.2.2.1.length ≤ 1000000 ∧ e.2.2.2.2.2.2.1.length ≤ 1000000 ∧ e.2.2.2.2.2.2.2.1.length ≤ 1000000 ∧ e.2.2.2.2.2.2.2.2.length ≤ 1000000) := by show _ ∧ _; unfold endT secretsT at hl; omega
 clear r1 r2 r3 r4 r5 r6 r7 r8 hl
 have BW := Below.mk (alloc_below w (.cells #[.int .i64 e.1.1, .slice p1 e.1.2.1.length q1, .int .i64 e.1.2.2.1, .slice p2 e.1.2.2.2.length q2, .int .i64 e.2.1, .int .i64 e.2.2.1, .slice p3 e.2.2.2.1.length q3, .slice p4 e.2.2.2.2.1.length q4, .slice p5 e.2.2.2.2.2.1.length q5, .slice p6 e.2.2.2.2.2.2.1.length q6, .slice p7 e.2.2.2.2.2.2.2.1.length q7, .slice p8 e.2.2.2.2.2.2.2.2.length q8] 36)) (.cells #[.int .i64 0, .slice none 0 0, .int .i64 0, .slice none 0 0, .int .i64 0, .int .i64 0, .slice none 0 0, .slice none 0 0, .slice none 0 0, .slice none 0 0, .slice none 0 0, .slice none 0 0] 36)
 have A := (Arr.new w [.int .i64 e.1.1, .slice p1 e.1.2.1.length q1, .int .i64 e.1.2.2.1, .slice p2 e.1.2.2.2.length q2, .int .i64 e.2.1, .int .i64 e.2.2.1, .slice p3 e.2.2.2.1.length q3, .slice p4 e.2.2.2.2.1.length q4, .slice p5 e.2.2.2.2.2.1.length q5, .slice p6 e.2.2.2.2.2.2.1.length q6, .slice p7 e.2.2.2.2.2.2.2.1.length q7, .slice p8 e.2.2.2.2.2.2.2.2.length q8] 36).old _ (.cells #[.int .i64 0, .slice none 0 0, .int .i64 0, .slice none 0 0, .int .i64 0, .int .i64 0, .slice none 0 0, .slice none 0 0, .slice none 0 0, .slice none 0 0, .slice none 0 0, .slice none 0 0] 36)
 have R := Arr.new (w.alloc (.cells #[.int .i64 e.1.1, .slice p1 e.1.2.1.length q1, .int .i64 e.1.2.2.1, .slice p2 e.1.2.2.2.length q2, .int .i64 e.2.1, .int .i64 e.2.2.1, .slice p3 e.2.2.2.1.length q3, .slice p4 e.2.2.2.2.1.length q4, .slice p5 e.2.2.2.2.2.1.length q5, .slice p6 e.2.2.2.2.2.2.1.length q6, .slice p7 e.2.2.2.2.2.2.2.1.length q7, .slice p8 e.2.2.2.2.2.2.2.2.length q8] 36)) [.int .i64 0, .slice none 0 0, .int .i64 0, .slice none 0 0, .int .i64 0, .int .i64 0, .slice none 0 0, .slice none 0 0, .slice none 0 0, .slice none 0 0, .slice none 0 0, .slice none 0 0] 36
 rw [size_alloc] at R
 go_enter Tryz.func139, Tryz.ntmps139
 go_wp2_with fail
 generalize (w.alloc (.cells #[.int .i64 e.1.1, .slice p1 e.1.2.1.length q1, .int .i64 e.1.2.2.1, .slice p2 e.1.2.2.2.length q2, .int .i64 e.2.1, .int .i64 e.2.2.1, .slice p3 e.2.2.2.1.length q3, .slice p4 e.2.2.2.2.1.length q4, .slice p5 e.2.2.2.2.2.1.length q5, .slice p6 e.2.2.2.2.2.2.1.length q6, .slice p7 e.2.2.2.2.2.2.2.1.length q7, .slice p8 e.2.2.2.2.2.2.2.2.length q8] 36)).alloc (.cells #[.int .i64 0, .slice none 0 0, .int .i64 0, .slice none 0 0, .int .i64 0, .int .i64 0, .slice none 0 0, .slice none 0 0, .slice none 0 0, .slice none 0 0, .slice none 0 0, .slice none 0 0] 36) = V at *
 have hne := HW.some V
 have HVR : Hid (w.heap.size + 1 < V.heap.size) := R.lt
 have c0 := HW.at ((A.cell 0).trans (show _ = some _ from rfl))
 have c1 := HW.at ((A.cell 1).trans (show _ = some _ from rfl))
 have c2 := HW.at ((A.cell 2).trans (show _ = some _ from rfl))
 have c3 := HW.at ((A.cell 3).trans (show _ = some _ from rfl))
 have c4 := HW.at ((A.cell 4).trans (show _ = some _ from rfl))
 have c5 := HW.at ((A.cell 5).trans (show _ = some _ from rfl))
 have c6 := HW.at ((A.cell 6).trans (show _ = some _ from rfl))
 have c7 := HW.at ((A.cell 7).trans (show _ = some _ from rfl))
 have c8 := HW.at ((A.cell 8).trans (show _ = some _ from rfl))
 have c9 := HW.at ((A.cell 9).trans (show _ = some _ from rfl))
 have c10 := HW.at ((A.cell 10).trans (show _ = some _ from rfl))
 have c11 := HW.at ((A.cell 11).trans (show _ = some _ from rfl))
 clear A
 refine wp_region_pick [0, 1, 3, 4, 5, 6, 7, 8, 10, 11, 13, 14] 17 5 1 rfl rfl rfl (by kernel_rfl) (by kernel_rfl) (by kernel_rfl) (by kernel_rfl) ?_
 simp only [opsAt, List.getElem?_toArray, List.getElem?_cons_zero, List.getElem?_cons_succ]
 repeat (go_big_quiet_step (fail))
 refine wpQuiet_nil ?_
 clear c0 c1 c2 c3 c4 c5 c6 c7 c8 c9 c10 c11
 refine wpM_only (i := 2) (by kernel_rfl) ?_
 refine mOp_call rfl (by go_simp) 165 _ #[.agg #[.int .i64 e.1.1, .slice p1 e.1.2.1.length q1, .int .i64 e.1.2.2.1, .slice p2 e.1.2.2.2.length q2]] (fun w => by go_simp) rfl ?_
 rintro _ ⟨sg, rfl⟩
 refine (ownSide_k e.1 _ _ (sideC.keep HR1.out (Below.step BW sg.h)) HL1.out.1 HL1.out.2).mono ?_
 rintro e wg0 ⟨us1, f1, rfl, Ka, hbx⟩
 obtain ⟨s1, t1, s2, t2, rfl, -, -⟩ := side_rep (sideC.toRep Ka)
 have hbg := Below.step sg.h hbx
 refine ⟨_, rfl, ⟨⟨wg0, hbx⟩, rfl⟩, ?_⟩
 have I0 : Hid (∀ k, k ∈ f1 → V.heap.size ≤ k ∧ k < wg0.heap.size) := fun k hk => ⟨Nat.le_trans sg.h.size (sideC.ins Ka k hk).1, (sideC.ins Ka k hk).2⟩
 have T0 : Hid (V.heap.size ≤ wg0.heap.size) := Nat.le_trans sg.h.size hbx.size
 replace Ka := sideC.low Ka (Below.step BW sg.h).size
 replace R := R.stay hbg
 replace BW := Below.step BW hbg
 replace hne := HW.some wg0
 clear hbg hbx sg
 refine wpM_only (i := 9) (by kernel_rfl) ?_
 refine mOp_call rfl (by go_simp) 166 _ #[.slice p3 e.2.2.2.1.length q3] (fun w => by go_simp) rfl ?_
 rintro _ ⟨sg, rfl⟩
 refine (ownMsgs_k e.2.2.2.1 _ _ ⟨p3, q3, rfl, HR3.out.keep (Below.step BW sg.h)⟩ HL3.out).mono ?_
 rintro e wg1 ⟨v3, f3, rfl, Kb, hbx⟩
 obtain ⟨s3, t3, e3, -⟩ := msgsC.toRep Kb
 simp only [List.cons.injEq, and_true] at e3
 subst e3
 have hbg := Below.step sg.h hbx
 refine ⟨_, rfl, ⟨⟨wg1, hbx⟩, rfl⟩, ?_⟩
 have I1 : Hid (∀ k, k ∈ f3 → wg0.heap.size ≤ k ∧ k < wg1.heap.size) := fun k hk => ⟨Nat.le_trans sg.h.size (msgsC.ins Kb k hk).1, (msgsC.ins Kb k hk).2⟩
 have T1 : Hid (wg0.heap.size ≤ wg1.heap.size) := Nat.le_trans sg.h.size hbx.size
 replace Kb := msgsC.low Kb (Below.step BW sg.h).size
 replace R := R.stay hbg
 replace Ka := sideC.stay Ka hbg
 replace BW := Below.step BW hbg
 replace hne := HW.some wg1
 clear hbg hbx sg
 refine wpM_only (i := 12) (by kernel_rfl) ?_
 refine mOp_call rfl (by go_simp) 167 _ #[.slice p4 e.2.2.2.2.1.length q4] (fun w => by go_simp) rfl ?_
 rintro _ ⟨sg, rfl⟩
 refine (bytesClone_c p4 q4 e.2.2.2.2.1 _ (HR4.out.keep (Below.step BW sg.h)) HL4.out).mono ?_
 rintro e wg2 ⟨u4, rfl, Kc, hbx⟩
 obtain ⟨s4, t4, rfl, -⟩ := Kc.rd
 replace Kc := byt_ownK Kc
 have hbg := Below.step sg.h hbx
 refine ⟨_, rfl, ⟨⟨wg2, hbx⟩, rfl⟩, ?_⟩
 have I2 : Hid (∀ k, k ∈ (Value.slice s4 e.2.2.2.2.1.length t4).ownBlock.toList → wg1.heap.size ≤ k ∧ k < wg2.heap.size) := fun k hk => ⟨Nat.le_trans sg.h.size (bytC.ins Kc k hk).1, (bytC.ins Kc k hk).2⟩
 have T2 : Hid (wg1.heap.size ≤ wg2.heap.size) := Nat.le_trans sg.h.size hbx.size
 replace Kc := bytC.low Kc (Below.step BW sg.h).size
 replace R := R.stay hbg
 replace Ka := sideC.stay Ka hbg
 replace Kb := msgsC.stay Kb hbg
 replace BW := Below.step BW hbg
 replace hne := HW.some wg2
 clear hbg hbx sg
 refine wpM_only (i := 15) (by kernel_rfl) ?_
 refine mOp_call rfl (by go_simp) 168 _ #[.agg #[.slice p5 e.2.2.2.2.2.1.length q5, .slice p6 e.2.2.2.2.2.2.1.length q6, .slice p7 e.2.2.2.2.2.2.2.1.length q7, .slice p8 e.2.2.2.2.2.2.2.2.length q8]] (fun w => by go_simp) rfl ?_
 rintro _ ⟨sg, rfl⟩
 refine (ownSecrets_k e.2.2.2.2.2 _ _ (secretsC.keep HR5.out (Below.step BW sg.h)) HL5.out.1 HL5.out.2.1 HL5.out.2.2.1 HL5.out.2.2.2).mono ?_
 rintro e wg3 ⟨us5, f5, rfl, Kd, hbx⟩
 obtain ⟨s5, t5, s6, t6, s7, t7, s8, t8, rfl, -, -, -, -⟩ := secrets_rep (secretsC.toRep Kd)
 have hbg := Below.step sg.h hbx
 refine ⟨_, rfl, ⟨⟨wg3, hbx⟩, rfl⟩, ?_⟩
 have I3 : Hid (∀ k, k ∈ f5 → wg2.heap.size ≤ k ∧ k < wg3.heap.size) := fun k hk => ⟨Nat.le_trans sg.h.size (secretsC.ins Kd k hk).1, (secretsC.ins Kd k hk).2⟩
 have T3 : Hid (wg2.heap.size ≤ wg3.heap.size) := Nat.le_trans sg.h.size hbx.size
 replace Kd := secretsC.low Kd (Below.step BW sg.h).size
 replace R := R.stay hbg
 replace Ka := sideC.stay Ka hbg
 replace Kb := msgsC.stay Kb hbg
 replace Kc := bytC.stay Kc hbg
 replace BW := Below.step BW hbg
 replace hne := HW.some wg3
 clear hbg hbx sg
 refine wpM_more [16] 1 0 rfl (by kernel_rfl) (by kernel_rfl) (by kernel_rfl) (by kernel_rfl) ?_
 simp only [opsAt, List.getElem?_toArray, List.getElem?_cons_zero, List.getElem?_cons_succ]
 go_simp
 repeat (go_big_quiet_step (fail))
 refine wpQuiet_nil ?_
 refine wpM_end (by kernel_rfl) rfl (by kernel_rfl) (by decide) ?_
 rintro _ ⟨sgz, rfl⟩
 simp only [List.drop_succ_cons, List.drop_zero]
 go_simp
 replace R := R.stay sgz.h
 replace Ka := sideC.stay Ka sgz.h
 replace Kb := msgsC.stay Kb sgz.h
 replace Kc := bytC.stay Kc sgz.h
 replace Kd := secretsC.stay Kd sgz.h
 replace BW := Below.step BW sgz.h
 clear hne
 generalize sgz.w = W at *
 clear sgz
 have hres : Hid ((Tryz.prog.info? 36).map (·.size) = some 12) := by show _ = _; kernel_rfl
 refine wpList_store_row rfl 36 (.tmp 2) (.tmp 19) rfl (w.heap.size + 1) #[.int .i64 e.1.1, .slice s1 e.1.2.1.length t1, .int .i64 e.1.2.2.1, .slice s2 e.1.2.2.2.length t2, .int .i64 e.2.1, .int .i64 e.2.2.1, .slice s3 e.2.2.2.1.length t3, .slice s4 e.2.2.2.2.1.length t4, .slice s5 e.2.2.2.2.2.1.length t5, .slice s6 e.2.2.2.2.2.2.1.length t6, .slice s7 e.2.2.2.2.2.2.2.1.length t7, .slice s8 e.2.2.2.2.2.2.2.2.length t8] rfl rfl 36 #[.int .i64 0, .slice none 0 0, .int .i64 0, .slice none 0 0, .int .i64 0, .int .i64 0, .slice none 0 0, .slice none 0 0, .slice none 0 0, .slice none 0 0, .slice none 0 0, .slice none 0 0] R hres.out rfl (by simp [Value.oneCell']) ?_
 go_wp2
 refine bodyPost_ret (v := .agg #[.int .i64 e.1.1, .slice s1 e.1.2.1.length t1, .int .i64 e.1.2.2.1, .slice s2 e.1.2.2.2.length t2, .int .i64 e.2.1, .int .i64 e.2.2.1, .slice s3 e.2.2.2.1.length t3, .slice s4 e.2.2.2.2.1.length t4, .slice s5 e.2.2.2.2.2.1.length t5, .slice s6 e.2.2.2.2.2.2.1.length t6, .slice s7 e.2.2.2.2.2.2.2.1.length t7, .slice s8 e.2.2.2.2.2.2.2.2.length t8]) (results_cell_row Tryz.results139 _ _ (w.heap.size + 1) 36 _ (0, 0) _ rfl (R.row [.int .i64 e.1.1, .slice s1 e.1.2.1.length t1, .int .i64 e.1.2.2.1, .slice s2 e.1.2.2.2.length t2, .int .i64 e.2.1, .int .i64 e.2.2.1, .slice s3 e.2.2.2.1.length t3, .slice s4 e.2.2.2.2.1.length t4, .slice s5 e.2.2.2.2.2.1.length t5, .slice s6 e.2.2.2.2.2.2.1.length t6, .slice s7 e.2.2.2.2.2.2.2.1.length t7, .slice s8 e.2.2.2.2.2.2.2.2.length t8]) Tryz.underlying36 rfl hres.out) rfl ⟨[.int .i64 e.1.1, .slice s1 e.1.2.1.length t1, .int .i64 e.1.2.2.1, .slice s2 e.1.2.2.2.length t2, .int .i64 e.2.1, .int .i64 e.2.2.1, .slice s3 e.2.2.2.1.length t3, .slice s4 e.2.2.2.2.1.length t4, .slice s5 e.2.2.2.2.2.1.length t5, .slice s6 e.2.2.2.2.2.2.1.length t6, .slice s7 e.2.2.2.2.2.2.2.1.length t7, .slice s8 e.2.2.2.2.2.2.2.2.length t8], _, rfl, end_of (e := e) (sideC.row Ka (fun k hk => by have := I0.out k hk; have := HVR.out; omega) _) (msgsC.row Kb (fun k hk => by have := I1.out k hk; have := HVR.out; have := T0.out; omega) _) (bytC.row Kc (fun k hk => by have := I2.out k hk; have := HVR.out; have := T0.out; have := T1.out; omega) _) (secretsC.row Kd (fun k hk => by have := I3.out k hk; have := HVR.out; have := T0.out; have := T1.out; have := T2.out; omega) _) (fun k h1 h2 => by have := I0.out k h1; have := I1.out k h2; have := T0.out; have := T1.out; omega) (fun k h1 h2 => by have := I0.out k h1; have := I2.out k h2; have := T0.out; have := T1.out; have := T2.out; omega) (fun k h1 h2 => by have := I0.out k h1; have := I3.out k h2; have := T0.out; have := T1.out; have := T2.out; have := T3.out; omega) (fun k h1 h2 => by have := I1.out k h1; have := I2.out k h2; have := T0.out; have := T1.out; have := T2.out; omega) (fun k h1 h2 => by have := I1.out k h1; have := I3.out k h2; have := T0.out; have := T1.out; have := T2.out; have := T3.out; omega) (fun k h1 h2 => by have := I2.out k h1; have := I3.out k h2; have := T0.out; have := T1.out; have := T2.out; have := T3.out; omega), Below.row BW (by omega) _⟩
end Go.Proofs.YtiabacnmmojfjabGreatDoor
