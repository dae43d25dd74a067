import Derived.Test.YtiabacnmmojfjabGreatDoorShkB
import Derived.Test.YtiabacnmmojfjabGreatDoorJoint25
import Derived.Defers
import Derived.Recover
import Derived.WalkLawsBesides
import Derived.Deep.RegionLaw
namespace Go.Proofs.YtiabacnmmojfjabGreatDoor
open Go.ChangeShapes Go.WideShapes Go.ChangeAt Go.RowKit
def refV (c : Int) : List PanicEntry := [{ v := .iface 118 (.int .i64 c), recovered := false }]
theorem refuse_ok (w : World) : Calls Tryz.prog 97 #[.int .i64 0] w fun e w' => e = .returned (.tuple #[]) ∧ w' = w := by
 go_enter Tryz.func97, Tryz.ntmps97
 go_wp2
 go_end0
 exact ⟨rfl, rfl⟩
theorem refuse_bad (c : Int) (w : World) (hc : ¬ c = 0) : Calls Tryz.prog 97 #[.int .i64 c] w fun e w' => e = .panicked (refV c) ∧ w' = w := by
 have hd : (c != 0) = true := by rw [bne_iff_ne]; exact hc
 clear hc
 go_enter Tryz.func97, Tryz.ntmps97
 go_wp2
 exact ⟨rfl, rfl, rfl⟩
theorem refuseIf_ok (c : Int) (w : World) : Calls Tryz.prog 99 #[.bool false, .int .i64 c] w fun e w' => e = .returned (.tuple #[]) ∧ w' = w := by
 go_enter Tryz.func99, Tryz.ntmps99
 go_wp2
 go_end0
 exact ⟨rfl, rfl⟩
theorem refuseIf_bad (c : Int) (w : World) (hc : ¬ c = 0) : Calls Tryz.prog 99 #[.bool true, .int .i64 c] w fun e w' => e = .panicked (refV c) ∧ w' = w := by
 go_enter Tryz.func99, Tryz.ntmps99
 go_wp2_with fail
 refine (refuse_bad c w hc).mono ?_
 rintro e w' ⟨rfl, rfl⟩
 exact ⟨rfl, rfl, rfl⟩
set_option maxRecDepth 4000 in
set_option maxHeartbeats 2000000 in
theorem told_c (w0 : World) (b : Nat) (w : World) (t : ShkD) (h : Shk w0 b w t) (hl : endT t.e ≤ 1000000) :
  Calls Tryz.prog 96 #[.pointer (some ⟨b, 0, none⟩)] w fun x w' => ∃ us fp, x = .returned (.agg us.toArray) ∧ endResultC.own w' w0.heap.size (0, t.e, t.send) us fp ∧ Below w.heap.size w w' := by
 have HL : Hid (endT t.e ≤ 1000000) := hl
 have BW := alloc_below w (.cells #[.int .i64 0, .int .i64 0, .slice none 0 0, .int .i64 0, .slice none 0 0, .int .i64 0, .int .i64 0, .slice none 0 0, .slice none 0 0, .slice none 0 0, .slice none 0 0, .slice none 0 0, .slice none 0 0, .slice none 0 0] 38)
 have R := Arr.new w [.int .i64 0, .int .i64 0, .slice none 0 0, .int .i64 0, .slice none 0 0, .int .i64 0, .int .i64 0, .slice none 0 0, .slice none 0 0, .slice none 0 0, .slice none 0 0, .slice none 0 0, .slice none 0 0, .slice none 0 0] 38
 have HZ : Hid (w0.heap.size ≤ w.heap.size) := h.only.size
 clear hl
 obtain ⟨us, vh, vs, ho, vk, xs, f, HB, RE, RH, RO, RK⟩ := h
 obtain ⟨p1, q1, p2, q2, p3, q3, p4, q4, p5, q5, p6, q6, p7, q7, p8, q8, rfl, r1, r2, r3, r4, r5, r6, r7, r8⟩ := end_rep RE
 obtain ⟨ph, qh, eh, rh⟩ := RH
 obtain ⟨po, qo, rfl, ro⟩ := hello_rep RO
 obtain ⟨pk, qk, ek, rk⟩ := RK
 obtain ⟨pn, qn, en, -⟩ := HB.own.rd
 simp only [List.cons.injEq, and_true] at eh ek
 subst eh ek en
 simp only [List.cons_append, List.nil_append] at HB
 have A := HB.arr
 have HI : Hid (∀ k, k ∈ (Value.slice pn t.send.length qn).ownBlock.toList ++ f → k < w.heap.size) := fun k hk => (HB.own.ins k hk).2
 have HRE : Hid (endC.rep (blank (hide b (.slice pn t.send.length qn)) w) t.e [.int .i64 t.e.1.1, .slice p1 t.e.1.2.1.length q1, .int .i64 t.e.1.2.2.1, .slice p2 t.e.1.2.2.2.length q2, .int .i64 t.e.2.1, .int .i64 t.e.2.2.1, .slice p3 t.e.2.2.2.1.length q3, .slice p4 t.e.2.2.2.2.1.length q4, .slice p5 t.e.2.2.2.2.2.1.length q5, .slice p6 t.e.2.2.2.2.2.2.1.length q6, .slice p7 t.e.2.2.2.2.2.2.2.1.length q7, .slice p8 t.e.2.2.2.2.2.2.2.2.length q8]) := end_mk r1 r2 r3 r4 r5 r6 r7 r8
 clear r1 r2 r3 r4 r5 r6 r7 r8 rh ro rk RE RO A
 replace HB := HB.stay BW
 have HRV : Hid (endC.rep (w.alloc (.cells #[.int .i64 0, .int .i64 0, .slice none 0 0, .int .i64 0, .slice none 0 0, .int .i64 0, .int .i64 0, .slice none 0 0, .slice none 0 0, .slice none 0 0, .slice none 0 0, .slice none 0 0, .slice none 0 0, .slice none 0 0] 38)) t.e [.int .i64 t.e.1.1, .slice p1 t.e.1.2.1.length q1, .int .i64 t.e.1.2.2.1, .slice p2 t.e.1.2.2.2.length q2, .int .i64 t.e.2.1, .int .i64 t.e.2.2.1, .slice p3 t.e.2.2.2.1.length q3, .slice p4 t.e.2.2.2.2.1.length q4, .slice p5 t.e.2.2.2.2.2.1.length q5, .slice p6 t.e.2.2.2.2.2.2.1.length q6, .slice p7 t.e.2.2.2.2.2.2.2.1.length q7, .slice p8 t.e.2.2.2.2.2.2.2.2.length q8]) := endC.keep (endC_mono (blank_le _ _) HRE.out) BW
 go_enter Tryz.func96, Tryz.ntmps96
 go_wp2_with fail
 have HVZ : Hid (w.heap.size < (w.alloc (.cells #[.int .i64 0, .int .i64 0, .slice none 0 0, .int .i64 0, .slice none 0 0, .int .i64 0, .int .i64 0, .slice none 0 0, .slice none 0 0, .slice none 0 0, .slice none 0 0, .slice none 0 0, .slice none 0 0, .slice none 0 0] 38)).heap.size) := R.lt
 generalize w.alloc (.cells #[.int .i64 0, .int .i64 0, .slice none 0 0, .int .i64 0, .slice none 0 0, .int .i64 0, .int .i64 0, .slice none 0 0, .slice none 0 0, .slice none 0 0, .slice none 0 0, .slice none 0 0, .slice none 0 0, .slice none 0 0] 38) = V at *
 have hne := HW.some V
 have c0 := HW.at ((HB.arr.cell 0).trans (show _ = some _ from rfl))
 have c1 := HW.at ((HB.arr.cell 1).trans (show _ = some _ from rfl))
 have c2 := HW.at ((HB.arr.cell 2).trans (show _ = some _ from rfl))
 have c3 := HW.at ((HB.arr.cell 3).trans (show _ = some _ from rfl))
 have c4 := HW.at ((HB.arr.cell 4).trans (show _ = some _ from rfl))
 have c5 := HW.at ((HB.arr.cell 5).trans (show _ = some _ from rfl))
 have c6 := HW.at ((HB.arr.cell 6).trans (show _ = some _ from rfl))
 have c7 := HW.at ((HB.arr.cell 7).trans (show _ = some _ from rfl))
 have c8 := HW.at ((HB.arr.cell 8).trans (show _ = some _ from rfl))
 have c9 := HW.at ((HB.arr.cell 9).trans (show _ = some _ from rfl))
 have c10 := HW.at ((HB.arr.cell 10).trans (show _ = some _ from rfl))
 have c11 := HW.at ((HB.arr.cell 11).trans (show _ = some _ from rfl))
 have c13 := HW.at ((HB.arr.cell 13).trans (show _ = some _ from rfl))
 have BV := Below.refl V.heap.size V
 refine wp_region_pick [0, 1, 2, 3, 5, 6, 7, 8] 10 2 1 rfl rfl rfl (by kernel_rfl) (by kernel_rfl) (by kernel_rfl) (by kernel_rfl) ?_
 simp only [opsAt, List.getElem?_toArray, List.getElem?_cons_zero, List.getElem?_cons_succ]
 repeat (go_big_quiet_step (fail))
 refine wpQuiet_nil ?_
 clear c0 c1 c2 c3 c4 c5 c6 c7 c8 c9 c10 c11 c13
 refine wpM_only (i := 4) (by kernel_rfl) ?_
 refine mOp_call rfl (by go_simp) 139 _ #[.agg #[.int .i64 t.e.1.1, .slice p1 t.e.1.2.1.length q1, .int .i64 t.e.1.2.2.1, .slice p2 t.e.1.2.2.2.length q2, .int .i64 t.e.2.1, .int .i64 t.e.2.2.1, .slice p3 t.e.2.2.2.1.length q3, .slice p4 t.e.2.2.2.2.1.length q4, .slice p5 t.e.2.2.2.2.2.1.length q5, .slice p6 t.e.2.2.2.2.2.2.1.length q6, .slice p7 t.e.2.2.2.2.2.2.2.1.length q7, .slice p8 t.e.2.2.2.2.2.2.2.2.length q8]] (fun w => by go_simp) rfl ?_
 rintro _ ⟨sg, rfl⟩
 refine (ownEnd_k t.e _ _ (endC.keep HRV.out (Below.step BV sg.h)) HL.out).mono ?_
 rintro e wg0 ⟨us1, f1, rfl, Ke, hbx⟩
 obtain ⟨s1, y1, s2, y2, s3, y3, s4, y4, s5, y5, s6, y6, s7, y7, s8, y8, rfl, -, -, -, -, -, -, -, -⟩ := end_rep (endC.toRep Ke)
 have hbg := Below.step sg.h hbx
 refine ⟨_, rfl, ⟨⟨wg0, hbx⟩, rfl⟩, ?_⟩
 have I0 : Hid (∀ k, k ∈ f1 → V.heap.size ≤ k ∧ k < wg0.heap.size) := fun k hk => ⟨Nat.le_trans sg.h.size (endC.ins Ke k hk).1, (endC.ins Ke k hk).2⟩
 have T0 : Hid (V.heap.size ≤ wg0.heap.size) := Nat.le_trans sg.h.size hbx.size
 replace Ke := endC.low Ke (Below.step BV sg.h).size
 replace R := R.stay hbg
 replace HB := HB.stay hbg
 replace BV := Below.step BV hbg
 replace hne := HW.some wg0
 clear hbg hbx sg
 refine wpM_more [9] 1 0 rfl (by kernel_rfl) (by kernel_rfl) (by kernel_rfl) (by kernel_rfl) ?_
 simp only [opsAt, List.getElem?_toArray, List.getElem?_cons_zero, List.getElem?_cons_succ]
 go_simp
 repeat (go_big_quiet_step (fail))
 refine wpQuiet_nil ?_
 refine wpM_end (by kernel_rfl) rfl (by kernel_rfl) (by decide) ?_
 rintro _ ⟨sgz, rfl⟩
 simp only [List.drop_succ_cons, List.drop_zero]
 go_simp
 replace R := R.stay sgz.h
 replace HB := HB.stay sgz.h
 replace Ke := endC.stay Ke sgz.h
 replace BV := Below.step BV sgz.h
 clear hne
 generalize sgz.w = W at *
 clear sgz
 have BZ := Below.step BW BV
 have hres : Hid ((Tryz.prog.info? 38).map (·.size) = some 14) := by show _ = _; kernel_rfl
 refine wpList_store_row rfl 38 (.tmp 2) (.tmp 12) rfl w.heap.size #[.int .i64 0, .int .i64 t.e.1.1, .slice s1 t.e.1.2.1.length y1, .int .i64 t.e.1.2.2.1, .slice s2 t.e.1.2.2.2.length y2, .int .i64 t.e.2.1, .int .i64 t.e.2.2.1, .slice s3 t.e.2.2.2.1.length y3, .slice s4 t.e.2.2.2.2.1.length y4, .slice s5 t.e.2.2.2.2.2.1.length y5, .slice s6 t.e.2.2.2.2.2.2.1.length y6, .slice s7 t.e.2.2.2.2.2.2.2.1.length y7, .slice s8 t.e.2.2.2.2.2.2.2.2.length y8, .slice pn t.send.length qn] rfl rfl 38 #[.int .i64 0, .int .i64 0, .slice none 0 0, .int .i64 0, .slice none 0 0, .int .i64 0, .int .i64 0, .slice none 0 0, .slice none 0 0, .slice none 0 0, .slice none 0 0, .slice none 0 0, .slice none 0 0, .slice none 0 0] R hres.out rfl (by simp [Value.oneCell']) ?_
 go_wp2
 have KS : OwnL 53 msgC (W.setRow w.heap.size #[.int .i64 0, .int .i64 t.e.1.1, .slice s1 t.e.1.2.1.length y1, .int .i64 t.e.1.2.2.1, .slice s2 t.e.1.2.2.2.length y2, .int .i64 t.e.2.1, .int .i64 t.e.2.2.1, .slice s3 t.e.2.2.2.1.length y3, .slice s4 t.e.2.2.2.2.1.length y4, .slice s5 t.e.2.2.2.2.2.1.length y5, .slice s6 t.e.2.2.2.2.2.2.1.length y6, .slice s7 t.e.2.2.2.2.2.2.2.1.length y7, .slice s8 t.e.2.2.2.2.2.2.2.2.length y8, .slice pn t.send.length qn]) w0.heap.size (.slice pn t.send.length qn) t.send xs f := HB.own.fr fun k hk => setRow_other W w.heap.size k _ (by have := HI.out k hk; omega)
 refine bodyPost_ret (v := .agg #[.int .i64 0, .int .i64 t.e.1.1, .slice s1 t.e.1.2.1.length y1, .int .i64 t.e.1.2.2.1, .slice s2 t.e.1.2.2.2.length y2, .int .i64 t.e.2.1, .int .i64 t.e.2.2.1, .slice s3 t.e.2.2.2.1.length y3, .slice s4 t.e.2.2.2.2.1.length y4, .slice s5 t.e.2.2.2.2.2.1.length y5, .slice s6 t.e.2.2.2.2.2.2.1.length y6, .slice s7 t.e.2.2.2.2.2.2.2.1.length y7, .slice s8 t.e.2.2.2.2.2.2.2.2.length y8, .slice pn t.send.length qn]) (results_cell_row Tryz.results96 _ _ w.heap.size 38 _ (0, 0) _ rfl (R.row [.int .i64 0, .int .i64 t.e.1.1, .slice s1 t.e.1.2.1.length y1, .int .i64 t.e.1.2.2.1, .slice s2 t.e.1.2.2.2.length y2, .int .i64 t.e.2.1, .int .i64 t.e.2.2.1, .slice s3 t.e.2.2.2.1.length y3, .slice s4 t.e.2.2.2.2.1.length y4, .slice s5 t.e.2.2.2.2.2.1.length y5, .slice s6 t.e.2.2.2.2.2.2.1.length y6, .slice s7 t.e.2.2.2.2.2.2.2.1.length y7, .slice s8 t.e.2.2.2.2.2.2.2.2.length y8, .slice pn t.send.length qn]) Tryz.underlying38 rfl hres.out) rfl ⟨[.int .i64 0, .int .i64 t.e.1.1, .slice s1 t.e.1.2.1.length y1, .int .i64 t.e.1.2.2.1, .slice s2 t.e.1.2.2.2.length y2, .int .i64 t.e.2.1, .int .i64 t.e.2.2.1, .slice s3 t.e.2.2.2.1.length y3, .slice s4 t.e.2.2.2.2.1.length y4, .slice s5 t.e.2.2.2.2.2.1.length y5, .slice s6 t.e.2.2.2.2.2.2.1.length y6, .slice s7 t.e.2.2.2.2.2.2.2.1.length y7, .slice s8 t.e.2.2.2.2.2.2.2.2.length y8, .slice pn t.send.length qn], _, rfl, endR_of (r := (0, t.e, t.send)) (us := [.int .i64 t.e.1.1, .slice s1 t.e.1.2.1.length y1, .int .i64 t.e.1.2.2.1, .slice s2 t.e.1.2.2.2.length y2, .int .i64 t.e.2.1, .int .i64 t.e.2.2.1, .slice s3 t.e.2.2.2.1.length y3, .slice s4 t.e.2.2.2.2.1.length y4, .slice s5 t.e.2.2.2.2.2.1.length y5, .slice s6 t.e.2.2.2.2.2.2.1.length y6, .slice s7 t.e.2.2.2.2.2.2.2.1.length y7, .slice s8 t.e.2.2.2.2.2.2.2.2.length y8]) (endC.low (endC.row Ke (fun k hk => by have := I0.out k hk; have := HVZ.out; omega) _) (by have := HZ.out; have := HVZ.out; omega)) ⟨_, xs, f, rfl, KS, rfl⟩ (fun k h1 h2 => by have := I0.out k h1; have := HI.out k h2; have := HVZ.out; omega), Below.row BZ (Nat.le_refl _) _⟩
set_option maxRecDepth 4000 in
theorem catch_idle (p : Addr) (w : World) :
  CallsD Tryz.prog 95 #[.pointer (some p)] .returning w fun e u' w' => e = .returned (.tuple #[]) ∧ u' = .returning ∧ w' = w := by
 refine callsD_of_wpS Tryz.func95 rfl fun c₀ cs hu => ?_
 apply wpS_seq
 apply wpS_region
 simp [wpOpsS, go_sem, recoverD, hu, Tryz.ntmps95, Exit.thenS]
 refine wpS_of_wp ?_
 change Code.wp _ _ _ { tmps := #[.pointer (some p), .nilIface, undef, undef, .nilIface, undef, undef, undef, undef, undef, undef, undef, undef, undef, undef, undef, undef], defers := [] } _
 have hq : ∀ w, (binOp .eql 20 .nilIface .nilIface).run Tryz.prog w = .ok (.bool true) w := by intro w; kernel_rfl
 go_wp2
 refine ⟨rfl, .returning, ?_, .tuple #[], by simp [results, Tryz.results95], rfl, rfl, rfl⟩
 cases c₀
 simp_all
set_option maxRecDepth 4000 in
theorem catch_panic (g : Nat) (c : Int) (w : World) (A : Arr w g 38 [.int .i64 0, .int .i64 0, .slice none 0 0, .int .i64 0, .slice none 0 0, .int .i64 0, .int .i64 0, .slice none 0 0, .slice none 0 0, .slice none 0 0, .slice none 0 0, .slice none 0 0, .slice none 0 0, .slice none 0 0]) :
  CallsD Tryz.prog 95 #[.pointer (some ⟨g, 0, none⟩)] (.panicking (refV c)) w fun e u' w' => e = .returned (.tuple #[]) ∧ u' = .panicking [{ v := .iface 118 (.int .i64 c), recovered := true }] ∧ w' = w.setRow g #[.int .i64 c, .int .i64 0, .slice none 0 0, .int .i64 0, .slice none 0 0, .int .i64 0, .int .i64 0, .slice none 0 0, .slice none 0 0, .slice none 0 0, .slice none 0 0, .slice none 0 0, .slice none 0 0, .slice none 0 0] := by
 refine callsD_of_wpS Tryz.func95 rfl fun c₀ cs hu => ?_
 unfold refV at hu
 apply wpS_seq
 apply wpS_region
 simp [wpOpsS, go_sem, recoverD, hu, Tryz.ntmps95, Exit.thenS]
 refine wpS_of_wp ?_
 change Code.wp _ _ _ { tmps := #[.pointer (some ⟨g, 0, none⟩), .iface 118 (.int .i64 c), undef, undef, .iface 118 (.int .i64 c), undef, undef, undef, undef, undef, undef, undef, undef, undef, undef, undef, undef], defers := [] } _
 have hq : ∀ w, (binOp .eql 20 (.iface 118 (.int .i64 c)) .nilIface).run Tryz.prog w = .ok (.bool false) w := by intro w; kernel_rfl
 have hty : ∀ w, (Instr.typeAssert (.iface 118 (.int .i64 c)) 20 118 true).run Tryz.prog w = .ok (.tuple #[.int .i64 c, .bool true]) w := by intro w; kernel_rfl
 have hres : Hid ((Tryz.prog.info? 38).map (·.size) = some 14) := by show _ = _; kernel_rfl
 go_wp2_with (refine wpList_store_row rfl 38 (.tmp 0) (.tmp 16) rfl g #[.int .i64 c, .int .i64 0, .slice none 0 0, .int .i64 0, .slice none 0 0, .int .i64 0, .int .i64 0, .slice none 0 0, .slice none 0 0, .slice none 0 0, .slice none 0 0, .slice none 0 0, .slice none 0 0, .slice none 0 0] rfl rfl 38 #[.int .i64 0, .int .i64 0, .slice none 0 0, .int .i64 0, .slice none 0 0, .int .i64 0, .int .i64 0, .slice none 0 0, .slice none 0 0, .slice none 0 0, .slice none 0 0, .slice none 0 0, .slice none 0 0, .slice none 0 0] A hres.out rfl (by simp [Value.oneCell']) ?_)
 exact ⟨rfl, _, rfl, .tuple #[], by simp [results, Tryz.results95], rfl, rfl, rfl⟩
def stepV (b : Nat) (F : Nat) : Value := .func (.func F) #[.pointer (some ⟨b, 0, none⟩)] #[]
def EntF (N : Nat) : Prop := ∀ (args : Array Value) (w : World), (callFunc N args).run Tryz.prog w = .ok (.enter N args) w
set_option maxRecDepth 4000 in
set_option maxHeartbeats 2000000 in
theorem through_c (b gs : Nat) (Fs : List Nat) (w : World) (r : EndResultD) (P : Nat → World → Prop) (hgs : Arr w gs 1 (Fs.map (stepV b))) (hbg : b ≠ gs) (hb : b < w.heap.size) (hn : Fs.length ≤ 100) (hE : ∀ F, F ∈ Fs → EntF F)
  (h0 : P 0 (w.alloc (.cells #[.int .i64 0, .int .i64 0, .slice none 0 0, .int .i64 0, .slice none 0 0, .int .i64 0, .int .i64 0, .slice none 0 0, .slice none 0 0, .slice none 0 0, .slice none 0 0, .slice none 0 0, .slice none 0 0, .slice none 0 0] 38)))
  (hO : ∀ i v, P i v → Only [b] (w.alloc (.cells #[.int .i64 0, .int .i64 0, .slice none 0 0, .int .i64 0, .slice none 0 0, .int .i64 0, .int .i64 0, .slice none 0 0, .slice none 0 0, .slice none 0 0, .slice none 0 0, .slice none 0 0, .slice none 0 0, .slice none 0 0] 38)) v)
  (hstep : ∀ i F, Fs[i]? = some F → ∀ v, P i v → Calls Tryz.prog F #[.pointer (some ⟨b, 0, none⟩)] v fun e v' => (e = .returned (.tuple #[]) ∧ P (i + 1) v') ∨ ∃ c, e = .panicked (refV c) ∧ Only [b] (w.alloc (.cells #[.int .i64 0, .int .i64 0, .slice none 0 0, .int .i64 0, .slice none 0 0, .int .i64 0, .int .i64 0, .slice none 0 0, .slice none 0 0, .slice none 0 0, .slice none 0 0, .slice none 0 0, .slice none 0 0, .slice none 0 0] 38)) v' ∧ r = badE c)
  (hend : ∀ v, P Fs.length v → ∃ t, Shk (w.alloc (.cells #[.int .i64 0, .int .i64 0, .slice none 0 0, .int .i64 0, .slice none 0 0, .int .i64 0, .int .i64 0, .slice none 0 0, .slice none 0 0, .slice none 0 0, .slice none 0 0, .slice none 0 0, .slice none 0 0, .slice none 0 0] 38)) b v t ∧ endT t.e ≤ 1000000 ∧ r = (0, t.e, t.send)) :
  Calls Tryz.prog 49 #[.pointer (some ⟨b, 0, none⟩), .slice (some ⟨gs, 0, none⟩) Fs.length Fs.length] w fun e w' => ∃ us fp, e = .returned (.agg us.toArray) ∧ endResultC.own w' w.heap.size r us fp ∧ Only [b] w w' := by
 have hmf : ∀ (fn : Fn) (first cap : Array Value) (w : World), (Instr.makeFunc fn first cap).run Tryz.prog w = .ok (.func fn first cap) w := fun _ _ _ _ => rfl
 have HGS := hgs.old _ (.cells #[.int .i64 0, .int .i64 0, .slice none 0 0, .int .i64 0, .slice none 0 0, .int .i64 0, .int .i64 0, .slice none 0 0, .slice none 0 0, .slice none 0 0, .slice none 0 0, .slice none 0 0, .slice none 0 0, .slice none 0 0] 38)
 have R := Arr.new w [.int .i64 0, .int .i64 0, .slice none 0 0, .int .i64 0, .slice none 0 0, .int .i64 0, .int .i64 0, .slice none 0 0, .slice none 0 0, .slice none 0 0, .slice none 0 0, .slice none 0 0, .slice none 0 0, .slice none 0 0] 38
 have hlen : (Fs.length : Int) ≤ 100 := by omega
 have HZ : Hid ((w.alloc (.cells #[.int .i64 0, .int .i64 0, .slice none 0 0, .int .i64 0, .slice none 0 0, .int .i64 0, .int .i64 0, .slice none 0 0, .slice none 0 0, .slice none 0 0, .slice none 0 0, .slice none 0 0, .slice none 0 0, .slice none 0 0] 38)).heap.size = w.heap.size + 1) := size_alloc _ _
 have HOW : Hid (Only [b] w (w.alloc (.cells #[.int .i64 0, .int .i64 0, .slice none 0 0, .int .i64 0, .slice none 0 0, .int .i64 0, .int .i64 0, .slice none 0 0, .slice none 0 0, .slice none 0 0, .slice none 0 0, .slice none 0 0, .slice none 0 0, .slice none 0 0] 38))) := Only.below (alloc_below _ _)
 have HB : Hid (b < w.heap.size) := hb
 clear hgs hn hb
 go_enter_defers Tryz.func49, Tryz.ntmps49
 go_wp2_with fail
 generalize w.alloc (.cells #[.int .i64 0, .int .i64 0, .slice none 0 0, .int .i64 0, .slice none 0 0, .int .i64 0, .int .i64 0, .slice none 0 0, .slice none 0 0, .slice none 0 0, .slice none 0 0, .slice none 0 0, .slice none 0 0, .slice none 0 0] 38) = w0 at *
 go_loopw [10] (fun i wr => ∃ k : Nat, k ≤ Fs.length ∧ i = .int .i64 k ∧ P k wr)
  (fun i _ => Fs.length - (intOf i).toNat)
 case atStart => exact ⟨0, Nat.zero_le _, rfl, h0⟩
 case round =>
  obtain ⟨k, hk, rfl, hp⟩ := hrel
  have ON := hO k wr hp
  have HG2 : Arr wr gs 1 (Fs.map (stepV b)) := (ON.block gs HGS.lt (fun h => hbg (List.mem_singleton.1 h).symm)).trans HGS
  have HR2 : Arr wr w.heap.size 38 [.int .i64 0, .int .i64 0, .slice none 0 0, .int .i64 0, .slice none 0 0, .int .i64 0, .int .i64 0, .slice none 0 0, .slice none 0 0, .slice none 0 0, .slice none 0 0, .slice none 0 0, .slice none 0 0, .slice none 0 0] := (ON.block w.heap.size R.lt (fun h => by have := HB.out; have := List.mem_singleton.1 h; omega)).trans R
  by_cases hlt : k < Fs.length
  ·have hI : (k : Int) < (Fs.length : Int) := by omega
   obtain ⟨F, hF⟩ : ∃ F, Fs[k]? = some F := ⟨Fs[k], by simp [hlt]⟩
   have cF : wr.cell? ⟨gs, k, none⟩ = some (.func (.func F) #[.pointer (some ⟨b, 0, none⟩)] #[]) := by
    rw [HG2.cell k, List.getElem?_map, hF]; rfl
   have eF : ∀ (args : Array Value) (w : World), (callFunc F args).run Tryz.prog w = .ok (.enter F args) w := hE F (List.mem_of_getElem? hF)
   have KS := hstep k F hF wr hp
   clear HG2 HR2 hO hend h0 hE hp
   go_wp2_with fail
   refine KS.mono ?_
   rintro e v (⟨rfl, hp⟩ | ⟨c, rfl, ON2, rfl⟩)
   ·clear KS hstep
    go_wp2_with fail
    go_roundw
    case rel => exact ⟨k + 1, by omega, by go_num, hp⟩
    case measure => simp [intOf]; omega
   ·have HR3 : Arr v w.heap.size 38 [.int .i64 0, .int .i64 0, .slice none 0 0, .int .i64 0, .slice none 0 0, .int .i64 0, .int .i64 0, .slice none 0 0, .slice none 0 0, .slice none 0 0, .slice none 0 0, .slice none 0 0, .slice none 0 0, .slice none 0 0] := (ON2.block w.heap.size R.lt (fun h => by have := HB.out; have := List.mem_singleton.1 h; omega)).trans R
    have hres : Hid ((Tryz.prog.info? 38).map (·.size) = some 14) := by show _ = _; kernel_rfl
    have HON : Hid (Only [b] w (v.setRow w.heap.size #[.int .i64 c, .int .i64 0, .slice none 0 0, .int .i64 0, .slice none 0 0, .int .i64 0, .int .i64 0, .slice none 0 0, .slice none 0 0, .slice none 0 0, .slice none 0 0, .slice none 0 0, .slice none 0 0, .slice none 0 0])) := ⟨ON2.os.trans HOW.out.os, ON2.tape.trans HOW.out.tape, ON2.output.trans HOW.out.output, by rw [size_setRow]; exact Nat.le_trans HOW.out.size ON2.size, fun j hj hn => by rw [setRow_other _ _ _ _ (by omega), ON2.block j (by have := HOW.out.size; omega) hn, HOW.out.block j hj hn]⟩
    clear KS hstep
    refine leaves_cons (f := 95) (args := #[.pointer (some ⟨w.heap.size, 0, none⟩)]) (by simp) (by simp [go_sem]) ?_
    refine (catch_panic w.heap.size c v HR3).mono ?_
    rintro e u' w'' ⟨rfl, rfl, rfl⟩
    exact ⟨.agg #[.int .i64 c, .int .i64 0, .slice none 0 0, .int .i64 0, .slice none 0 0, .int .i64 0, .int .i64 0, .slice none 0 0, .slice none 0 0, .slice none 0 0, .slice none 0 0, .slice none 0 0, .slice none 0 0, .slice none 0 0], results_cell_row Tryz.results49 _ _ w.heap.size 38 _ (0, 0) _ rfl (HR3.row [.int .i64 c, .int .i64 0, .slice none 0 0, .int .i64 0, .slice none 0 0, .int .i64 0, .int .i64 0, .slice none 0 0, .slice none 0 0, .slice none 0 0, .slice none 0 0, .slice none 0 0, .slice none 0 0, .slice none 0 0]) Tryz.underlying38 rfl hres.out, [.int .i64 c, .int .i64 0, .slice none 0 0, .int .i64 0, .slice none 0 0, .int .i64 0, .int .i64 0, .slice none 0 0, .slice none 0 0, .slice none 0 0, .slice none 0 0, .slice none 0 0, .slice none 0 0, .slice none 0 0], _, rfl, badE_own _ _ c, HON.out⟩
  ·have ek : k = Fs.length := by omega
   subst ek
   obtain ⟨t, ht, hl, rfl⟩ := hend wr hp
   have KT := told_c w0 b wr t ht hl
   clear hend hstep hO h0 hE hp HG2 ht
   go_wp2_with fail
   refine KT.mono ?_
   rintro e v ⟨us, fp, rfl, ko, hb1⟩
   have hus : us.length = 14 := endResultC.len (endResultC.toRep ko)
   have hone := endResultC.one (endResultC.toRep ko)
   replace HR2 := HR2.stay hb1
   have hres : Hid ((Tryz.prog.info? 38).map (·.size) = some us.toArray.size) := by show _ = _; rw [List.size_toArray, hus]; kernel_rfl
   have HON : Hid (Only [b] w (v.setRow w.heap.size us.toArray)) := ⟨hb1.os.trans (ON.os.trans HOW.out.os), hb1.tape.trans (ON.tape.trans HOW.out.tape), hb1.output.trans (ON.output.trans HOW.out.output), by rw [size_setRow]; exact Nat.le_trans HOW.out.size (Nat.le_trans ON.size hb1.size), fun j hj hn => by rw [setRow_other _ _ _ _ (by omega), hb1.block j (by have := HOW.out.size; have := ON.size; omega), ON.block j (by have := HOW.out.size; omega) hn, HOW.out.block j hj hn]⟩
   have KO : Hid (endResultC.own (v.setRow w.heap.size us.toArray) w.heap.size (0, t.e, t.send) us fp) := endResultC.low (endResultC.row ko (fun k hk => by have := (endResultC.ins ko k hk).1; have := HZ.out; omega) _) (by have := HZ.out; omega)
   have H14 : Hid (us.length = 14) := hus
   clear KT hb1 ko hus ON
   go_wp2_with (refine wpList_store_row rfl 38 (.tmp 4) (.tmp 18) rfl w.heap.size us.toArray rfl rfl 38 #[.int .i64 0, .int .i64 0, .slice none 0 0, .int .i64 0, .slice none 0 0, .int .i64 0, .int .i64 0, .slice none 0 0, .slice none 0 0, .slice none 0 0, .slice none 0 0, .slice none 0 0, .slice none 0 0, .slice none 0 0] HR2 hres.out (by have h := H14.out; simp [h]) (by simpa using hone) ?_)
   refine leaves_cons (f := 95) (args := #[.pointer (some ⟨w.heap.size, 0, none⟩)]) (by simp) (by simp [go_sem]) ?_
   refine (catch_idle ⟨w.heap.size, 0, none⟩ _).mono ?_
   rintro e u' w'' ⟨rfl, rfl, rfl⟩
   exact ⟨.agg us.toArray, results_cell_row Tryz.results49 _ _ w.heap.size 38 _ (0, 0) _ rfl (HR2.row us) Tryz.underlying38 rfl hres.out, us, fp, rfl, KO.out, HON.out⟩
set_option maxRecDepth 4000 in
set_option maxHeartbeats 2000000 in
theorem keep_c (w0 : World) (b : Nat) (w : World) (t : ShkD) (vs : Value) (f : List Nat) (m : MsgD) (pm : Option Addr) (qm : Nat) (h : ShkV w0 b w t vs f) (hm : Rd (blank (hide b vs) w) pm qm m.2) (hl : t.e.2.2.2.1.length ≤ 1000) :
  Calls Tryz.prog 101 #[.pointer (some ⟨b, 0, none⟩), .agg #[.int .i64 m.1, .slice pm m.2.length qm]] w fun x w' => x = .returned (.tuple #[]) ∧ ShkV w0 b w' { t with e := eL t.e (t.e.2.2.2.1 ++ [m]) } vs f ∧ Only [b] w w' := by
 have HHID : Hid (∀ k, k ∈ hide b vs → k < w.heap.size) := h.hid
 have HHM : Hid (Rd (blank (hide b vs) w) pm qm m.2) := hm
 have HL : Hid (t.e.2.2.2.1.length ≤ 1000) := hl
 clear hm hl
 obtain ⟨us, vh, ho, vk, xs, HB, RE, RH, RO, RK⟩ := h
 obtain ⟨p1, q1, p2, q2, p3, q3, p4, q4, p5, q5, p6, q6, p7, q7, p8, q8, rfl, r1, r2, r3, r4, r5, r6, r7, r8⟩ := end_rep RE
 obtain ⟨ph, qh, eh, rh⟩ := RH
 obtain ⟨po, qo, rfl, ro⟩ := hello_rep RO
 obtain ⟨pk, qk, ek, rk⟩ := RK
 simp only [List.cons.injEq, and_true] at eh ek
 subst eh ek
 simp only [List.cons_append, List.nil_append] at HB
 obtain ⟨ys, RW, RA⟩ := r3.raw
 have HRW : Hid (Raw w p3 q3 t.e.2.2.2.1.length 2 ys) := RW.sees (blank_le _ _)
 have HRA : Hid (RepAll msgC (blank (hide b vs) w) t.e.2.2.2.1 ys) := RA
 have HRest : Hid (Rd (blank (hide b vs) w) p1 q1 t.e.1.2.1 ∧ Rd (blank (hide b vs) w) p2 q2 t.e.1.2.2.2 ∧ Rd (blank (hide b vs) w) p4 q4 t.e.2.2.2.2.1 ∧ Rd (blank (hide b vs) w) p5 q5 t.e.2.2.2.2.2.1 ∧ Rd (blank (hide b vs) w) p6 q6 t.e.2.2.2.2.2.2.1 ∧ Rd (blank (hide b vs) w) p7 q7 t.e.2.2.2.2.2.2.2.1 ∧ Rd (blank (hide b vs) w) p8 q8 t.e.2.2.2.2.2.2.2.2 ∧ RdL msgC (blank (hide b vs) w) ph qh t.heard ∧ Rd (blank (hide b vs) w) po qo t.other.1 ∧ Rd (blank (hide b vs) w) pk qk t.secret) := ⟨r1, r2, r4, r5, r6, r7, r8, rh, ro, rk⟩
 have BW := alloc_below w (.cells #[.int .i64 m.1, .slice pm m.2.length qm] 53)
 have N := Arr.new w [.int .i64 m.1, .slice pm m.2.length qm] 53
 have HVZ : Hid (w.heap.size < (w.alloc (.cells #[.int .i64 m.1, .slice pm m.2.length qm] 53)).heap.size) := N.lt
 replace HB := HB.stay BW
 clear r1 r2 r3 r4 r5 r6 r7 r8 rh ro rk RE RO RW RA
 go_enter Tryz.func101, Tryz.ntmps101
 go_wp2_with fail
 generalize w.alloc (.cells #[.int .i64 m.1, .slice pm m.2.length qm] 53) = V at *
 have hne := HW.some V
 have c6 := HW.at ((HB.arr.cell 6).trans (show _ = some _ from rfl))
 have n0 := HW.at ((N.cell 0).trans (show _ = some _ from rfl))
 have n1 := HW.at ((N.cell 1).trans (show _ = some _ from rfl))
 refine wp_region_pick [0, 1, 2, 3, 4, 5, 6] 10 3 4 rfl rfl rfl (by kernel_rfl) (by kernel_rfl) (by kernel_rfl) (by kernel_rfl) ?_
 simp only [opsAt, List.getElem?_toArray, List.getElem?_cons_zero, List.getElem?_cons_succ]
 repeat (go_big_quiet_step (fail))
 refine wpQuiet_nil ?_
 clear c6 n0 n1 N
 refine wpM_only (i := 7) (by kernel_rfl) ?_
 refine mOp_make rfl (by go_simp) ?_
 rintro _ ⟨sg, rfl⟩
 refine ⟨.slice (some ⟨sg.w.heap.size, 0, none⟩) 1 1, sg.w.alloc (.cells #[.int .i64 m.1, .slice pm m.2.length qm] 53), by go_simp, ⟨⟨_, alloc_below _ _⟩, rfl⟩, ?_⟩
 have hbg := Below.step sg.h (alloc_below sg.w (.cells #[.int .i64 m.1, .slice pm m.2.length qm] 53))
 have NA := Arr.new sg.w [.int .i64 m.1, .slice pm m.2.length qm] 53
 replace HB := HB.stay hbg
 replace BW := Below.step BW hbg
 replace hne := HW.some (sg.w.alloc (.cells #[.int .i64 m.1, .slice pm m.2.length qm] 53))
 clear hbg
 generalize hW1 : sg.w.alloc (.cells #[.int .i64 m.1, .slice pm m.2.length qm] 53) = wm1 at *
 clear hW1
 generalize sg.w.heap.size = ga at *
 clear sg
 refine wpM_only (i := 8) (by kernel_rfl) ?_
 refine mOp_make rfl (by go_simp) ?_
 rintro _ ⟨sg, rfl⟩
 refine ⟨.slice (some ⟨sg.w.heap.size, 0, none⟩) 2 2, sg.w.alloc (.cells #[.slice p3 t.e.2.2.2.1.length q3, .slice (some ⟨ga, 0, none⟩) 1 1] 33), by go_simp, ⟨⟨_, alloc_below _ _⟩, rfl⟩, ?_⟩
 have hbg := Below.step sg.h (alloc_below sg.w (.cells #[.slice p3 t.e.2.2.2.1.length q3, .slice (some ⟨ga, 0, none⟩) 1 1] 33))
 have NB := Arr.new sg.w [.slice p3 t.e.2.2.2.1.length q3, .slice (some ⟨ga, 0, none⟩) 1 1] 33
 replace HB := HB.stay hbg
 replace NA := NA.stay hbg
 replace BW := Below.step BW hbg
 replace hne := HW.some (sg.w.alloc (.cells #[.slice p3 t.e.2.2.2.1.length q3, .slice (some ⟨ga, 0, none⟩) 1 1] 33))
 clear hbg
 generalize hW2 : sg.w.alloc (.cells #[.slice p3 t.e.2.2.2.1.length q3, .slice (some ⟨ga, 0, none⟩) 1 1] 33) = wm2 at *
 clear hW2
 generalize sg.w.heap.size = gb at *
 clear sg
 refine wpM_only (i := 9) (by kernel_rfl) ?_
 refine mOp_call rfl (by go_simp) 144 _ #[.slice (some ⟨gb, 0, none⟩) 2 2] (fun w => by go_simp) rfl ?_
 rintro _ ⟨sg, rfl⟩
 refine (concat_c gb t.e.2.2.2.1.length 1 q3 1 p3 (some ⟨ga, 0, none⟩) ys [.int .i64 m.1, .slice pm m.2.length qm] sg.w (NB.stay sg.h) (HRW.out.keep (Below.step BW sg.h)) (raw_arr (NA.stay sg.h) rfl) (fun u hu => HRA.out.one u hu) (by simp [Value.oneCell']) (by omega) (by have := HL.out; omega)).mono ?_
 rintro x wg ⟨v, rfl, hrow, hbx⟩
 have hbg := Below.step sg.h hbx
 refine ⟨_, rfl, ⟨⟨wg, hbx⟩, rfl⟩, ?_⟩
 replace hrow := ownsRow_low hrow (Below.step BW sg.h).size
 replace HB := HB.stay hbg
 replace BW := Below.step BW hbg
 replace hne := HW.some wg
 clear hbg hbx sg NA NB
 refine wpM_end (by kernel_rfl) rfl (by kernel_rfl) (by decide) ?_
 rintro _ ⟨sgz, rfl⟩
 simp only [List.drop_succ_cons, List.drop_zero]
 go_simp
 replace hrow : (sgz.w).ownsRow w.heap.size 53 2 v (t.e.2.2.2.1.length + 1) (ys ++ [.int .i64 m.1, .slice pm m.2.length qm]) := ownsRow_fr hrow fun k hk => sgz.h.block k (World.ownsRow.lt hrow k hk).2
 replace HB := HB.stay sgz.h
 replace BW := Below.step BW sgz.h
 clear hne
 generalize sgz.w = W at *
 clear sgz
 obtain ⟨pN, qN, rfl, -⟩ := ownsRow_raw hrow
 have c6 := (HB.arr.cell 6).trans (show _ = some _ from rfl)
 have fz := HB.arr.frozen
 go_wp2
 go_end0
 have HS : Sees (blank (hide b vs) w) (blank (hide b vs) (W.setCell ⟨b, 6, none⟩ (.slice pN (t.e.2.2.2.1.length + 1) qN))) := (blank_below BW).trans (sees_set b 6 _ W vs)
 obtain ⟨k1, k2, k4, k5, k6, k7, k8, kh, ko, kk⟩ := HRest.out
 have hrowB := ownsRow_blank (S := hide b vs) hrow HHID.out
 obtain ⟨pN2, qN2, eN, RN⟩ := ownsRow_raw hrowB
 cases eN
 have hl1 : (t.e.2.2.2.1 ++ [m]).length = t.e.2.2.2.1.length + 1 := by simp
 have RL : RdL msgC (blank (hide b vs) (W.setCell ⟨b, 6, none⟩ (.slice pN (t.e.2.2.2.1.length + 1) qN))) pN qN (t.e.2.2.2.1 ++ [m]) :=
  Raw.rdL (V := blank (hide b vs) W) (xs := ys ++ [.int .i64 m.1, .slice pm m.2.length qm]) (by rw [hl1]; exact RN) ((RepAll.sees msgC_mono (blank_below BW) HRA.out).append (RepAll.single (msg_mk (a := m) (HHM.out.sees (blank_below BW))))) (sees_set b 6 _ W vs) msgC_mono
 have HBN := HB.set 6 (.slice pN (t.e.2.2.2.1.length + 1) qN)
 rw [← hl1] at HBN RL HS ⊢
 refine ⟨rfl, ⟨_, _, _, _, xs, HBN, end_mk (a := eL t.e (t.e.2.2.2.1 ++ [m])) (k1.sees HS) (k2.sees HS) RL (k4.sees HS) (k5.sees HS) (k6.sees HS) (k7.sees HS) (k8.sees HS), ⟨ph, qh, rfl, kh.sees msgC_mono HS⟩, hello_mk (ko.sees HS), ⟨pk, qk, rfl, kk.sees HS⟩⟩, (Only.below BW).trans (only_set b 6 _ W)⟩
theorem Only.own {w w' : World} {B : Nat} {v : Value} {bs : List UInt8} {S : List Nat} (h : Own w B v bs) (ho : Only S w w') (hd : ∀ k, v.ownBlock = some k → k ∉ S) : Own w' B v bs := by
 obtain ⟨u, e1, h2, -⟩ := bytC.other (byt_ownK h) ho (fun k hk => hd k (mem_opt.1 hk))
 cases e1
 exact h2
set_option maxRecDepth 4000 in
set_option maxHeartbeats 2000000 in
theorem say_c (w0 : World) (b : Nat) (w : World) (t : ShkD) (vs : Value) (f : List Nat) (m : MsgD) (pm : Option Addr) (qm : Nat) (h : ShkV w0 b w t vs f) (ho : Own w w0.heap.size (.slice pm m.2.length qm) m.2) (hf : ∀ k, (Value.slice pm m.2.length qm).ownBlock = some k → k ∉ vs.ownBlock.toList ++ f) (hl : t.e.2.2.2.1.length ≤ 1000) (hs : t.send.length ≤ 1000) :
  Calls Tryz.prog 153 #[.pointer (some ⟨b, 0, none⟩), .agg #[.int .i64 m.1, .slice pm m.2.length qm]] w fun x w' => x = .returned (.tuple #[]) ∧ Shk w0 b w' { t with e := eL t.e (t.e.2.2.2.1 ++ [m]), send := t.send ++ [m] } := by
 have BW := alloc_below w (.cells #[.int .i64 m.1, .slice pm m.2.length qm] 53)
 have N := Arr.new w [.int .i64 m.1, .slice pm m.2.length qm] 53
 have HBL : Hid (b < w0.heap.size ∧ w0.heap.size ≤ w.heap.size) := h.blt
 replace h := h.stay BW
 replace ho := ho.stay BW
 have hout : Hid (∀ k, (Value.slice pm m.2.length qm).ownBlock = some k → k ≠ b) := fun k hk e => by have := ho.ge k hk; have := HBL.out; omega
 have hmb : Rd (blank (hide b vs) (w.alloc (.cells #[.int .i64 m.1, .slice pm m.2.length qm] 53))) pm qm m.2 := by
  obtain ⟨pz, qz, ez, rz⟩ := bytC.blanked (S := hide b vs) (byt_ownK ho) (fun k hk hm => by
   rcases List.mem_cons.1 hm with h1 | h1
   ·exact hout.out k (mem_opt.1 hk) h1
   ·exact hf k (mem_opt.1 hk) (List.mem_append_left _ h1))
  cases ez
  exact rz
 have KK := keep_c w0 b _ t vs f m pm qm h hmb hl
 have HF : Hid (∀ k, (Value.slice pm m.2.length qm).ownBlock = some k → k ∉ vs.ownBlock.toList ++ f) := hf
 have HSL : Hid (t.send.length ≤ 1000) := hs
 have HLT : Hid (∀ k, (Value.slice pm m.2.length qm).ownBlock = some k → k < (w.alloc (.cells #[.int .i64 m.1, .slice pm m.2.length qm] 53)).heap.size) := fun k hk => ho.lt k hk
 clear h hmb hf hl hs
 go_enter Tryz.func153, Tryz.ntmps153
 go_wp2_with fail
 refine KK.mono ?_
 rintro x w1 ⟨rfl, h, ON⟩
 replace N : Arr w1 w.heap.size 53 [.int .i64 m.1, .slice pm m.2.length qm] := (ON.block _ N.lt (fun hm => by have := HBL.out; have := List.mem_singleton.1 hm; omega)).trans N
 replace ho := Only.own ho ON (fun k hk hm => hout.out k hk (List.mem_singleton.1 hm))
 have HW1 : Hid (w0.heap.size ≤ w1.heap.size) := h.blt.2
 clear KK ON BW
 obtain ⟨us, vh, ho, vk, xs, HB, RE, RH, RO, RK⟩ := h
 obtain ⟨p1, q1, p2, q2, p3, q3, p4, q4, p5, q5, p6, q6, p7, q7, p8, q8, rfl, r1, r2, r3, r4, r5, r6, r7, r8⟩ := end_rep RE
 obtain ⟨ph, qh, eh, rh⟩ := RH
 obtain ⟨po, qo, rfl, ro⟩ := hello_rep RO
 obtain ⟨pk, qk, ek, rk⟩ := RK
 simp only [List.cons.injEq, and_true] at eh ek
 subst eh ek
 simp only [List.cons_append, List.nil_append] at HB
 have HRest : Hid (endC.rep (blank (hide b vs) w1) (eL t.e (t.e.2.2.2.1 ++ [m])) [.int .i64 (eL t.e (t.e.2.2.2.1 ++ [m])).1.1, .slice p1 (eL t.e (t.e.2.2.2.1 ++ [m])).1.2.1.length q1, .int .i64 (eL t.e (t.e.2.2.2.1 ++ [m])).1.2.2.1, .slice p2 (eL t.e (t.e.2.2.2.1 ++ [m])).1.2.2.2.length q2, .int .i64 (eL t.e (t.e.2.2.2.1 ++ [m])).2.1, .int .i64 (eL t.e (t.e.2.2.2.1 ++ [m])).2.2.1, .slice p3 (eL t.e (t.e.2.2.2.1 ++ [m])).2.2.2.1.length q3, .slice p4 (eL t.e (t.e.2.2.2.1 ++ [m])).2.2.2.2.1.length q4, .slice p5 (eL t.e (t.e.2.2.2.1 ++ [m])).2.2.2.2.2.1.length q5, .slice p6 (eL t.e (t.e.2.2.2.1 ++ [m])).2.2.2.2.2.2.1.length q6, .slice p7 (eL t.e (t.e.2.2.2.1 ++ [m])).2.2.2.2.2.2.2.1.length q7, .slice p8 (eL t.e (t.e.2.2.2.1 ++ [m])).2.2.2.2.2.2.2.2.length q8] ∧ RdL msgC (blank (hide b vs) w1) ph qh t.heard ∧ Rd (blank (hide b vs) w1) po qo t.other.1 ∧ Rd (blank (hide b vs) w1) pk qk t.secret) := ⟨RE, rh, ro, rk⟩
 obtain ⟨pn, qn, en, rn⟩ := HB.own.rd
 subst en
 have HQN : Hid (qn ≤ 2 ^ 63 - 1) := rn.2.1
 clear r1 r2 r3 r4 r5 r6 r7 r8 rh ro rk RE RO rn
 have BV : Below w1.heap.size w1 (w1.drew.alloc (.cells #[.int .i64 m.1, .slice pm m.2.length qm] 53)) := Below.mk (Below.refl _ _).drew _
 have NA : Arr (w1.drew.alloc (.cells #[.int .i64 m.1, .slice pm m.2.length qm] 53)) w1.heap.size 53 [.int .i64 m.1, .slice pm m.2.length qm] := Arr.new w1.drew [.int .i64 m.1, .slice pm m.2.length qm] 53
 have c13 := (HB.arr.cell 13).trans (show _ = some _ from rfl)
 have n0 := (N.cell 0).trans (show _ = some _ from rfl)
 have n1 := (N.cell 1).trans (show _ = some _ from rfl)
 have fz0 := HB.arr.frozen
 replace HB := HB.stay BV
 have hb1 : b < w1.heap.size := by have := HBL.out; have := HW1.out; omega
 replace ho := ho.stay BV
 have hnew : Hid (∀ j u, [Value.int .i64 m.1, .slice pm m.2.length qm][j]? = some u → (w1.drew.alloc (.cells #[.int .i64 m.1, .slice pm m.2.length qm] 53)).cell? ((⟨w1.heap.size, 0, none⟩ : Addr).add j) = some u) := fun j u hj => NA.cells j u hj
 have HOWN : Hid ((w1.drew.alloc (.cells #[.int .i64 m.1, .slice pm m.2.length qm] 53)).ownsRow w0.heap.size 53 2 (.slice pn t.send.length qn) t.send.length xs) := HB.own.row
 have hbne : some b ≠ (Value.slice pn t.send.length qn).ownBlock := fun e => HB.b_out b (List.mem_append_left _ (mem_opt.2 e.symm)) rfl
 have HF6 : Hid (∀ w6, (w1.drew.alloc (.cells #[.int .i64 m.1, .slice pm m.2.length qm] 53)).grownBy w6 (Value.slice pn t.send.length qn).ownBlock → w6.cell? ⟨b, 13, none⟩ = some (.slice pn t.send.length qn) ∧ w6.frozen? ⟨b, 13, none⟩ = false) := fun w6 hg => by
  have A6 := HB.arr.other hg (fun e => hbne e.symm)
  exact ⟨(A6.cell 13).trans rfl, A6.frozen 13⟩
 have H63 : Hid (t.send.length + 1 ≤ maxLen) := by show _ ≤ _; have := HSL.out; unfold maxLen; omega
 have H32 : Hid ((t.send.length + 1) * 32 ≤ 140737488355328) := by show _ ≤ _; have := HSL.out; omega
 have HBZ : Hid (w0.heap.size ≤ (w1.drew.alloc (.cells #[.int .i64 m.1, .slice pm m.2.length qm] 53)).heap.size) := Nat.le_trans HW1.out BV.size
 have HALL : Hid (∀ u ∈ [Value.int .i64 m.1, .slice pm m.2.length qm], u.oneCell' = true) := by intro u hu; simp at hu; rcases hu with rfl | rfl <;> rfl
 obtain ⟨i0, hi, hz0, hz1, hz2⟩ := info_parts infoMsg
 have HI : Hid (Tryz.prog.info? 53 = some i0 ∧ i0.zero = some (.agg #[.int .i64 0, .slice none 0 0]) ∧ i0.size = 2 ∧ i0.bytes = 32) := ⟨hi, hz0, hz1, hz2⟩
 have HHB : Hid (ShkB w0 b (w1.drew.alloc (.cells #[.int .i64 m.1, .slice pm m.2.length qm] 53)) (.slice pn t.send.length qn) t.send xs f _) := HB
 have HHO : Hid (Own (w1.drew.alloc (.cells #[.int .i64 m.1, .slice pm m.2.length qm] 53)) w0.heap.size (.slice pm m.2.length qm) m.2) := ho
 have HHV : Hid (Below w1.heap.size w1 (w1.drew.alloc (.cells #[.int .i64 m.1, .slice pm m.2.length qm] 53))) := BV
 clear hi hz0 hz1 hz2 HB ho BV NA N hbne
 go_wp2_with fail
 go_region_law (refine step_append_lies _ rfl (.tmp 11) (.tmp 13) 33 rfl w0.heap.size 53 i0 (.agg #[.int .i64 0, .slice none 0 0]) 2 32 Tryz.underlying33 HI.out.1 HI.out.2.1 HI.out.2.2.1 HI.out.2.2.2 rfl (by decide) (.slice pn t.send.length qn) t.send.length xs (by simp [Act.eval]) HOWN.out ⟨w1.heap.size, 0, none⟩ 1 1 [.int .i64 m.1, .slice pm m.2.length qm] (by simp [Act.eval]) rfl hnew.out HALL.out (by decide) H63.out H32.out HBZ.out _ rfl ?_; intro g6 c6 w6 hown6 hgrow6 hat6 hlt6; obtain ⟨c13', fz'⟩ := HF6.out _ hgrow6)
 all_goals
  have HB := HHB.out
  have ho := HHO.out
  have BV := HHV.out
  clear HHB HHO HHV c13' fz' HF6
  replace hgrow6 : (w1.drew.alloc (.cells #[.int .i64 m.1, .slice pm m.2.length qm] 53)).grownBy w6 (Value.slice pn t.send.length qn).ownBlock := hgrow6
  replace hat6 : (Value.slice pn t.send.length qn).ownBlock = some g6 ∨ g6 = (w1.drew.alloc (.cells #[.int .i64 m.1, .slice pm m.2.length qm] 53)).heap.size := hat6
  generalize w1.drew.alloc (.cells #[.int .i64 m.1, .slice pm m.2.length qm] 53) = W at *
  have hbne : some b ≠ (Value.slice pn t.send.length qn).ownBlock := fun e => HB.b_out b (List.mem_append_left _ (mem_opt.2 e.symm)) rfl
  have hW1 : w1.heap.size ≤ W.heap.size := BV.size
  have OP := HB.own.push (msg_own_mk (a := m) ho) (fun j hj hj2 => HF.out j (mem_opt.1 hj) hj2) (k := t.send.length + 1) (v' := .slice (some ⟨g6, 0, none⟩) (t.send.length + 1) c6) (g := g6) hown6 (by simp) hgrow6 rfl hat6
  have A6 : Arr w6 b 90 _ := HB.arr.other hgrow6 (fun e => hbne e.symm)
  have ON6 : Only [b] w0 w6 := ⟨hgrow6.os.trans HB.only.os, hgrow6.tape.trans HB.only.tape, hgrow6.output.trans HB.only.output, Nat.le_trans HB.only.size hgrow6.size, fun k hk hn => (hgrow6.block k (Nat.lt_of_lt_of_le hk HB.only.size) (fun e => by
   have h1 := (HB.own.ins k (List.mem_append_left _ (mem_opt.2 e.symm))).1
   omega)).trans (HB.only.block k hk hn)⟩
  have HS0 : Sees (blank (hide b (.slice pn t.send.length qn)) w1) (blank (hide b (.slice (some ⟨g6, 0, none⟩) (t.send.length + 1) c6)) w6) := (blank_below BV).trans (blank_sees fun k hk hn => by
   have h1 : k ≠ b := fun e => hn (by rw [e]; exact List.mem_cons_self ..)
   have h2 : some k ≠ (Value.slice pn t.send.length qn).ownBlock := fun e => hn (List.mem_cons_of_mem _ (mem_opt.2 e.symm))
   refine ⟨fun hm => ?_, hgrow6.block k hk h2⟩
   rcases List.mem_cons.1 hm with h3 | h3
   ·exact h1 h3
   ·have h4 : g6 = k := (by simpa [Value.ownBlock] using h3 : k = g6).symm
    rcases hat6 with h5 | h5
    ·exact h2 (by rw [h5, h4])
    ·omega)
  have HLT0 : Hid (b < w0.heap.size) := HB.lt
  have hl1 : (t.send ++ [m]).length = t.send.length + 1 := by simp
  go_end0
  obtain ⟨ke, kh, ko, kk⟩ := HRest.out
  have HS : Sees (blank (hide b (.slice pn t.send.length qn)) w1) (blank (hide b (.slice (some ⟨g6, 0, none⟩) (t.send.length + 1) c6)) (w6.setCell ⟨b, 13, none⟩ (.slice (some ⟨g6, 0, none⟩) (t.send.length + 1) c6))) := HS0.trans (sees_set b 13 _ w6 _)
  have HBN : ShkB w0 b (w6.setCell ⟨b, 13, none⟩ (.slice (some ⟨g6, 0, none⟩) (t.send.length + 1) c6)) (.slice (some ⟨g6, 0, none⟩) (t.send.length + 1) c6) (t.send ++ [m]) _ _ _ := ShkB.set ⟨A6, ON6, HLT0.out, OP⟩ 13 (.slice (some ⟨g6, 0, none⟩) (t.send.length + 1) c6)
  exact ⟨rfl, _, _, _, _, _, _, _, HBN, endC_mono HS ke, ⟨ph, qh, rfl, kh.sees msgC_mono HS⟩, hello_mk (ko.sees HS), ⟨pk, qk, rfl, kk.sees HS⟩⟩
end Go.Proofs.YtiabacnmmojfjabGreatDoor
