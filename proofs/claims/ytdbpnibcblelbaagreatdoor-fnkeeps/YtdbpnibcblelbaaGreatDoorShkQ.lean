/- The face of the handshake in the program: what is refused (refuseFor, refuseIf), what is told (told), and the walk from step to step, a refusal of which is recovered (through). What was there stays. -/
import Derived.Test.YtdbpnibcblelbaaGreatDoorShkB
import Derived.Test.YtdbpnibcblelbaaGreatDoorJoint29
import Derived.Defers
import Derived.Recover
import Derived.WalkLawsBesides
namespace Go.Proofs.YtdbpnibcblelbaaGreatDoor
open Go.ChangeShapes Go.WideShapes Go.ChangeAt Go.RowKit
def refV (c : Int) : List PanicEntry := [{ v := .iface 185 (.int .i64 c), recovered := false }]
theorem refuse_ok (w : World) : Calls Tryz.prog 159 #[.int .i64 0] w fun e w' => e = .returned (.tuple #[]) ∧ w' = w := by
  go_enter Tryz.func159, Tryz.ntmps159
  go_wp2
  go_end0
  exact ⟨rfl, rfl⟩
theorem refuse_bad (c : Int) (w : World) (hc : ¬ c = 0) : Calls Tryz.prog 159 #[.int .i64 c] w fun e w' => e = .panicked (refV c) ∧ w' = w := by
  have hd : (c != 0) = true := by rw [bne_iff_ne]; exact hc
  clear hc
  go_enter Tryz.func159, Tryz.ntmps159
  go_wp2
  exact ⟨rfl, rfl, rfl⟩
theorem refuseIf_ok (c : Int) (w : World) : Calls Tryz.prog 170 #[.bool false, .int .i64 c] w fun e w' => e = .returned (.tuple #[]) ∧ w' = w := by
  go_enter Tryz.func170, Tryz.ntmps170
  go_wp2
  go_end0
  exact ⟨rfl, rfl⟩
theorem refuseIf_bad (c : Int) (w : World) (hc : ¬ c = 0) : Calls Tryz.prog 170 #[.bool true, .int .i64 c] w fun e w' => e = .panicked (refV c) ∧ w' = w := by
  go_enter Tryz.func170, Tryz.ntmps170
  go_wp2_with fail
  refine (refuse_bad c w hc).mono ?_
  rintro e w' ⟨rfl, rfl⟩
  exact ⟨rfl, rfl, rfl⟩
set_option maxRecDepth 4000 in
set_option maxHeartbeats 2000000 in
theorem told_c (w0 : World) (b : Nat) (w : World) (t : ShkD) (h : Shk w0 b w t) (hl : endT t.e ≤ 1000000) :
    Calls Tryz.prog 158 #[.pointer (some ⟨b, 0, none⟩)] w fun x w' => ∃ us fp, x = .returned (.agg us.toArray) ∧ endResultC.own w' w0.heap.size (0, t.e, t.send) us fp ∧ Below w.heap.size w w' := by
  have HL : Hid (endT t.e ≤ 1000000) := hl
  have BW := alloc_below w (.cells #[.int .i64 0, .int .i64 0, .slice none 0 0, .int .i64 0, .slice none 0 0, .int .i64 0, .int .i64 0, .slice none 0 0, .slice none 0 0, .slice none 0 0, .slice none 0 0, .slice none 0 0, .slice none 0 0, .slice none 0 0] 78)
  have R := Arr.new w [.int .i64 0, .int .i64 0, .slice none 0 0, .int .i64 0, .slice none 0 0, .int .i64 0, .int .i64 0, .slice none 0 0, .slice none 0 0, .slice none 0 0, .slice none 0 0, .slice none 0 0, .slice none 0 0, .slice none 0 0] 78
  have HZ : Hid (w0.heap.size ≤ w.heap.size) := h.only.size
  clear hl
  obtain ⟨us, vh, vs, ho, vk, xs, f, HB, RE, RH, RO, RK⟩ := h
  obtain ⟨p1, q1, p2, q2, p3, q3, p4, q4, p5, q5, p6, q6, p7, q7, p8, q8, rfl, r1, r2, r3, r4, r5, r6, r7, r8⟩ := end_rep RE
  obtain ⟨ph, qh, eh, rh⟩ := RH
  obtain ⟨po, qo, rfl, ro⟩ := hello_rep RO
  obtain ⟨pk, qk, ek, rk⟩ := RK
  obtain ⟨pn, qn, en, -⟩ := HB.own.rd
  simp only [List.cons.injEq, and_true] at eh ek
  subst eh ek en
  simp only [List.cons_append, List.nil_append] at HB
  have A := HB.arr
  have HI : Hid (∀ k, k ∈ (Value.slice pn t.send.length qn).ownBlock.toList ++ f → k < w.heap.size) := fun k hk => (HB.own.ins k hk).2
  have HRE : Hid (endC.rep (blank (hide b (.slice pn t.send.length qn)) w) t.e [.int .i64 t.e.1.1, .slice p1 t.e.1.2.1.length q1, .int .i64 t.e.1.2.2.1, .slice p2 t.e.1.2.2.2.length q2, .int .i64 t.e.2.1, .int .i64 t.e.2.2.1, .slice p3 t.e.2.2.2.1.length q3, .slice p4 t.e.2.2.2.2.1.length q4, .slice p5 t.e.2.2.2.2.2.1.length q5, .slice p6 t.e.2.2.2.2.2.2.1.length q6, .slice p7 t.e.2.2.2.2.2.2.2.1.length q7, .slice p8 t.e.2.2.2.2.2.2.2.2.length q8]) := end_mk r1 r2 r3 r4 r5 r6 r7 r8
  clear r1 r2 r3 r4 r5 r6 r7 r8 rh ro rk RE RO A
  replace HB := HB.stay BW
  have HRV : Hid (endC.rep (w.alloc (.cells #[.int .i64 0, .int .i64 0, .slice none 0 0, .int .i64 0, .slice none 0 0, .int .i64 0, .int .i64 0, .slice none 0 0, .slice none 0 0, .slice none 0 0, .slice none 0 0, .slice none 0 0, .slice none 0 0, .slice none 0 0] 78)) t.e [.int .i64 t.e.1.1, .slice p1 t.e.1.2.1.length q1, .int .i64 t.e.1.2.2.1, .slice p2 t.e.1.2.2.2.length q2, .int .i64 t.e.2.1, .int .i64 t.e.2.2.1, .slice p3 t.e.2.2.2.1.length q3, .slice p4 t.e.2.2.2.2.1.length q4, .slice p5 t.e.2.2.2.2.2.1.length q5, .slice p6 t.e.2.2.2.2.2.2.1.length q6, .slice p7 t.e.2.2.2.2.2.2.2.1.length q7, .slice p8 t.e.2.2.2.2.2.2.2.2.length q8]) := endC.keep (endC_mono (blank_le _ _) HRE.out) BW
  go_enter Tryz.func158, Tryz.ntmps158
  go_wp2_with fail
  have HVZ : Hid (w.heap.size < (w.alloc (.cells #[.int .i64 0, .int .i64 0, .slice none 0 0, .int .i64 0, .slice none 0 0, .int .i64 0, .int .i64 0, .slice none 0 0, .slice none 0 0, .slice none 0 0, .slice none 0 0, .slice none 0 0, .slice none 0 0, .slice none 0 0] 78)).heap.size) := R.lt
  generalize w.alloc (.cells #[.int .i64 0, .int .i64 0, .slice none 0 0, .int .i64 0, .slice none 0 0, .int .i64 0, .int .i64 0, .slice none 0 0, .slice none 0 0, .slice none 0 0, .slice none 0 0, .slice none 0 0, .slice none 0 0, .slice none 0 0] 78) = V at *
  have hne := HW.some V
  have c0 := HW.at ((HB.arr.cell 0).trans (show _ = some _ from rfl))
  have c1 := HW.at ((HB.arr.cell 1).trans (show _ = some _ from rfl))
  have c2 := HW.at ((HB.arr.cell 2).trans (show _ = some _ from rfl))
  have c3 := HW.at ((HB.arr.cell 3).trans (show _ = some _ from rfl))
  have c4 := HW.at ((HB.arr.cell 4).trans (show _ = some _ from rfl))
  have c5 := HW.at ((HB.arr.cell 5).trans (show _ = some _ from rfl))
  have c6 := HW.at ((HB.arr.cell 6).trans (show _ = some _ from rfl))
  have c7 := HW.at ((HB.arr.cell 7).trans (show _ = some _ from rfl))
  have c8 := HW.at ((HB.arr.cell 8).trans (show _ = some _ from rfl))
  have c9 := HW.at ((HB.arr.cell 9).trans (show _ = some _ from rfl))
  have c10 := HW.at ((HB.arr.cell 10).trans (show _ = some _ from rfl))
  have c11 := HW.at ((HB.arr.cell 11).trans (show _ = some _ from rfl))
  have c13 := HW.at ((HB.arr.cell 13).trans (show _ = some _ from rfl))
  have BV := Below.refl V.heap.size V
  refine wp_region_pick [0, 1, 2, 3, 5, 6, 7, 8] 10 2 1 rfl rfl rfl (by kernel_rfl) (by kernel_rfl) (by kernel_rfl) (by kernel_rfl) ?_
  simp only [opsAt, List.getElem?_toArray, List.getElem?_cons_zero, List.getElem?_cons_succ]
  repeat (go_big_quiet_step (fail))
  refine wpQuiet_nil ?_
  clear c0 c1 c2 c3 c4 c5 c6 c7 c8 c9 c10 c11 c13
  refine wpM_only (i := 4) (by kernel_rfl) ?_
  refine mOp_call rfl (by go_simp) 208 _ #[.agg #[.int .i64 t.e.1.1, .slice p1 t.e.1.2.1.length q1, .int .i64 t.e.1.2.2.1, .slice p2 t.e.1.2.2.2.length q2, .int .i64 t.e.2.1, .int .i64 t.e.2.2.1, .slice p3 t.e.2.2.2.1.length q3, .slice p4 t.e.2.2.2.2.1.length q4, .slice p5 t.e.2.2.2.2.2.1.length q5, .slice p6 t.e.2.2.2.2.2.2.1.length q6, .slice p7 t.e.2.2.2.2.2.2.2.1.length q7, .slice p8 t.e.2.2.2.2.2.2.2.2.length q8]] (fun w => by go_simp) rfl ?_
  rintro _ ⟨sg, rfl⟩
  refine (ownEnd_k t.e _ _ (endC.keep HRV.out (Below.step BV sg.h)) HL.out).mono ?_
  rintro e wg0 ⟨us1, f1, rfl, Ke, hbx⟩
  obtain ⟨s1, y1, s2, y2, s3, y3, s4, y4, s5, y5, s6, y6, s7, y7, s8, y8, rfl, -, -, -, -, -, -, -, -⟩ := end_rep (endC.toRep Ke)
  have hbg := Below.step sg.h hbx
  refine ⟨_, rfl, ⟨⟨wg0, hbx⟩, rfl⟩, ?_⟩
  have I0 : Hid (∀ k, k ∈ f1 → V.heap.size ≤ k ∧ k < wg0.heap.size) := fun k hk => ⟨Nat.le_trans sg.h.size (endC.ins Ke k hk).1, (endC.ins Ke k hk).2⟩
  have T0 : Hid (V.heap.size ≤ wg0.heap.size) := Nat.le_trans sg.h.size hbx.size
  replace Ke := endC.low Ke (Below.step BV sg.h).size
  replace R := R.stay hbg
  replace HB := HB.stay hbg
  replace BV := Below.step BV hbg
  replace hne := HW.some wg0
  clear hbg hbx sg
  refine wpM_more [9] 1 0 rfl (by kernel_rfl) (by kernel_rfl) (by kernel_rfl) (by kernel_rfl) ?_
  simp only [opsAt, List.getElem?_toArray, List.getElem?_cons_zero, List.getElem?_cons_succ]
  go_simp
  repeat (go_big_quiet_step (fail))
  refine wpQuiet_nil ?_
  refine wpM_end (by kernel_rfl) rfl (by kernel_rfl) (by decide) ?_
  rintro _ ⟨sgz, rfl⟩
  simp only [List.drop_succ_cons, List.drop_zero]
  go_simp
  replace R := R.stay sgz.h
  replace HB := HB.stay sgz.h
  replace Ke := endC.stay Ke sgz.h
  replace BV := Below.step BV sgz.h
  clear hne
  generalize sgz.w = W at *
  clear sgz
  have BZ := Below.step BW BV
  have hres : Hid ((Tryz.prog.info? 78).map (·.size) = some 14) := by show _ = _; kernel_rfl
  refine wpList_store_row rfl 78 (.tmp 2) (.tmp 12) rfl w.heap.size #[.int .i64 0, .int .i64 t.e.1.1, .slice s1 t.e.1.2.1.length y1, .int .i64 t.e.1.2.2.1, .slice s2 t.e.1.2.2.2.length y2, .int .i64 t.e.2.1, .int .i64 t.e.2.2.1, .slice s3 t.e.2.2.2.1.length y3, .slice s4 t.e.2.2.2.2.1.length y4, .slice s5 t.e.2.2.2.2.2.1.length y5, .slice s6 t.e.2.2.2.2.2.2.1.length y6, .slice s7 t.e.2.2.2.2.2.2.2.1.length y7, .slice s8 t.e.2.2.2.2.2.2.2.2.length y8, .slice pn t.send.length qn] rfl rfl 78 #[.int .i64 0, .int .i64 0, .slice none 0 0, .int .i64 0, .slice none 0 0, .int .i64 0, .int .i64 0, .slice none 0 0, .slice none 0 0, .slice none 0 0, .slice none 0 0, .slice none 0 0, .slice none 0 0, .slice none 0 0] R hres.out rfl (by simp [Value.oneCell']) ?_
  go_wp2
  have KS : OwnL 82 msgC (W.setRow w.heap.size #[.int .i64 0, .int .i64 t.e.1.1, .slice s1 t.e.1.2.1.length y1, .int .i64 t.e.1.2.2.1, .slice s2 t.e.1.2.2.2.length y2, .int .i64 t.e.2.1, .int .i64 t.e.2.2.1, .slice s3 t.e.2.2.2.1.length y3, .slice s4 t.e.2.2.2.2.1.length y4, .slice s5 t.e.2.2.2.2.2.1.length y5, .slice s6 t.e.2.2.2.2.2.2.1.length y6, .slice s7 t.e.2.2.2.2.2.2.2.1.length y7, .slice s8 t.e.2.2.2.2.2.2.2.2.length y8, .slice pn t.send.length qn]) w0.heap.size (.slice pn t.send.length qn) t.send xs f := HB.own.fr fun k hk => setRow_other W w.heap.size k _ (by have := HI.out k hk; omega)
  refine bodyPost_ret (v := .agg #[.int .i64 0, .int .i64 t.e.1.1, .slice s1 t.e.1.2.1.length y1, .int .i64 t.e.1.2.2.1, .slice s2 t.e.1.2.2.2.length y2, .int .i64 t.e.2.1, .int .i64 t.e.2.2.1, .slice s3 t.e.2.2.2.1.length y3, .slice s4 t.e.2.2.2.2.1.length y4, .slice s5 t.e.2.2.2.2.2.1.length y5, .slice s6 t.e.2.2.2.2.2.2.1.length y6, .slice s7 t.e.2.2.2.2.2.2.2.1.length y7, .slice s8 t.e.2.2.2.2.2.2.2.2.length y8, .slice pn t.send.length qn]) (results_cell_row Tryz.results158 _ _ w.heap.size 78 _ (0, 0) _ rfl (R.row [.int .i64 0, .int .i64 t.e.1.1, .slice s1 t.e.1.2.1.length y1, .int .i64 t.e.1.2.2.1, .slice s2 t.e.1.2.2.2.length y2, .int .i64 t.e.2.1, .int .i64 t.e.2.2.1, .slice s3 t.e.2.2.2.1.length y3, .slice s4 t.e.2.2.2.2.1.length y4, .slice s5 t.e.2.2.2.2.2.1.length y5, .slice s6 t.e.2.2.2.2.2.2.1.length y6, .slice s7 t.e.2.2.2.2.2.2.2.1.length y7, .slice s8 t.e.2.2.2.2.2.2.2.2.length y8, .slice pn t.send.length qn]) Tryz.underlying78 rfl hres.out) rfl ⟨[.int .i64 0, .int .i64 t.e.1.1, .slice s1 t.e.1.2.1.length y1, .int .i64 t.e.1.2.2.1, .slice s2 t.e.1.2.2.2.length y2, .int .i64 t.e.2.1, .int .i64 t.e.2.2.1, .slice s3 t.e.2.2.2.1.length y3, .slice s4 t.e.2.2.2.2.1.length y4, .slice s5 t.e.2.2.2.2.2.1.length y5, .slice s6 t.e.2.2.2.2.2.2.1.length y6, .slice s7 t.e.2.2.2.2.2.2.2.1.length y7, .slice s8 t.e.2.2.2.2.2.2.2.2.length y8, .slice pn t.send.length qn], _, rfl, endR_of (r := (0, t.e, t.send)) (us := [.int .i64 t.e.1.1, .slice s1 t.e.1.2.1.length y1, .int .i64 t.e.1.2.2.1, .slice s2 t.e.1.2.2.2.length y2, .int .i64 t.e.2.1, .int .i64 t.e.2.2.1, .slice s3 t.e.2.2.2.1.length y3, .slice s4 t.e.2.2.2.2.1.length y4, .slice s5 t.e.2.2.2.2.2.1.length y5, .slice s6 t.e.2.2.2.2.2.2.1.length y6, .slice s7 t.e.2.2.2.2.2.2.2.1.length y7, .slice s8 t.e.2.2.2.2.2.2.2.2.length y8]) (endC.low (endC.row Ke (fun k hk => by have := I0.out k hk; have := HVZ.out; omega) _) (by have := HZ.out; have := HVZ.out; omega)) ⟨_, xs, f, rfl, KS, rfl⟩ (fun k h1 h2 => by have := I0.out k h1; have := HI.out k h2; have := HVZ.out; omega), Below.row BZ (Nat.le_refl _) _⟩
set_option maxRecDepth 4000 in
theorem catch_idle (p : Addr) (w : World) :
    CallsD Tryz.prog 157 #[.pointer (some p)] .returning w fun e u' w' => e = .returned (.tuple #[]) ∧ u' = .returning ∧ w' = w := by
  refine callsD_of_wpS Tryz.func157 rfl fun c₀ cs hu => ?_
  apply wpS_seq
  apply wpS_region
  simp [wpOpsS, go_sem, recoverD, hu, Tryz.ntmps157, Exit.thenS]
  refine wpS_of_wp ?_
  change Code.wp _ _ _ { tmps := #[.pointer (some p), .nilIface, undef, undef, .nilIface, undef, undef, undef, undef, undef, undef, undef, undef, undef, undef, undef, undef], defers := [] } _
  have hq : ∀ w, (binOp .eql 20 .nilIface .nilIface).run Tryz.prog w = .ok (.bool true) w := by intro w; kernel_rfl
  go_wp2
  refine ⟨rfl, .returning, ?_, .tuple #[], by simp [results, Tryz.results157], rfl, rfl, rfl⟩
  cases c₀
  simp_all
set_option maxRecDepth 4000 in
theorem catch_panic (g : Nat) (c : Int) (w : World) (A : Arr w g 78 [.int .i64 0, .int .i64 0, .slice none 0 0, .int .i64 0, .slice none 0 0, .int .i64 0, .int .i64 0, .slice none 0 0, .slice none 0 0, .slice none 0 0, .slice none 0 0, .slice none 0 0, .slice none 0 0, .slice none 0 0]) :
    CallsD Tryz.prog 157 #[.pointer (some ⟨g, 0, none⟩)] (.panicking (refV c)) w fun e u' w' => e = .returned (.tuple #[]) ∧ u' = .panicking [{ v := .iface 185 (.int .i64 c), recovered := true }] ∧ w' = w.setRow g #[.int .i64 c, .int .i64 0, .slice none 0 0, .int .i64 0, .slice none 0 0, .int .i64 0, .int .i64 0, .slice none 0 0, .slice none 0 0, .slice none 0 0, .slice none 0 0, .slice none 0 0, .slice none 0 0, .slice none 0 0] := by
  refine callsD_of_wpS Tryz.func157 rfl fun c₀ cs hu => ?_
  unfold refV at hu
  apply wpS_seq
  apply wpS_region
  simp [wpOpsS, go_sem, recoverD, hu, Tryz.ntmps157, Exit.thenS]
  refine wpS_of_wp ?_
  change Code.wp _ _ _ { tmps := #[.pointer (some ⟨g, 0, none⟩), .iface 185 (.int .i64 c), undef, undef, .iface 185 (.int .i64 c), undef, undef, undef, undef, undef, undef, undef, undef, undef, undef, undef, undef], defers := [] } _
  have hq : ∀ w, (binOp .eql 20 (.iface 185 (.int .i64 c)) .nilIface).run Tryz.prog w = .ok (.bool false) w := by intro w; kernel_rfl
  have hty : ∀ w, (Instr.typeAssert (.iface 185 (.int .i64 c)) 20 185 true).run Tryz.prog w = .ok (.tuple #[.int .i64 c, .bool true]) w := by intro w; kernel_rfl
  have hres : Hid ((Tryz.prog.info? 78).map (·.size) = some 14) := by show _ = _; kernel_rfl
  go_wp2_with (refine wpList_store_row rfl 78 (.tmp 0) (.tmp 16) rfl g #[.int .i64 c, .int .i64 0, .slice none 0 0, .int .i64 0, .slice none 0 0, .int .i64 0, .int .i64 0, .slice none 0 0, .slice none 0 0, .slice none 0 0, .slice none 0 0, .slice none 0 0, .slice none 0 0, .slice none 0 0] rfl rfl 78 #[.int .i64 0, .int .i64 0, .slice none 0 0, .int .i64 0, .slice none 0 0, .int .i64 0, .int .i64 0, .slice none 0 0, .slice none 0 0, .slice none 0 0, .slice none 0 0, .slice none 0 0, .slice none 0 0, .slice none 0 0] A hres.out rfl (by simp [Value.oneCell']) ?_)
  exact ⟨rfl, _, rfl, .tuple #[], by simp [results, Tryz.results157], rfl, rfl, rfl⟩
def stepV (b : Nat) (F : Nat) : Value := .func (.func F) #[.pointer (some ⟨b, 0, none⟩)] #[]
def EntF (N : Nat) : Prop := ∀ (args : Array Value) (w : World), (callFunc N args).run Tryz.prog w = .ok (.enter N args) w
set_option maxRecDepth 4000 in
set_option maxHeartbeats 2000000 in
theorem through_c (b gs : Nat) (Fs : List Nat) (w : World) (r : EndResultD) (P : Nat → World → Prop) (hgs : Arr w gs 1 (Fs.map (stepV b))) (hbg : b ≠ gs) (hb : b < w.heap.size) (hn : Fs.length ≤ 100) (hE : ∀ F, F ∈ Fs → EntF F)
    (h0 : P 0 (w.alloc (.cells #[.int .i64 0, .int .i64 0, .slice none 0 0, .int .i64 0, .slice none 0 0, .int .i64 0, .int .i64 0, .slice none 0 0, .slice none 0 0, .slice none 0 0, .slice none 0 0, .slice none 0 0, .slice none 0 0, .slice none 0 0] 78)))
    (hO : ∀ i v, P i v → Only [b] (w.alloc (.cells #[.int .i64 0, .int .i64 0, .slice none 0 0, .int .i64 0, .slice none 0 0, .int .i64 0, .int .i64 0, .slice none 0 0, .slice none 0 0, .slice none 0 0, .slice none 0 0, .slice none 0 0, .slice none 0 0, .slice none 0 0] 78)) v)
    (hstep : ∀ i F, Fs[i]? = some F → ∀ v, P i v → Calls Tryz.prog F #[.pointer (some ⟨b, 0, none⟩)] v fun e v' => (e = .returned (.tuple #[]) ∧ P (i + 1) v') ∨ ∃ c, e = .panicked (refV c) ∧ Only [b] (w.alloc (.cells #[.int .i64 0, .int .i64 0, .slice none 0 0, .int .i64 0, .slice none 0 0, .int .i64 0, .int .i64 0, .slice none 0 0, .slice none 0 0, .slice none 0 0, .slice none 0 0, .slice none 0 0, .slice none 0 0, .slice none 0 0] 78)) v' ∧ r = badE c)
    (hend : ∀ v, P Fs.length v → ∃ t, Shk (w.alloc (.cells #[.int .i64 0, .int .i64 0, .slice none 0 0, .int .i64 0, .slice none 0 0, .int .i64 0, .int .i64 0, .slice none 0 0, .slice none 0 0, .slice none 0 0, .slice none 0 0, .slice none 0 0, .slice none 0 0, .slice none 0 0] 78)) b v t ∧ endT t.e ≤ 1000000 ∧ r = (0, t.e, t.send)) :
    Calls Tryz.prog 91 #[.pointer (some ⟨b, 0, none⟩), .slice (some ⟨gs, 0, none⟩) Fs.length Fs.length] w fun e w' => ∃ us fp, e = .returned (.agg us.toArray) ∧ endResultC.own w' w.heap.size r us fp ∧ Only [b] w w' := by
  have hmf : ∀ (fn : Fn) (first cap : Array Value) (w : World), (Instr.makeFunc fn first cap).run Tryz.prog w = .ok (.func fn first cap) w := fun _ _ _ _ => rfl
  have HGS := hgs.old _ (.cells #[.int .i64 0, .int .i64 0, .slice none 0 0, .int .i64 0, .slice none 0 0, .int .i64 0, .int .i64 0, .slice none 0 0, .slice none 0 0, .slice none 0 0, .slice none 0 0, .slice none 0 0, .slice none 0 0, .slice none 0 0] 78)
  have R := Arr.new w [.int .i64 0, .int .i64 0, .slice none 0 0, .int .i64 0, .slice none 0 0, .int .i64 0, .int .i64 0, .slice none 0 0, .slice none 0 0, .slice none 0 0, .slice none 0 0, .slice none 0 0, .slice none 0 0, .slice none 0 0] 78
  have hlen : (Fs.length : Int) ≤ 100 := by omega
  have HZ : Hid ((w.alloc (.cells #[.int .i64 0, .int .i64 0, .slice none 0 0, .int .i64 0, .slice none 0 0, .int .i64 0, .int .i64 0, .slice none 0 0, .slice none 0 0, .slice none 0 0, .slice none 0 0, .slice none 0 0, .slice none 0 0, .slice none 0 0] 78)).heap.size = w.heap.size + 1) := size_alloc _ _
  have HOW : Hid (Only [b] w (w.alloc (.cells #[.int .i64 0, .int .i64 0, .slice none 0 0, .int .i64 0, .slice none 0 0, .int .i64 0, .int .i64 0, .slice none 0 0, .slice none 0 0, .slice none 0 0, .slice none 0 0, .slice none 0 0, .slice none 0 0, .slice none 0 0] 78))) := Only.below (alloc_below _ _)
  have HB : Hid (b < w.heap.size) := hb
  clear hgs hn hb
  go_enter_defers Tryz.func91, Tryz.ntmps91
  go_wp2_with fail
  generalize w.alloc (.cells #[.int .i64 0, .int .i64 0, .slice none 0 0, .int .i64 0, .slice none 0 0, .int .i64 0, .int .i64 0, .slice none 0 0, .slice none 0 0, .slice none 0 0, .slice none 0 0, .slice none 0 0, .slice none 0 0, .slice none 0 0] 78) = w0 at *
  go_loopw [10] (fun i wr => ∃ k : Nat, k ≤ Fs.length ∧ i = .int .i64 k ∧ P k wr)
    (fun i _ => Fs.length - (intOf i).toNat)
  case atStart => exact ⟨0, Nat.zero_le _, rfl, h0⟩
  case round =>
    obtain ⟨k, hk, rfl, hp⟩ := hrel
    have ON := hO k wr hp
    have HG2 : Arr wr gs 1 (Fs.map (stepV b)) := (ON.block gs HGS.lt (fun h => hbg (List.mem_singleton.1 h).symm)).trans HGS
    have HR2 : Arr wr w.heap.size 78 [.int .i64 0, .int .i64 0, .slice none 0 0, .int .i64 0, .slice none 0 0, .int .i64 0, .int .i64 0, .slice none 0 0, .slice none 0 0, .slice none 0 0, .slice none 0 0, .slice none 0 0, .slice none 0 0, .slice none 0 0] := (ON.block w.heap.size R.lt (fun h => by have := HB.out; have := List.mem_singleton.1 h; omega)).trans R
    by_cases hlt : k < Fs.length
    · have hI : (k : Int) < (Fs.length : Int) := by omega
      obtain ⟨F, hF⟩ : ∃ F, Fs[k]? = some F := ⟨Fs[k], by simp [hlt]⟩
      have cF : wr.cell? ⟨gs, k, none⟩ = some (.func (.func F) #[.pointer (some ⟨b, 0, none⟩)] #[]) := by
        rw [HG2.cell k, List.getElem?_map, hF]; rfl
      have eF : ∀ (args : Array Value) (w : World), (callFunc F args).run Tryz.prog w = .ok (.enter F args) w := hE F (List.mem_of_getElem? hF)
      have KS := hstep k F hF wr hp
      clear HG2 HR2 hO hend h0 hE hp
      go_wp2_with fail
      refine KS.mono ?_
      rintro e v (⟨rfl, hp⟩ | ⟨c, rfl, ON2, rfl⟩)
      · clear KS hstep
        go_wp2_with fail
        go_roundw
        case rel => exact ⟨k + 1, by omega, by go_num, hp⟩
        case measure => simp [intOf]; omega
      · have HR3 : Arr v w.heap.size 78 [.int .i64 0, .int .i64 0, .slice none 0 0, .int .i64 0, .slice none 0 0, .int .i64 0, .int .i64 0, .slice none 0 0, .slice none 0 0, .slice none 0 0, .slice none 0 0, .slice none 0 0, .slice none 0 0, .slice none 0 0] := (ON2.block w.heap.size R.lt (fun h => by have := HB.out; have := List.mem_singleton.1 h; omega)).trans R
        have hres : Hid ((Tryz.prog.info? 78).map (·.size) = some 14) := by show _ = _; kernel_rfl
        have HON : Hid (Only [b] w (v.setRow w.heap.size #[.int .i64 c, .int .i64 0, .slice none 0 0, .int .i64 0, .slice none 0 0, .int .i64 0, .int .i64 0, .slice none 0 0, .slice none 0 0, .slice none 0 0, .slice none 0 0, .slice none 0 0, .slice none 0 0, .slice none 0 0])) := ⟨ON2.os.trans HOW.out.os, ON2.tape.trans HOW.out.tape, ON2.output.trans HOW.out.output, by rw [size_setRow]; exact Nat.le_trans HOW.out.size ON2.size, fun j hj hn => by rw [setRow_other _ _ _ _ (by omega), ON2.block j (by have := HOW.out.size; omega) hn, HOW.out.block j hj hn]⟩
        clear KS hstep
        refine leaves_cons (f := 157) (args := #[.pointer (some ⟨w.heap.size, 0, none⟩)]) (by simp) (by simp [go_sem]) ?_
        refine (catch_panic w.heap.size c v HR3).mono ?_
        rintro e u' w'' ⟨rfl, rfl, rfl⟩
        exact ⟨.agg #[.int .i64 c, .int .i64 0, .slice none 0 0, .int .i64 0, .slice none 0 0, .int .i64 0, .int .i64 0, .slice none 0 0, .slice none 0 0, .slice none 0 0, .slice none 0 0, .slice none 0 0, .slice none 0 0, .slice none 0 0], results_cell_row Tryz.results91 _ _ w.heap.size 78 _ (0, 0) _ rfl (HR3.row [.int .i64 c, .int .i64 0, .slice none 0 0, .int .i64 0, .slice none 0 0, .int .i64 0, .int .i64 0, .slice none 0 0, .slice none 0 0, .slice none 0 0, .slice none 0 0, .slice none 0 0, .slice none 0 0, .slice none 0 0]) Tryz.underlying78 rfl hres.out, [.int .i64 c, .int .i64 0, .slice none 0 0, .int .i64 0, .slice none 0 0, .int .i64 0, .int .i64 0, .slice none 0 0, .slice none 0 0, .slice none 0 0, .slice none 0 0, .slice none 0 0, .slice none 0 0, .slice none 0 0], _, rfl, badE_own _ _ c, HON.out⟩
    · have ek : k = Fs.length := by omega
      subst ek
      obtain ⟨t, ht, hl, rfl⟩ := hend wr hp
      have KT := told_c w0 b wr t ht hl
      clear hend hstep hO h0 hE hp HG2 ht
      go_wp2_with fail
      refine KT.mono ?_
      rintro e v ⟨us, fp, rfl, ko, hb1⟩
      have hus : us.length = 14 := endResultC.len (endResultC.toRep ko)
      have hone := endResultC.one (endResultC.toRep ko)
      replace HR2 := HR2.stay hb1
      have hres : Hid ((Tryz.prog.info? 78).map (·.size) = some us.toArray.size) := by show _ = _; rw [List.size_toArray, hus]; kernel_rfl
      have HON : Hid (Only [b] w (v.setRow w.heap.size us.toArray)) := ⟨hb1.os.trans (ON.os.trans HOW.out.os), hb1.tape.trans (ON.tape.trans HOW.out.tape), hb1.output.trans (ON.output.trans HOW.out.output), by rw [size_setRow]; exact Nat.le_trans HOW.out.size (Nat.le_trans ON.size hb1.size), fun j hj hn => by rw [setRow_other _ _ _ _ (by omega), hb1.block j (by have := HOW.out.size; have := ON.size; omega), ON.block j (by have := HOW.out.size; omega) hn, HOW.out.block j hj hn]⟩
      have KO : Hid (endResultC.own (v.setRow w.heap.size us.toArray) w.heap.size (0, t.e, t.send) us fp) := endResultC.low (endResultC.row ko (fun k hk => by have := (endResultC.ins ko k hk).1; have := HZ.out; omega) _) (by have := HZ.out; omega)
      have H14 : Hid (us.length = 14) := hus
      clear KT hb1 ko hus ON
      go_wp2_with (refine wpList_store_row rfl 78 (.tmp 4) (.tmp 18) rfl w.heap.size us.toArray rfl rfl 78 #[.int .i64 0, .int .i64 0, .slice none 0 0, .int .i64 0, .slice none 0 0, .int .i64 0, .int .i64 0, .slice none 0 0, .slice none 0 0, .slice none 0 0, .slice none 0 0, .slice none 0 0, .slice none 0 0, .slice none 0 0] HR2 hres.out (by have h := H14.out; simp [h]) (by simpa using hone) ?_)
      refine leaves_cons (f := 157) (args := #[.pointer (some ⟨w.heap.size, 0, none⟩)]) (by simp) (by simp [go_sem]) ?_
      refine (catch_idle ⟨w.heap.size, 0, none⟩ _).mono ?_
      rintro e u' w'' ⟨rfl, rfl, rfl⟩
      exact ⟨.agg us.toArray, results_cell_row Tryz.results91 _ _ w.heap.size 78 _ (0, 0) _ rfl (HR2.row us) Tryz.underlying78 rfl hres.out, us, fp, rfl, KO.out, HON.out⟩
end Go.Proofs.YtdbpnibcblelbaaGreatDoor
