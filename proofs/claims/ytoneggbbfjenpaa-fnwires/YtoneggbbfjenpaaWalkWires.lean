/- The walk of FnWires. -/
import Derived.Test.YtoneggbbfjenpaaDrawW
import Derived.Test.YtoneggbbfjenpaaWireI
import Derived.Test.YtoneggbbfjenpaaBig
import Derived.Test.YtoneggbbfjenpaaLwSame
import Derived.Test.YtoneggbbfjenpaaOdd
import Derived.Test.YtoneggbbfjenpaaPick
import Derived.Test.YtoneggbbfjenpaaFields
namespace Go.Proofs.Ytoneggbbfjenpaa
open Go.ChangeShapes Go.WideShapes Go.ChangeAt Go.RowKit

theorem msgs_f0 (c t : Int) (a : Option Addr) (n m : Nat) (w : World) : (Instr.field 27 (.agg #[.int .i64 c, .int .i64 t, .slice a n m]) 0).run Try.prog w = .ok (.int .i64 c) w := by kernel_rfl
theorem msgs_f1 (c t : Int) (a : Option Addr) (n m : Nat) (w : World) : (Instr.field 27 (.agg #[.int .i64 c, .int .i64 t, .slice a n m]) 1).run Try.prog w = .ok (.int .i64 t) w := by kernel_rfl

/-- Messages that own their memory. -/
def OwnM (w : World) (B : Nat) (v : Value) (l : List MsgD) : Prop := ∃ xs fp, OwnL 36 msgC w B v l xs fp
theorem OwnM.rd {w : World} {B : Nat} {v : Value} {l : List MsgD} (h : OwnM w B v l) : ∃ p q, v = .slice p l.length q ∧ RdL msgC w p q l := by
  obtain ⟨xs, fp, ho⟩ := h
  exact ho.rd
/-- What is read is packed again as it was. -/
theorem ps_um {data : List UInt8} (h : (umC data).1 = 0) : psC (umC data).2.2 = 0 ∧ psL (umC data).2.2 = data := by
  by_cases hd : data.length ≤ 600
  · rw [umC_le hd] at h ⊢
    obtain ⟨h1, h2, h3⟩ := pack_unpack data data.length 0 [] _ (by omega) (Nat.zero_le _) (by simp [packAll]) (by simp) (fun a ha => by cases ha) rfl h
    have hf : firstF (unpackR data 0 []).2.2 = 0 := firstF_zero fun j b hb => h3 b (List.mem_of_getElem? hb)
    have hc : psC (unpackR data 0 []).2.2 = 0 := by unfold psC; rw [if_pos h2, if_pos hf, h1, if_pos hd]
    exact ⟨hc, by rw [psL, if_pos hc, h1]⟩
  · rw [umC_many hd] at h
    cases h
/-- What is packed is read again. -/
theorem um_ps {l : List MsgD} (h : psC l = 0) : umC (psL l) = (0, 0, l) := by
  obtain ⟨h1, h2, h3⟩ := psC_zero h
  rw [psL, if_pos h, umC_le h3]
  have := unpack_pack l [] [] (firstF_all h2) (by simpa using h1)
  simpa using this

set_option maxRecDepth 4000 in
set_option maxHeartbeats 8000000 in
theorem fnWires_walk (a : Option Addr) (cap : Nat) (bs0 : List UInt8) (w : World) (r0 : Rd w a cap bs0) :
    Calls Try.prog 3 #[.slice a bs0.length cap] w fun e w' => e = .returned (.bool true) ∧ Below w.heap.size w w' := by
  by_cases hl0 : 1048576 < bs0.length
  · go_enter Try.func3, Try.ntmps3
    go_wp2_with fail
    refine (lwBig_yes _ _ _ _ hl0).mono ?_
    rintro e w1 ⟨rfl, rfl⟩
    go_wp2
    go_ret
    exact ⟨rfl, Below.refl _ _⟩
  replace hl0 : bs0.length ≤ 1048576 := by omega
  have bf0 := bytes_f0
  have bf1 := bytes_f1
  have mf0 := msgs_f0
  have mf1 := msgs_f1
  go_enter Try.func3, Try.ntmps3
  go_wp2_with fail
  refine (lwBig_no _ _ _ _ hl0).mono ?_
  rintro e w1 ⟨rfl, hw1⟩
  rw [hw1]
  clear hw1 w1
  go_wp2_with fail
  refine (drawUM_c _ _ bs0 _ r0).mono ?_
  rintro e w1 ⟨p1, q1, data, rfl, hdl, rd, BW⟩
  replace r0 := r0.keep BW
  go_wp2_with fail
  refine (implUM_c data p1 q1 _ rd).mono ?_
  rintro e w2 ⟨v, xs, fp, rfl, ho, hb2⟩
  obtain ⟨uc, huc⟩ : ∃ c, Hid (c = (umC data).1) := ⟨_, rfl⟩
  obtain ⟨ut, hut⟩ : ∃ c, Hid (c = (umC data).2.1) := ⟨_, rfl⟩
  obtain ⟨ul, hul⟩ : ∃ c, Hid (c = (umC data).2.2) := ⟨_, rfl⟩
  rw [← hul.out] at ho
  rw [← huc.out, ← hut.out]
  obtain ⟨p2, q2, rfl, rl⟩ := ho.rd
  clear ho
  replace r0 := r0.keep hb2
  replace rd := rd.keep hb2
  replace BW := Below.step BW hb2
  clear hb2
  --@tail
  have A1 := Arr.new w2 [.int .i64 uc, .int .i64 ut, .slice p2 ul.length q2] 27
  have hbA := alloc_below w2 (.cells #[.int .i64 uc, .int .i64 ut, .slice p2 ul.length q2] 27)
  replace r0 := r0.keep hbA
  replace rd := rd.keep hbA
  replace rl := rl.keep hbA
  replace BW := Below.step BW hbA
  have KSU : Hid (∀ w, Rd w p1 q1 data → Calls Try.prog 12 #[.slice p1 data.length q1] w fun e w' => ∃ u, e = .returned (.agg #[.int .i64 uc, .int .i64 ut, u]) ∧ OwnM w' w.heap.size u ul ∧ Below w.heap.size w w') := fun w h => by
    rw [huc.out, hut.out, hul.out]
    refine (specUM_c data p1 q1 w h).mono ?_
    rintro e w' ⟨v, xs, fp, rfl, ho, hb⟩
    exact ⟨v, rfl, ⟨xs, fp, ho⟩, hb⟩
  clear hbA
  go_wp2_with fail
  generalize w2.alloc (Obj.cells #[Value.int IntKind.i64 uc, Value.int IntKind.i64 ut, Value.slice p2 ul.length q2] 27) = W at *
  have c1 := A1.cell 0
  have c2 := A1.cell 1
  have c3 := A1.cell 2
  simp at c1 c2 c3
  have g1 := HW.at c1
  have g2 := HW.at c2
  have g3 := HW.at c3
  have hne := HW.some W
  clear c1 c2 c3 A1
  by_cases hq0 : uc = 0
  case' pos =>
    have KPU : Hid (∀ w, RdL msgC w p2 q2 ul → Calls Try.prog 14 #[.slice p2 ul.length q2] w fun e w' => ∃ u, e = .returned (.agg #[.int .i64 0, u]) ∧ Own w' w.heap.size u data ∧ Below w.heap.size w w') := fun w h => by
      have g := implPS_c ul p2 q2 w h
      obtain ⟨e1, e2⟩ := ps_um (data := data) (by rw [← huc.out]; exact hq0)
      rw [← hul.out] at e1 e2
      rw [e1, e2] at g
      exact g
    subst hq0
    clear huc hut hul
    refine wp_region_odd_seg 3 25 rfl (by kernel_rfl) (by kernel_rfl) (by kernel_rfl) (by kernel_rfl) ?_
    simp only [List.take_succ_cons, List.take_zero]
    repeat (go_big_quiet_step (fail))
    refine wpQuiet_nil ?_
    refine wpG_call (k := 3) rfl (by kernel_rfl) (by kernel_rfl) (by go_simp) 12 _ #[.slice p1 data.length q1] (fun w => by go_simp) rfl ?_
    rintro _ ⟨sg0, rfl⟩
    refine (KSU.out _ (rd.keep sg0.h)).mono ?_
    rintro e wg0 ⟨ug, rfl, kg, hbx⟩
    obtain ⟨p3, q3, rfl, r3⟩ := kg.rd
    have hbg := Below.step sg0.h hbx
    refine ⟨_, rfl, ⟨⟨wg0, hbx⟩, rfl⟩, ?_⟩
    replace g1 := HW.down g1 hbg
    replace g2 := HW.down g2 hbg
    replace g3 := HW.down g3 hbg
    replace r0 := r0.keep hbg
    replace rd := rd.keep hbg
    replace rl := rl.keep hbg
    replace BW := Below.step BW hbg
    replace hne := HW.some wg0
    clear hbg kg r3 hbx
    refine wpG_next 4 6 18 (by decide) (by kernel_rfl) (by kernel_rfl) (by kernel_rfl) ?_
    simp only [List.drop_succ_cons, List.drop_zero, List.take_succ_cons, List.take_zero]
    go_simp
    repeat (go_big_quiet_step (fail))
    refine wpQuiet_nil ?_
    refine wpG_call (k := 10) rfl (by kernel_rfl) (by kernel_rfl) (by go_simp) 12 _ #[.slice p1 data.length q1] (fun w => by go_simp) rfl ?_
    rintro _ ⟨sg1, rfl⟩
    refine (KSU.out _ (rd.keep sg1.h)).mono ?_
    rintro e wg1 ⟨ug, rfl, kg, hbx⟩
    obtain ⟨p4, q4, rfl, r4⟩ := kg.rd
    have hbg := Below.step sg1.h hbx
    refine ⟨_, rfl, ⟨⟨wg1, hbx⟩, rfl⟩, ?_⟩
    replace g1 := HW.down g1 hbg
    replace g2 := HW.down g2 hbg
    replace g3 := HW.down g3 hbg
    replace r0 := r0.keep hbg
    replace rd := rd.keep hbg
    replace rl := rl.keep hbg
    replace BW := Below.step BW hbg
    replace hne := HW.some wg1
    clear hbg kg r4 hbx
    refine wpG_next 11 10 7 (by decide) (by kernel_rfl) (by kernel_rfl) (by kernel_rfl) ?_
    simp only [List.drop_succ_cons, List.drop_zero, List.take_succ_cons, List.take_zero]
    go_simp
    repeat (go_big_quiet_step (fail))
    refine wpQuiet_nil ?_
    rw [upX_nil]
    refine wpG_early (x := 23) rfl (by kernel_rfl) (by kernel_rfl) (by kernel_rfl) rfl ?_
    go_simp
    repeat (go_big_quiet_step (fail))
    refine wpQuiet_nil ?_
    refine wpG_callX (k := 21) rfl (by kernel_rfl) (by kernel_rfl) (by go_simp) 14 _ #[.slice p2 ul.length q2] (fun w => by go_simp) rfl ?_
    rintro _ ⟨sg2, rfl⟩
    refine (KPU.out _ (rl.keep sg2.h)).mono ?_
    rintro e wg2 ⟨ug, rfl, kg, hbx⟩
    obtain ⟨p5, q5, rfl, r5⟩ := kg.rd
    have hbg := Below.step sg2.h hbx
    refine ⟨_, rfl, ⟨⟨wg2, hbx⟩, rfl⟩, ?_⟩
    replace g1 := HW.down g1 hbg
    replace g2 := HW.down g2 hbg
    replace g3 := HW.down g3 hbg
    replace r0 := r0.keep hbg
    replace rd := rd.keep hbg
    replace BW := Below.step BW hbg
    replace hne := HW.some wg2
    clear hbg kg hbx rl
    refine wpG_oneX (k := 22) rfl (by kernel_rfl) (by kernel_rfl) (by kernel_rfl) rfl ?_
    go_simp
    repeat (go_big_quiet_step (fail))
    refine wpQuiet_nil ?_
    rw [upX_join]
    refine wpG_call (k := 24) rfl (by kernel_rfl) (by kernel_rfl) (by go_simp) 13 _ #[.slice p5 data.length q5, .slice p1 data.length q1] (fun w => by go_simp) rfl ?_
    rintro _ ⟨sg3, rfl⟩
    refine (lwSame_yes p5 p1 q5 q1 data.length data.length data _ rfl rfl (r5.keep sg3.h) (rd.keep sg3.h)).mono ?_
    rintro e wg3 ⟨rfl, hwg⟩
    subst hwg
    refine ⟨_, rfl, ⟨⟨sg3.w, Below.refl _ _⟩, rfl⟩, ?_⟩
    have hbg : Below _ _ sg3.w := sg3.h
    replace g1 := HW.down g1 hbg
    replace g2 := HW.down g2 hbg
    replace g3 := HW.down g3 hbg
    replace r0 := r0.keep hbg
    replace BW := Below.step BW hbg
    replace hne := HW.some sg3.w
    clear hbg r5 rd
    generalize sg3.w = wg3 at *
    clear sg3
    refine wpG_next 25 3 0 (by decide) (by kernel_rfl) (by kernel_rfl) (by kernel_rfl) ?_
    simp only [List.drop_succ_cons, List.drop_zero, List.take_succ_cons, List.take_zero]
    go_simp
    repeat (go_big_quiet_step (fail))
    refine wpQuiet_nil ?_
    refine wpG_end rfl ?_
    rintro _ ⟨sgz, rfl⟩
    have hbg : Below _ _ sgz.w := sgz.h
    replace r0 := r0.keep hbg
    replace BW := Below.step BW hbg
    replace g1 := g1 sgz
    replace g2 := g2 sgz
    replace g3 := g3 sgz
    clear hbg hne
    generalize sgz.w = Wa at *
    clear sgz
  case' neg =>
    have hq1 : (uc == 0) = false := by rw [beq_eq_false_iff_ne]; exact hq0
    clear huc hut hul hq0
    refine wp_region_odd_seg 3 25 rfl (by kernel_rfl) (by kernel_rfl) (by kernel_rfl) (by kernel_rfl) ?_
    simp only [List.take_succ_cons, List.take_zero]
    repeat (go_big_quiet_step (fail))
    refine wpQuiet_nil ?_
    refine wpG_call (k := 3) rfl (by kernel_rfl) (by kernel_rfl) (by go_simp) 12 _ #[.slice p1 data.length q1] (fun w => by go_simp) rfl ?_
    rintro _ ⟨sg0, rfl⟩
    refine (KSU.out _ (rd.keep sg0.h)).mono ?_
    rintro e wg0 ⟨ug, rfl, kg, hbx⟩
    obtain ⟨p3, q3, rfl, r3⟩ := kg.rd
    have hbg := Below.step sg0.h hbx
    refine ⟨_, rfl, ⟨⟨wg0, hbx⟩, rfl⟩, ?_⟩
    replace g1 := HW.down g1 hbg
    replace g2 := HW.down g2 hbg
    replace g3 := HW.down g3 hbg
    replace r0 := r0.keep hbg
    replace rd := rd.keep hbg
    replace rl := rl.keep hbg
    replace BW := Below.step BW hbg
    replace hne := HW.some wg0
    clear hbg kg r3 hbx
    refine wpG_next 4 6 18 (by decide) (by kernel_rfl) (by kernel_rfl) (by kernel_rfl) ?_
    simp only [List.drop_succ_cons, List.drop_zero, List.take_succ_cons, List.take_zero]
    go_simp
    repeat (go_big_quiet_step (fail))
    refine wpQuiet_nil ?_
    refine wpG_call (k := 10) rfl (by kernel_rfl) (by kernel_rfl) (by go_simp) 12 _ #[.slice p1 data.length q1] (fun w => by go_simp) rfl ?_
    rintro _ ⟨sg1, rfl⟩
    refine (KSU.out _ (rd.keep sg1.h)).mono ?_
    rintro e wg1 ⟨ug, rfl, kg, hbx⟩
    obtain ⟨p4, q4, rfl, r4⟩ := kg.rd
    have hbg := Below.step sg1.h hbx
    refine ⟨_, rfl, ⟨⟨wg1, hbx⟩, rfl⟩, ?_⟩
    replace g1 := HW.down g1 hbg
    replace g2 := HW.down g2 hbg
    replace g3 := HW.down g3 hbg
    replace r0 := r0.keep hbg
    replace rd := rd.keep hbg
    replace rl := rl.keep hbg
    replace BW := Below.step BW hbg
    replace hne := HW.some wg1
    clear hbg kg r4 hbx
    refine wpG_next 11 10 7 (by decide) (by kernel_rfl) (by kernel_rfl) (by kernel_rfl) ?_
    simp only [List.drop_succ_cons, List.drop_zero, List.take_succ_cons, List.take_zero]
    go_simp
    repeat (go_big_quiet_step (fail))
    refine wpQuiet_nil ?_
    rw [upX_nil]
    refine wpG_early (x := 23) rfl (by kernel_rfl) (by kernel_rfl) (by kernel_rfl) rfl ?_
    go_simp
    repeat (go_big_quiet_step (fail))
    refine wpQuiet_nil ?_
    refine wpG_skipX (k := 21) rfl (by kernel_rfl) (by kernel_rfl) (by go_simp) ?_
    refine wpG_oneX (k := 22) rfl (by kernel_rfl) (by kernel_rfl) (by kernel_rfl) rfl ?_
    go_simp
    repeat (go_big_quiet_step (fail))
    refine wpQuiet_nil ?_
    rw [upX_join]
    refine wpG_skip (k := 24) rfl (by kernel_rfl) (by kernel_rfl) (by go_simp) ?_
    refine wpG_next 25 3 0 (by decide) (by kernel_rfl) (by kernel_rfl) (by kernel_rfl) ?_
    simp only [List.drop_succ_cons, List.drop_zero, List.take_succ_cons, List.take_zero]
    go_simp
    repeat (go_big_quiet_step (fail))
    refine wpQuiet_nil ?_
    refine wpG_end rfl ?_
    rintro _ ⟨sgz, rfl⟩
    have hbg : Below _ _ sgz.w := sgz.h
    replace r0 := r0.keep hbg
    replace rd := rd.keep hbg
    replace rl := rl.keep hbg
    replace BW := Below.step BW hbg
    replace g1 := g1 sgz
    replace g2 := g2 sgz
    replace g3 := g3 sgz
    clear hbg hne
    generalize sgz.w = Wa at *
    clear sgz
    clear rd rl
  all_goals
    clear g1 g2 g3
    go_wp2_with fail
    refine (drawPS_c _ _ bs0 _ r0).mono ?_
    rintro e w3 ⟨v, l, rfl, hll, hla, ⟨xs2, fp2, ho⟩, hb3⟩
    obtain ⟨p6, q6, rfl, rs⟩ := ho.rd
    replace BW := Below.step BW hb3
    clear hb3 ho r0
    go_wp2_with fail
    refine (implPS_c l p6 q6 _ rs).mono ?_
    rintro e w4 ⟨u4, rfl, k4, hb4⟩
    obtain ⟨p7, q7, rfl, rp⟩ := k4.rd
    replace rs := rs.keep hb4
    replace BW := Below.step BW hb4
    clear hb4 k4
    have hbP := fun c n => alloc_below w4 (.cells #[.int .i64 c, .slice p7 n q7] 31)
    by_cases hp0 : psC l = 0
    · obtain ⟨hn1, hn2, hn3⟩ := psC_zero hp0
      have HUM := um_ps hp0
      have HPL : Hid (psL l = packAll l) := by show _ = _; rw [psL, if_pos hp0]
      rw [hp0]
      obtain ⟨pk, HPK⟩ : ∃ pk, Hid (pk = psL l) := ⟨_, rfl⟩
      rw [← HPK.out] at HUM HPL rp ⊢
      have KU : Hid (∀ w, Rd w p7 q7 pk → Calls Try.prog 11 #[.slice p7 pk.length q7] w fun e w' => ∃ u, e = .returned (.agg #[.int .i64 0, .int .i64 0, u]) ∧ OwnM w' w.heap.size u l ∧ Below w.heap.size w w') := fun w h => by
        have g := implUM_c pk p7 q7 w h
        rw [HUM] at g
        refine g.mono ?_
        rintro e w' ⟨v, xs, fp, rfl, ho, hb⟩
        exact ⟨v, rfl, ⟨xs, fp, ho⟩, hb⟩
      clear HUM hp0
      have A2 := Arr.new w4 [.int .i64 0, .slice p7 pk.length q7] 31
      have hbA := alloc_below w4 (.cells #[.int .i64 0, .slice p7 pk.length q7] 31)
      replace rs := rs.keep hbA
      replace rp := rp.keep hbA
      replace BW := Below.step BW hbA
      clear hbA hbP
      go_wp2_with fail
      refine (KU.out _ rp).mono ?_
      rintro e w5 ⟨u5, rfl, k5, hb5⟩
      obtain ⟨p8, q8, rfl, rb⟩ := k5.rd
      replace rs := rs.keep hb5
      replace rp := rp.keep hb5
      replace A2 := A2.stay hb5
      replace BW := Below.step BW hb5
      clear hb5 k5 KU
      have A3 := Arr.new w5 [.int .i64 0, .int .i64 0, .slice p8 l.length q8] 27
      have hbA := alloc_below w5 (.cells #[.int .i64 0, .int .i64 0, .slice p8 l.length q8] 27)
      replace rs := rs.keep hbA
      replace rp := rp.keep hbA
      replace rb := rb.keep hbA
      replace A2 := A2.stay hbA
      replace BW := Below.step BW hbA
      clear hbA
      have HF : Hid (∀ a ∈ l, faultW a.1 a.2.length = 0) := firstF_all hn2
      have HN : Hid ((packAll l).length ≤ 600) := hn3
      go_wp2_with fail
      generalize w5.alloc (Obj.cells #[Value.int IntKind.i64 0, Value.int IntKind.i64 0, Value.slice p8 l.length q8] 27) = V at *
      have H12 : Hid (l.length ≤ 12) := hn1
      clear hn1 hn2 hn3 hll hla
      go_loopw [8, 9] (fun n i wr => ∃ k : Nat, k ≤ l.length ∧ i = .int .i64 k ∧ n = .int .i64 ((packAll (l.take k)).length : Nat) ∧ Arr wr w4.heap.size 31 [.int .i64 0, .slice p7 pk.length q7] ∧ Arr wr w5.heap.size 27 [.int .i64 0, .int .i64 0, .slice p8 l.length q8] ∧ RdL msgC wr p6 q6 l ∧ Rd wr p7 q7 pk ∧ RdL msgC wr p8 q8 l ∧ Below w.heap.size w wr)
        (fun _ i _ => l.length - (intOf i).toNat)
      case atStart => exact ⟨0, Nat.zero_le _, rfl, by simp [packAll], A2, A3, rs, rp, rb, BW⟩
      case round =>
        clear A2 A3 rs rp rb BW
        obtain ⟨k, hk, rfl, rfl, A2, A3, rs, rp, rb, BW⟩ := hrel
        by_cases hlt : k < l.length
        · have hkI : (k : Int) < (l.length : Int) := by omega
          have HK : Hid (k < l.length) := hlt
          have hk12 : k + 1 ≤ 12 := Nat.le_trans hlt H12.out
          obtain ⟨a6, ha⟩ : ∃ a, l[k]? = some a := ⟨l[k], List.getElem?_eq_getElem hlt⟩
          obtain ⟨b6, o6, e6, hc6⟩ := rs.2.2.2 (by omega)
          subst e6
          obtain ⟨us, hrep, hcell⟩ := hc6 k a6 ha
          obtain ⟨pa, qa, rfl, ra⟩ := msg_rep hrep
          have c0 := hcell 0 _ rfl
          have c1 := hcell 1 _ rfl
          rw [show msgC.n = 2 from rfl] at c0 c1
          rw [Nat.add_zero] at c0
          have HA0 : Hid (faultW a6.1 a6.2.length = 0) := HF.out a6 (List.mem_of_getElem? ha)
          have HTK : Hid (packAll (l.take (k + 1)) = packAll (l.take k) ++ packW a6.1 a6.2) := packAll_take ha
          have HLE : Hid ((packAll (l.take (k + 1))).length ≤ 600) := Nat.le_trans (packAll_le l _) HN.out
          have KM : Hid (∀ w, Rd w pa qa a6.2 → Calls Try.prog 17 #[.agg #[.int .i64 a6.1, .slice pa a6.2.length qa]] w fun e w' => ∃ (p : Option Addr) (q : Nat), e = .returned (.agg #[.int .i64 0, .slice p (a6.2.length + 4) q]) ∧ a6.2.length + 4 ≤ q ∧ q ≤ maxLen ∧ Below w.heap.size w w') := fun w h => by
            have g := implPM_c a6 pa qa w h
            rw [HA0.out, show pmL a6 = packW a6.1 a6.2 by rw [pmL, if_pos HA0.out]] at g
            refine g.mono ?_
            rintro e w' ⟨u, rfl, ho, hb⟩
            obtain ⟨p, q, rfl, r⟩ := ho.rd
            have h1 := r.1
            rw [packW_len] at h1 ⊢
            exact ⟨p, q, rfl, h1, r.2.1, hb⟩
          have KF : Hid (∀ w, Rd w pa qa a6.2 → Calls Try.prog 18 #[.agg #[.int .i64 a6.1, .slice pa a6.2.length qa]] w fun e w' => e = .returned (.int .i64 0) ∧ Below w.heap.size w w') := fun w h => by
            have g := implMF_c a6 pa qa w h
            rw [HA0.out] at g
            exact g
          have HAL : Hid (a6.2.length ≤ 160) := (faultW_zero HA0.out).2
          clear hc6 hcell hrep ha
          go_wp2_with fail
          refine (KM.out _ ra).mono ?_
          rintro e w6 ⟨p9, q9, rfl, hq9, hqm, hb6⟩
          have A4 := Arr.new w6 [.int .i64 0, .slice p9 (a6.2.length + 4) q9] 31
          replace hb6 := Below.mk hb6 (.cells #[.int .i64 0, .slice p9 (a6.2.length + 4) q9] 31)
          replace rs := rs.keep hb6
          replace rp := rp.keep hb6
          replace rb := rb.keep hb6
          replace ra := ra.keep hb6
          replace A2 := A2.stay hb6
          replace A3 := A3.stay hb6
          replace c0 := cell_keep c0 hb6
          replace c1 := cell_keep c1 hb6
          replace BW := Below.step BW hb6
          have hal := HAL.out
          clear hb6 KM
          go_wp2_with fail
          generalize w6.alloc (Obj.cells #[Value.int IntKind.i64 0, Value.slice p9 (a6.2.length + 4) q9] 31) = V2 at *
          have d0 := A4.cell 0
          have d1 := A4.cell 1
          simp at d0 d1
          have g0 := HW.at c0
          have g1 := HW.at c1
          have g2 := HW.at d0
          have g3 := HW.at d1
          have hne := HW.some V2
          clear c0 c1 d0 d1
          refine wp_region_pick [0, 1, 2, 3, 4, 5, 6, 7] 23 15 1 rfl rfl rfl (by kernel_rfl) (by kernel_rfl) (by kernel_rfl) (by kernel_rfl) ?_
          simp only [opsAt, List.getElem?_toArray, List.getElem?_cons_zero, List.getElem?_cons_succ]
          repeat (go_big_quiet_step (fail))
          refine wpQuiet_nil ?_
          refine wpM_only (i := 8) (by kernel_rfl) ?_
          refine mOp_call rfl (by go_simp) 18 _ #[.agg #[.int .i64 a6.1, .slice pa a6.2.length qa]] (fun w => by go_simp) rfl ?_
          rintro _ ⟨sg0, rfl⟩
          refine (KF.out _ (ra.keep sg0.h)).mono ?_
          rintro e wg0 ⟨rfl, hbx⟩
          have hbg := Below.step sg0.h hbx
          refine ⟨_, rfl, ⟨⟨wg0, hbx⟩, rfl⟩, ?_⟩
          replace g1 := HW.down g1 hbg
          replace g2 := HW.down g2 hbg
          replace g3 := HW.down g3 hbg
          replace rs := rs.keep hbg
          replace rp := rp.keep hbg
          replace rb := rb.keep hbg
          replace A2 := A2.stay hbg
          replace A3 := A3.stay hbg
          replace BW := Below.step BW hbg
          replace hne := HW.some wg0
          clear hbg hbx g0 ra
          refine wpM_more [9, 10, 11, 12, 13, 14, 15, 16, 17, 18, 19, 20, 21, 22] 14 0 rfl (by kernel_rfl) (by kernel_rfl) (by kernel_rfl) (by kernel_rfl) ?_
          simp only [opsAt, List.getElem?_toArray, List.getElem?_cons_zero, List.getElem?_cons_succ]
          go_simp
          repeat (go_big_quiet_step (fail))
          refine wpQuiet_nil ?_
          refine wpM_end (by kernel_rfl) rfl (by kernel_rfl) (by decide) ?_
          rintro _ ⟨sgz, rfl⟩
          simp only [List.drop_succ_cons, List.drop_zero]
          have hbg : Below _ _ sgz.w := sgz.h
          replace rs := rs.keep hbg
          replace rp := rp.keep hbg
          replace rb := rb.keep hbg
          replace A2 := A2.stay hbg
          replace A3 := A3.stay hbg
          replace BW := Below.step BW hbg
          replace g1 := g1 sgz
          replace g2 := g2 sgz
          replace g3 := g3 sgz
          clear hbg hne
          generalize sgz.w = V3 at *
          clear sgz
          have HL4 : Hid ((packAll (l.take (k + 1))).length = (packAll (l.take k)).length + (a6.2.length + 4)) := by show _ = _; rw [HTK.out, List.length_append, packW_len]
          have hle4 := HLE.out
          rw [HL4.out] at hle4
          go_wp2_with fail
          go_roundw
          case rel => exact ⟨k + 1, HK.out, by go_num, by rw [HL4.out]; go_num, A2, A3, rs, rp, rb, BW⟩
          case measure => have := HK.out; simp [intOf]; omega
        · have e : k = l.length := by omega
          subst e
          rw [List.take_length]
          have KSM : Hid (∀ w, RdL msgC w p8 q8 l → RdL msgC w p6 q6 l → Calls Try.prog 19 #[.slice p8 l.length q8, .slice p6 l.length q6] w fun e w' => e = .returned (.bool true) ∧ Below w.heap.size w w') := fun w h h' => by
            have g := implSM_c l l p8 p6 q8 q6 w h h'
            rw [show sameM l l = true by simp [sameM]] at g
            exact g
          have KSP : Hid (∀ w, RdL msgC w p6 q6 l → Calls Try.prog 16 #[.slice p6 l.length q6] w fun e w' => ∃ u, e = .returned (.agg #[.int .i64 (psC l), u]) ∧ Own w' w.heap.size u pk ∧ Below w.heap.size w w') := fun w h => by
            have g := specPS_c l p6 q6 w h
            rw [← HPK.out] at g
            exact g
          have hnl : (((packAll l).length : Int) == (pk.length : Int)) = true := by rw [HPL.out]; simp
          generalize psC l = pc at *
          have d0 := A3.cell 0
          have d1 := A3.cell 2
          have d2 := A2.cell 1
          simp at d0 d1 d2
          have g0 := HW.at d0
          have g1 := HW.at d1
          have g2 := HW.at d2
          have hne := HW.some wr
          clear d0 d1 d2 A2 A3 HF HN HPL
          go_wp2_with fail
          refine wp_region_pick [0, 1, 2, 3, 4, 5, 6] 24 17 1 rfl rfl rfl (by kernel_rfl) (by kernel_rfl) (by kernel_rfl) (by kernel_rfl) ?_
          simp only [opsAt, List.getElem?_toArray, List.getElem?_cons_zero, List.getElem?_cons_succ]
          repeat (go_big_quiet_step (fail))
          refine wpQuiet_nil ?_
          refine wpM_only (i := 7) (by kernel_rfl) ?_
          refine mOp_call rfl (by go_simp) 19 _ #[.slice p8 l.length q8, .slice p6 l.length q6] (fun w => by go_simp) rfl ?_
          rintro _ ⟨sg0, rfl⟩
          refine (KSM.out _ (rb.keep sg0.h) (rs.keep sg0.h)).mono ?_
          rintro e wg0 ⟨rfl, hbx⟩
          have hbg := Below.step sg0.h hbx
          refine ⟨_, rfl, ⟨⟨wg0, hbx⟩, rfl⟩, ?_⟩
          replace g0 := HW.down g0 hbg
          replace g1 := HW.down g1 hbg
          replace g2 := HW.down g2 hbg
          replace rs := rs.keep hbg
          replace rp := rp.keep hbg
          replace BW := Below.step BW hbg
          replace hne := HW.some wg0
          clear hbg hbx rb
          refine wpM_more [8, 9, 10, 11, 12, 13, 14, 15, 16, 17, 18, 19] 16 4 rfl (by kernel_rfl) (by kernel_rfl) (by kernel_rfl) (by kernel_rfl) ?_
          simp only [opsAt, List.getElem?_toArray, List.getElem?_cons_zero, List.getElem?_cons_succ]
          go_simp
          repeat (go_big_quiet_step (fail))
          refine wpQuiet_nil ?_
          refine wpM_only (i := 20) (by kernel_rfl) ?_
          refine mOp_call rfl (by go_simp) 16 _ #[.slice p6 l.length q6] (fun w => by go_simp) rfl ?_
          rintro _ ⟨sg2, rfl⟩
          refine (KSP.out _ (rs.keep sg2.h)).mono ?_
          rintro e wg2 ⟨ug, rfl, kg, hbx⟩
          obtain ⟨p9, q9, rfl, r9⟩ := kg.rd
          have hbg := Below.step sg2.h hbx
          refine ⟨_, rfl, ⟨⟨wg2, hbx⟩, rfl⟩, ?_⟩
          replace g0 := HW.down g0 hbg
          replace g1 := HW.down g1 hbg
          replace g2 := HW.down g2 hbg
          replace rp := rp.keep hbg
          replace BW := Below.step BW hbg
          replace hne := HW.some wg2
          clear hbg kg hbx rs
          refine wpM_more [21] 3 2 rfl (by kernel_rfl) (by kernel_rfl) (by kernel_rfl) (by kernel_rfl) ?_
          simp only [opsAt, List.getElem?_toArray, List.getElem?_cons_zero, List.getElem?_cons_succ]
          go_simp
          repeat (go_big_quiet_step (fail))
          refine wpQuiet_nil ?_
          refine wpM_only (i := 22) (by kernel_rfl) ?_
          refine mOp_call rfl (by go_simp) 13 _ #[.slice p7 pk.length q7, .slice p9 pk.length q9] (fun w => by go_simp) rfl ?_
          rintro _ ⟨sg4, rfl⟩
          refine (lwSame_yes p7 p9 q7 q9 pk.length pk.length pk _ rfl rfl (rp.keep sg4.h) (r9.keep sg4.h)).mono ?_
          rintro e wg4 ⟨rfl, hwg⟩
          subst hwg
          refine ⟨_, rfl, ⟨⟨sg4.w, Below.refl _ _⟩, rfl⟩, ?_⟩
          have hbg : Below _ _ sg4.w := sg4.h
          replace g0 := HW.down g0 hbg
          replace g1 := HW.down g1 hbg
          replace g2 := HW.down g2 hbg
          replace BW := Below.step BW hbg
          replace hne := HW.some sg4.w
          clear hbg rp r9
          generalize sg4.w = wg4 at *
          clear sg4
          refine wpM_more [23] 1 0 rfl (by kernel_rfl) (by kernel_rfl) (by kernel_rfl) (by kernel_rfl) ?_
          simp only [opsAt, List.getElem?_toArray, List.getElem?_cons_zero, List.getElem?_cons_succ]
          go_simp
          repeat (go_big_quiet_step (fail))
          refine wpQuiet_nil ?_
          refine wpM_end (by kernel_rfl) rfl (by kernel_rfl) (by decide) ?_
          rintro _ ⟨sgz, rfl⟩
          simp only [List.drop_succ_cons, List.drop_zero]
          go_wp2
          go_ret
          exact ⟨rfl, Below.step BW sgz.h⟩
    · have hp1 : (psC l != 0) = true := by rw [bne_iff_ne]; exact hp0
      have KS : Hid (∀ w, RdL msgC w p6 q6 l → Calls Try.prog 16 #[.slice p6 l.length q6] w fun e w' => ∃ u, e = .returned (.agg #[.int .i64 (psC l), u]) ∧ Own w' w.heap.size u (psL l) ∧ Below w.heap.size w w') := fun w h => specPS_c l p6 q6 w h
      clear hp0
      generalize psC l = pc at *
      generalize psL l = pl at *
      have A2 := Arr.new w4 [.int .i64 pc, .slice p7 pl.length q7] 31
      have hbA := alloc_below w4 (.cells #[.int .i64 pc, .slice p7 pl.length q7] 31)
      replace rs := rs.keep hbA
      replace BW := Below.step BW hbA
      clear hbA hbP rp
      go_wp2_with fail
      generalize w4.alloc (Obj.cells #[Value.int IntKind.i64 pc, Value.slice p7 pl.length q7] 31) = V at *
      have c1 := A2.cell 0
      simp at c1
      have g1 := HW.at c1
      have hne := HW.some V
      clear c1 A2
      refine wp_region_pick [0, 3, 4] 6 3 1 rfl rfl rfl (by kernel_rfl) (by kernel_rfl) (by kernel_rfl) (by kernel_rfl) ?_
      simp only [opsAt, List.getElem?_toArray, List.getElem?_cons_zero, List.getElem?_cons_succ]
      repeat (go_big_quiet_step (fail))
      refine wpQuiet_nil ?_
      refine wpM_only (i := 1) (by kernel_rfl) ?_
      refine mOp_call rfl (by go_simp) 16 _ #[.slice p6 l.length q6] (fun w => by go_simp) rfl ?_
      rintro _ ⟨sg0, rfl⟩
      refine (KS.out _ (rs.keep sg0.h)).mono ?_
      rintro e wg0 ⟨ug, rfl, kg, hbx⟩
      obtain ⟨p9, q9, rfl, r9⟩ := kg.rd
      have hbg := Below.step sg0.h hbx
      refine ⟨_, rfl, ⟨⟨wg0, hbx⟩, rfl⟩, ?_⟩
      replace BW := Below.step BW hbg
      replace hne := HW.some wg0
      clear hbg kg r9 hbx rs g1
      refine wpM_more [2, 5] 2 0 rfl (by kernel_rfl) (by kernel_rfl) (by kernel_rfl) (by kernel_rfl) ?_
      simp only [opsAt, List.getElem?_toArray, List.getElem?_cons_zero, List.getElem?_cons_succ]
      go_simp
      repeat (go_big_quiet_step (fail))
      refine wpQuiet_nil ?_
      refine wpM_end (by kernel_rfl) rfl (by kernel_rfl) (by decide) ?_
      rintro _ ⟨sgz, rfl⟩
      simp only [List.drop_succ_cons, List.drop_zero]
      go_wp2
      go_ret
      exact ⟨rfl, Below.step BW sgz.h⟩
end Go.Proofs.Ytoneggbbfjenpaa
