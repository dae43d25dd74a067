/- The walk of FnBlocks. -/
import Derived.Test.YtoneggbbfjenpaaDrawW
import Derived.Test.YtoneggbbfjenpaaBlkI
import Derived.Test.YtoneggbbfjenpaaBig
import Derived.Test.YtoneggbbfjenpaaLwSame
import Derived.Test.YtoneggbbfjenpaaOdd
import Derived.Test.YtoneggbbfjenpaaPick
import Derived.Test.YtoneggbbfjenpaaFields
namespace Go.Proofs.Ytoneggbbfjenpaa
open Go.ChangeShapes Go.WideShapes Go.ChangeAt Go.RowKit

theorem blocks_f0 (c : Int) (a : Option Addr) (n m : Nat) (w : World) : (Instr.field 41 (.agg #[.int .i64 c, .slice a n m]) 0).run Try.prog w = .ok (.int .i64 c) w := by kernel_rfl
/-- Blocks that own their memory. -/
def OwnB (w : World) (B : Nat) (v : Value) (l : List BlkD) : Prop := ∃ xs fp, OwnL 22 bytC w B v l xs fp
theorem OwnB.rd {w : World} {B : Nat} {v : Value} {l : List BlkD} (h : OwnB w B v l) : ∃ p q, v = .slice p l.length q ∧ RdL bytC w p q l := by
  obtain ⟨xs, fp, ho⟩ := h
  exact ho.rd
/-- What is read is packed again as it was. -/
theorem pb_ub {data : List UInt8} (h : ubC data = 0) : pbC (ubL data) = 0 ∧ pbL (ubL data) = data := by
  by_cases hd : data.length ≤ 160
  · cases hs : splitR data 0 [] with
    | none => rw [(ubC_none hd hs).1] at h; cases h
    | some r =>
      obtain ⟨h1, h2, h3⟩ := pack_split data data.length 0 [] r (by omega) (Nat.zero_le _) (by simp [blksN]) (by simp) (fun b hb => by cases hb) hs
      rw [(ubC_some hd hs).2]
      have hk : okBl r = true := okBl_of fun j b hb => h3 b (List.mem_of_getElem? hb)
      have hc : pbC r = 0 := by rw [pbC, if_pos ⟨h2, hk, by rw [h1]; exact hd⟩]
      exact ⟨hc, by rw [pbL, if_pos hc, h1]⟩
  · rw [(ubC_many hd).1] at h
    cases h
/-- What is packed is read again. -/
theorem ub_pb {l : List BlkD} (h : pbC l = 0) : ubC (pbL l) = 0 ∧ ubL (pbL l) = l := by
  obtain ⟨h1, h2, h3⟩ := pbC_zero h
  rw [pbL, if_pos h]
  have := split_pack l [] [] (fun b hb => okBl_at h2 hb) (by simpa using h1)
  exact ubC_some h3 (by simpa using this)

set_option maxRecDepth 4000 in
set_option maxHeartbeats 8000000 in
theorem fnBlocks_walk (a : Option Addr) (cap : Nat) (bs0 : List UInt8) (w : World) (r0 : Rd w a cap bs0) :
    Calls Try.prog 4 #[.slice a bs0.length cap] w fun e w' => e = .returned (.bool true) ∧ Below w.heap.size w w' := by
  by_cases hl0 : 1048576 < bs0.length
  · go_enter Try.func4, Try.ntmps4
    go_wp2_with fail
    refine (lwBig_yes _ _ _ _ hl0).mono ?_
    rintro e w1 ⟨rfl, rfl⟩
    go_wp2
    go_ret
    exact ⟨rfl, Below.refl _ _⟩
  replace hl0 : bs0.length ≤ 1048576 := by omega
  have bf0 := bytes_f0
  have bf1 := bytes_f1
  have lf0 := blocks_f0
  go_enter Try.func4, Try.ntmps4
  go_wp2_with fail
  refine (lwBig_no _ _ _ _ hl0).mono ?_
  rintro e w1 ⟨rfl, hw1⟩
  rw [hw1]
  clear hw1 w1
  go_wp2_with fail
  refine (drawUB_c _ _ bs0 _ r0).mono ?_
  rintro e w1 ⟨p1, q1, data, rfl, hdl, rd, BW⟩
  replace r0 := r0.keep BW
  go_wp2_with fail
  refine (implUB_c data p1 q1 _ rd).mono ?_
  rintro e w2 ⟨v, rfl, ⟨xs, fp, ho⟩, hb2⟩
  obtain ⟨uc, huc⟩ : ∃ c, Hid (c = ubC data) := ⟨_, rfl⟩
  obtain ⟨ul, hul⟩ : ∃ c, Hid (c = ubL data) := ⟨_, rfl⟩
  rw [← hul.out] at ho
  rw [← huc.out]
  obtain ⟨p2, q2, rfl, rl⟩ := ho.rd
  clear ho
  replace r0 := r0.keep hb2
  replace rd := rd.keep hb2
  replace BW := Below.step BW hb2
  clear hb2
  --@tail
  have A1 := Arr.new w2 [.int .i64 uc, .slice p2 ul.length q2] 41
  have hbA := alloc_below w2 (.cells #[.int .i64 uc, .slice p2 ul.length q2] 41)
  replace r0 := r0.keep hbA
  replace rd := rd.keep hbA
  replace rl := rl.keep hbA
  replace BW := Below.step BW hbA
  have KSU : Hid (∀ w, Rd w p1 q1 data → Calls Try.prog 22 #[.slice p1 data.length q1] w fun e w' => ∃ u, e = .returned (.agg #[.int .i64 uc, u]) ∧ OwnB w' w.heap.size u ul ∧ Below w.heap.size w w') := fun w h => by
    rw [huc.out, hul.out]
    refine (specUB_c data p1 q1 w h).mono ?_
    rintro e w' ⟨v, rfl, ho, hb⟩
    exact ⟨v, rfl, ho, hb⟩
  clear hbA
  go_wp2_with fail
  generalize w2.alloc (Obj.cells #[Value.int IntKind.i64 uc, Value.slice p2 ul.length q2] 41) = W at *
  have c1 := A1.cell 0
  have c2 := A1.cell 1
  simp at c1 c2
  have g1 := HW.at c1
  have g2 := HW.at c2
  have hne := HW.some W
  clear c1 c2 A1
  by_cases hq0 : uc = 0
  case' pos =>
    have KPU : Hid (∀ w, RdL bytC w p2 q2 ul → Calls Try.prog 23 #[.slice p2 ul.length q2] w fun e w' => ∃ u, e = .returned (.agg #[.int .i64 0, u]) ∧ Own w' w.heap.size u data ∧ Below w.heap.size w w') := fun w h => by
      have g := implPB_c ul p2 q2 w h
      obtain ⟨e1, e2⟩ := pb_ub (data := data) (by rw [← huc.out]; exact hq0)
      rw [← hul.out] at e1 e2
      rw [e1, e2] at g
      exact g
    subst hq0
    clear huc hul
    refine wp_region_pick [0, 1, 2] 19 16 1 rfl rfl rfl (by kernel_rfl) (by kernel_rfl) (by kernel_rfl) (by kernel_rfl) ?_
    simp only [opsAt, List.getElem?_toArray, List.getElem?_cons_zero, List.getElem?_cons_succ]
    repeat (go_big_quiet_step (fail))
    refine wpQuiet_nil ?_
    refine wpM_only (i := 3) (by kernel_rfl) ?_
    refine mOp_call rfl (by go_simp) 22 _ #[.slice p1 data.length q1] (fun w => by go_simp) rfl ?_
    rintro _ ⟨sg0, rfl⟩
    refine (KSU.out _ (rd.keep sg0.h)).mono ?_
    rintro e wg0 ⟨ug, rfl, kg, hbx⟩
    obtain ⟨p3, q3, rfl, r3⟩ := kg.rd
    have hbg := Below.step sg0.h hbx
    refine ⟨_, rfl, ⟨⟨wg0, hbx⟩, rfl⟩, ?_⟩
    replace g1 := HW.down g1 hbg
    replace g2 := HW.down g2 hbg
    replace r0 := r0.keep hbg
    replace rd := rd.keep hbg
    replace rl := rl.keep hbg
    replace BW := Below.step BW hbg
    replace hne := HW.some wg0
    clear hbg kg r3 hbx
    refine wpM_more [4, 5, 6, 7, 8, 9, 10, 11, 12, 15] 15 5 rfl (by kernel_rfl) (by kernel_rfl) (by kernel_rfl) (by kernel_rfl) ?_
    simp only [opsAt, List.getElem?_toArray, List.getElem?_cons_zero, List.getElem?_cons_succ]
    go_simp
    repeat (go_big_quiet_step (fail))
    refine wpQuiet_nil ?_
    refine wpM_only (i := 13) (by kernel_rfl) ?_
    refine mOp_call rfl (by go_simp) 23 _ #[.slice p2 ul.length q2] (fun w => by go_simp) rfl ?_
    rintro _ ⟨sg2, rfl⟩
    refine (KPU.out _ (rl.keep sg2.h)).mono ?_
    rintro e wg2 ⟨ug, rfl, kg, hbx⟩
    obtain ⟨p5, q5, rfl, r5⟩ := kg.rd
    have hbg := Below.step sg2.h hbx
    refine ⟨_, rfl, ⟨⟨wg2, hbx⟩, rfl⟩, ?_⟩
    replace g1 := HW.down g1 hbg
    replace g2 := HW.down g2 hbg
    replace r0 := r0.keep hbg
    replace rd := rd.keep hbg
    replace BW := Below.step BW hbg
    replace hne := HW.some wg2
    clear hbg kg hbx rl
    refine wpM_more [14] 4 3 rfl (by kernel_rfl) (by kernel_rfl) (by kernel_rfl) (by kernel_rfl) ?_
    simp only [opsAt, List.getElem?_toArray, List.getElem?_cons_zero, List.getElem?_cons_succ]
    go_simp
    repeat (go_big_quiet_step (fail))
    refine wpQuiet_nil ?_
    refine wpM_only (i := 16) (by kernel_rfl) ?_
    refine mOp_call rfl (by go_simp) 13 _ #[.slice p5 data.length q5, .slice p1 data.length q1] (fun w => by go_simp) rfl ?_
    rintro _ ⟨sg4, rfl⟩
    refine (lwSame_yes p5 p1 q5 q1 data.length data.length data _ rfl rfl (r5.keep sg4.h) (rd.keep sg4.h)).mono ?_
    rintro e wg4 ⟨rfl, hwg⟩
    subst hwg
    refine ⟨_, rfl, ⟨⟨sg4.w, Below.refl _ _⟩, rfl⟩, ?_⟩
    have hbg : Below _ _ sg4.w := sg4.h
    replace g1 := HW.down g1 hbg
    replace g2 := HW.down g2 hbg
    replace r0 := r0.keep hbg
    replace BW := Below.step BW hbg
    replace hne := HW.some sg4.w
    clear hbg r5 rd
    generalize sg4.w = wg4 at *
    clear sg4
    refine wpM_more [17, 18] 2 0 rfl (by kernel_rfl) (by kernel_rfl) (by kernel_rfl) (by kernel_rfl) ?_
    simp only [opsAt, List.getElem?_toArray, List.getElem?_cons_zero, List.getElem?_cons_succ]
    go_simp
    repeat (go_big_quiet_step (fail))
    refine wpQuiet_nil ?_
    refine wpM_end (by kernel_rfl) rfl (by kernel_rfl) (by decide) ?_
    rintro _ ⟨sgz, rfl⟩
    simp only [List.drop_succ_cons, List.drop_zero]
    have hbg : Below _ _ sgz.w := sgz.h
    replace r0 := r0.keep hbg
    replace BW := Below.step BW hbg
    replace g1 := g1 sgz
    replace g2 := g2 sgz
    clear hbg hne
    generalize sgz.w = Wa at *
    clear sgz
  case' neg =>
    have hq1 : (uc == 0) = false := by rw [beq_eq_false_iff_ne]; exact hq0
    clear huc hul hq0
    refine wp_region_pick [0, 1, 2] 19 16 1 rfl rfl rfl (by kernel_rfl) (by kernel_rfl) (by kernel_rfl) (by kernel_rfl) ?_
    simp only [opsAt, List.getElem?_toArray, List.getElem?_cons_zero, List.getElem?_cons_succ]
    repeat (go_big_quiet_step (fail))
    refine wpQuiet_nil ?_
    refine wpM_only (i := 3) (by kernel_rfl) ?_
    refine mOp_call rfl (by go_simp) 22 _ #[.slice p1 data.length q1] (fun w => by go_simp) rfl ?_
    rintro _ ⟨sg0, rfl⟩
    refine (KSU.out _ (rd.keep sg0.h)).mono ?_
    rintro e wg0 ⟨ug, rfl, kg, hbx⟩
    obtain ⟨p3, q3, rfl, r3⟩ := kg.rd
    have hbg := Below.step sg0.h hbx
    refine ⟨_, rfl, ⟨⟨wg0, hbx⟩, rfl⟩, ?_⟩
    replace g1 := HW.down g1 hbg
    replace g2 := HW.down g2 hbg
    replace r0 := r0.keep hbg
    replace rd := rd.keep hbg
    replace rl := rl.keep hbg
    replace BW := Below.step BW hbg
    replace hne := HW.some wg0
    clear hbg kg r3 hbx
    refine wpM_more [4, 5, 6, 7, 8, 9, 10, 11, 12, 15] 15 5 rfl (by kernel_rfl) (by kernel_rfl) (by kernel_rfl) (by kernel_rfl) ?_
    simp only [opsAt, List.getElem?_toArray, List.getElem?_cons_zero, List.getElem?_cons_succ]
    go_simp
    repeat (go_big_quiet_step (fail))
    refine wpQuiet_nil ?_
    refine wpM_only (i := 13) (by kernel_rfl) ?_
    refine mOp_skip rfl (by go_simp) ?_
    refine wpM_more [14] 4 3 rfl (by kernel_rfl) (by kernel_rfl) (by kernel_rfl) (by kernel_rfl) ?_
    simp only [opsAt, List.getElem?_toArray, List.getElem?_cons_zero, List.getElem?_cons_succ]
    go_simp
    repeat (go_big_quiet_step (fail))
    refine wpQuiet_nil ?_
    refine wpM_only (i := 16) (by kernel_rfl) ?_
    refine mOp_skip rfl (by go_simp) ?_
    refine wpM_more [17, 18] 2 0 rfl (by kernel_rfl) (by kernel_rfl) (by kernel_rfl) (by kernel_rfl) ?_
    simp only [opsAt, List.getElem?_toArray, List.getElem?_cons_zero, List.getElem?_cons_succ]
    go_simp
    repeat (go_big_quiet_step (fail))
    refine wpQuiet_nil ?_
    refine wpM_end (by kernel_rfl) rfl (by kernel_rfl) (by decide) ?_
    rintro _ ⟨sgz, rfl⟩
    simp only [List.drop_succ_cons, List.drop_zero]
    have hbg : Below _ _ sgz.w := sgz.h
    replace r0 := r0.keep hbg
    replace rd := rd.keep hbg
    replace rl := rl.keep hbg
    replace BW := Below.step BW hbg
    replace g1 := g1 sgz
    replace g2 := g2 sgz
    clear hbg hne
    generalize sgz.w = Wa at *
    clear sgz
    clear rd rl
  all_goals
    clear g1 g2
    go_wp2_with fail
    refine (drawPB_c _ _ bs0 _ r0).mono ?_
    rintro e w3 ⟨v, l, rfl, hll, hla, ⟨xs2, fp2, ho⟩, hb3⟩
    obtain ⟨p6, q6, rfl, rs⟩ := ho.rd
    replace BW := Below.step BW hb3
    clear hb3 ho r0
    go_wp2_with fail
    refine (implPB_c l p6 q6 _ rs).mono ?_
    rintro e w4 ⟨u4, rfl, k4, hb4⟩
    obtain ⟨p7, q7, rfl, rp⟩ := k4.rd
    replace rs := rs.keep hb4
    replace BW := Below.step BW hb4
    clear hb4 k4
    by_cases hp0 : pbC l = 0
    · obtain ⟨hn1, hn2, hn3⟩ := pbC_zero hp0
      obtain ⟨HU1, HU2⟩ := ub_pb hp0
      have KSP : Hid (∀ w, RdL bytC w p6 q6 l → Calls Try.prog 25 #[.slice p6 l.length q6] w fun e w' => ∃ u, e = .returned (.agg #[.int .i64 0, u]) ∧ Own w' w.heap.size u (pbL l) ∧ Below w.heap.size w w') := fun w h => by
        have g := specPB_c l p6 q6 w h
        rw [hp0] at g
        exact g
      rw [hp0]
      obtain ⟨pk, HPK⟩ : ∃ pk, Hid (pk = pbL l) := ⟨_, rfl⟩
      rw [← HPK.out] at HU1 HU2 KSP rp ⊢
      have KU : Hid (∀ w, Rd w p7 q7 pk → Calls Try.prog 21 #[.slice p7 pk.length q7] w fun e w' => ∃ u, e = .returned (.agg #[.int .i64 0, u]) ∧ OwnB w' w.heap.size u l ∧ Below w.heap.size w w') := fun w h => by
        have g := implUB_c pk p7 q7 w h
        rw [HU1, HU2] at g
        refine g.mono ?_
        rintro e w' ⟨v, rfl, ho, hb⟩
        exact ⟨v, rfl, ho, hb⟩
      clear HU1 HU2 hp0
      have A2 := Arr.new w4 [.int .i64 0, .slice p7 pk.length q7] 31
      have hbA := alloc_below w4 (.cells #[.int .i64 0, .slice p7 pk.length q7] 31)
      replace rs := rs.keep hbA
      replace rp := rp.keep hbA
      replace BW := Below.step BW hbA
      clear hbA
      go_wp2_with fail
      refine (KU.out _ rp).mono ?_
      rintro e w5 ⟨u5, rfl, k5, hb5⟩
      obtain ⟨p8, q8, rfl, rb⟩ := k5.rd
      replace rs := rs.keep hb5
      replace rp := rp.keep hb5
      replace A2 := A2.stay hb5
      replace BW := Below.step BW hb5
      clear hb5 k5 KU
      have A3 := Arr.new w5 [.int .i64 0, .slice p8 l.length q8] 41
      have hbA := alloc_below w5 (.cells #[.int .i64 0, .slice p8 l.length q8] 41)
      replace rs := rs.keep hbA
      replace rp := rp.keep hbA
      replace rb := rb.keep hbA
      replace A2 := A2.stay hbA
      replace BW := Below.step BW hbA
      clear hbA
      have H8 : Hid (l.length ≤ 8) := hn1
      have hll2 : ((l.length : Int) != (l.length : Int)) = false := by simp
      clear hn1 hn2 hn3 hll hla
      go_wp2_with fail
      generalize w5.alloc (Obj.cells #[Value.int IntKind.i64 0, Value.slice p8 l.length q8] 41) = V at *
      go_loopw [8] (fun i wr => ∃ k : Nat, k ≤ l.length ∧ i = .int .i64 k ∧ Arr wr w4.heap.size 31 [.int .i64 0, .slice p7 pk.length q7] ∧ Arr wr w5.heap.size 41 [.int .i64 0, .slice p8 l.length q8] ∧ RdL bytC wr p6 q6 l ∧ Rd wr p7 q7 pk ∧ RdL bytC wr p8 q8 l ∧ Below w.heap.size w wr)
        (fun i _ => l.length - (intOf i).toNat)
      case atStart => exact ⟨0, Nat.zero_le _, rfl, A2, A3, rs, rp, rb, BW⟩
      case round =>
        clear A2 A3 rs rp rb BW
        obtain ⟨k, hk, rfl, A2, A3, rs, rp, rb, BW⟩ := hrel
        by_cases hlt : k < l.length
        · have hkI : (k : Int) < (l.length : Int) := by omega
          have HK : Hid (k < l.length) := hlt
          have hk8 : k + 1 ≤ 8 := Nat.le_trans hlt H8.out
          obtain ⟨a6, ha⟩ : ∃ a, l[k]? = some a := ⟨l[k], List.getElem?_eq_getElem hlt⟩
          obtain ⟨b6, o6, e6, hc6⟩ := rs.2.2.2 (by omega)
          subst e6
          obtain ⟨us, hrep, hcell⟩ := hc6 k a6 ha
          obtain ⟨pa, qa, rfl, ra⟩ := blk_rep hrep
          have c0 := hcell 0 _ rfl
          rw [show bytC.n = 1 from rfl, Nat.add_zero, Nat.mul_one] at c0
          obtain ⟨b7, o7, e7, hc7⟩ := rb.2.2.2 (by omega)
          subst e7
          obtain ⟨us, hrep2, hcell2⟩ := hc7 k a6 ha
          obtain ⟨pb, qb, rfl, rbk⟩ := blk_rep hrep2
          have c1 := hcell2 0 _ rfl
          rw [show bytC.n = 1 from rfl, Nat.add_zero, Nat.mul_one] at c1
          have d1 := A3.cell 1
          simp at d1
          have g0 := HW.at c0
          have g1 := HW.at c1
          have g2 := HW.at d1
          have hne := HW.some wr
          clear hc6 hcell hrep hc7 hcell2 hrep2 c0 c1 d1
          go_wp2_with fail
          refine wp_region_pick [0, 1, 2, 3, 4, 5, 6, 7, 8] 10 1 1 rfl rfl rfl (by kernel_rfl) (by kernel_rfl) (by kernel_rfl) (by kernel_rfl) ?_
          simp only [opsAt, List.getElem?_toArray, List.getElem?_cons_zero, List.getElem?_cons_succ]
          repeat (go_big_quiet_step (fail))
          refine wpQuiet_nil ?_
          refine wpM_only (i := 9) (by kernel_rfl) ?_
          refine mOp_call rfl (by go_simp) 13 _ #[.slice pb a6.length qb, .slice pa a6.length qa] (fun w => by go_simp) rfl ?_
          rintro _ ⟨sg0, rfl⟩
          refine (lwSame_yes pb pa qb qa a6.length a6.length a6 _ rfl rfl (rbk.keep sg0.h) (ra.keep sg0.h)).mono ?_
          rintro e wg0 ⟨rfl, hwg⟩
          subst hwg
          refine ⟨_, rfl, ⟨⟨sg0.w, Below.refl _ _⟩, rfl⟩, ?_⟩
          have hbg : Below _ _ sg0.w := sg0.h
          replace rs := rs.keep hbg
          replace rp := rp.keep hbg
          replace rb := rb.keep hbg
          replace A2 := A2.stay hbg
          replace A3 := A3.stay hbg
          replace BW := Below.step BW hbg
          replace hne := HW.some sg0.w
          clear hbg g0 g1 g2 rbk ra
          generalize sg0.w = wg0 at *
          clear sg0
          refine wpM_end (by kernel_rfl) rfl (by kernel_rfl) (by decide) ?_
          rintro _ ⟨sgz, rfl⟩
          simp only [List.drop_succ_cons, List.drop_zero]
          have hbg : Below _ _ sgz.w := sgz.h
          replace rs := rs.keep hbg
          replace rp := rp.keep hbg
          replace rb := rb.keep hbg
          replace A2 := A2.stay hbg
          replace A3 := A3.stay hbg
          replace BW := Below.step BW hbg
          clear hbg hne
          generalize sgz.w = V3 at *
          clear sgz
          go_wp2_with fail
          go_roundw
          case rel => exact ⟨k + 1, HK.out, by go_num, A2, A3, rs, rp, rb, BW⟩
          case measure => have := HK.out; simp [intOf]; omega
        · have e : k = l.length := by omega
          subst e
          have d0 := A2.cell 1
          simp at d0
          have g0 := HW.at d0
          have hne := HW.some wr
          clear d0 A2 A3 rb
          go_wp2_with fail
          refine wp_region_pick [0, 1, 2] 6 3 1 rfl rfl rfl (by kernel_rfl) (by kernel_rfl) (by kernel_rfl) (by kernel_rfl) ?_
          simp only [opsAt, List.getElem?_toArray, List.getElem?_cons_zero, List.getElem?_cons_succ]
          repeat (go_big_quiet_step (fail))
          refine wpQuiet_nil ?_
          refine wpM_only (i := 3) (by kernel_rfl) ?_
          refine mOp_call rfl (by go_simp) 25 _ #[.slice p6 l.length q6] (fun w => by go_simp) rfl ?_
          rintro _ ⟨sg0, rfl⟩
          refine (KSP.out _ (rs.keep sg0.h)).mono ?_
          rintro e wg0 ⟨ug, rfl, kg, hbx⟩
          obtain ⟨p9, q9, rfl, r9⟩ := kg.rd
          have hbg := Below.step sg0.h hbx
          refine ⟨_, rfl, ⟨⟨wg0, hbx⟩, rfl⟩, ?_⟩
          replace rp := rp.keep hbg
          replace BW := Below.step BW hbg
          replace hne := HW.some wg0
          clear hbg kg hbx rs g0
          refine wpM_more [4] 2 1 rfl (by kernel_rfl) (by kernel_rfl) (by kernel_rfl) (by kernel_rfl) ?_
          simp only [opsAt, List.getElem?_toArray, List.getElem?_cons_zero, List.getElem?_cons_succ]
          go_simp
          repeat (go_big_quiet_step (fail))
          refine wpQuiet_nil ?_
          refine wpM_only (i := 5) (by kernel_rfl) ?_
          refine mOp_call rfl (by go_simp) 13 _ #[.slice p7 pk.length q7, .slice p9 pk.length q9] (fun w => by go_simp) rfl ?_
          rintro _ ⟨sg2, rfl⟩
          refine (lwSame_yes p7 p9 q7 q9 pk.length pk.length pk _ rfl rfl (rp.keep sg2.h) (r9.keep sg2.h)).mono ?_
          rintro e wg2 ⟨rfl, hwg⟩
          subst hwg
          refine ⟨_, rfl, ⟨⟨sg2.w, Below.refl _ _⟩, rfl⟩, ?_⟩
          have hbg : Below _ _ sg2.w := sg2.h
          replace BW := Below.step BW hbg
          replace hne := HW.some sg2.w
          clear hbg rp r9
          generalize sg2.w = wg2 at *
          clear sg2
          refine wpM_end (by kernel_rfl) rfl (by kernel_rfl) (by decide) ?_
          rintro _ ⟨sgz, rfl⟩
          simp only [List.drop_succ_cons, List.drop_zero]
          go_wp2
          go_ret
          exact ⟨rfl, Below.step BW sgz.h⟩
    · have hp1 : (pbC l != 0) = true := by rw [bne_iff_ne]; exact hp0
      have KS : Hid (∀ w, RdL bytC w p6 q6 l → Calls Try.prog 25 #[.slice p6 l.length q6] w fun e w' => ∃ u, e = .returned (.agg #[.int .i64 (pbC l), u]) ∧ Own w' w.heap.size u (pbL l) ∧ Below w.heap.size w w') := fun w h => specPB_c l p6 q6 w h
      clear hp0
      generalize pbC l = pc at *
      generalize pbL l = pl at *
      have A2 := Arr.new w4 [.int .i64 pc, .slice p7 pl.length q7] 31
      have hbA := alloc_below w4 (.cells #[.int .i64 pc, .slice p7 pl.length q7] 31)
      replace rs := rs.keep hbA
      replace BW := Below.step BW hbA
      clear hbA rp
      go_wp2_with fail
      generalize w4.alloc (Obj.cells #[Value.int IntKind.i64 pc, Value.slice p7 pl.length q7] 31) = V at *
      have c1 := A2.cell 0
      simp at c1
      have g1 := HW.at c1
      have hne := HW.some V
      clear c1 A2
      refine wp_region_pick [0, 3, 4] 6 3 1 rfl rfl rfl (by kernel_rfl) (by kernel_rfl) (by kernel_rfl) (by kernel_rfl) ?_
      simp only [opsAt, List.getElem?_toArray, List.getElem?_cons_zero, List.getElem?_cons_succ]
      repeat (go_big_quiet_step (fail))
      refine wpQuiet_nil ?_
      refine wpM_only (i := 1) (by kernel_rfl) ?_
      refine mOp_call rfl (by go_simp) 25 _ #[.slice p6 l.length q6] (fun w => by go_simp) rfl ?_
      rintro _ ⟨sg0, rfl⟩
      refine (KS.out _ (rs.keep sg0.h)).mono ?_
      rintro e wg0 ⟨ug, rfl, kg, hbx⟩
      obtain ⟨p9, q9, rfl, r9⟩ := kg.rd
      have hbg := Below.step sg0.h hbx
      refine ⟨_, rfl, ⟨⟨wg0, hbx⟩, rfl⟩, ?_⟩
      replace BW := Below.step BW hbg
      replace hne := HW.some wg0
      clear hbg kg r9 hbx rs g1
      refine wpM_more [2, 5] 2 0 rfl (by kernel_rfl) (by kernel_rfl) (by kernel_rfl) (by kernel_rfl) ?_
      simp only [opsAt, List.getElem?_toArray, List.getElem?_cons_zero, List.getElem?_cons_succ]
      go_simp
      repeat (go_big_quiet_step (fail))
      refine wpQuiet_nil ?_
      refine wpM_end (by kernel_rfl) rfl (by kernel_rfl) (by decide) ?_
      rintro _ ⟨sgz, rfl⟩
      simp only [List.drop_succ_cons, List.drop_zero]
      go_wp2
      go_ret
      exact ⟨rfl, Below.step BW sgz.h⟩
end Go.Proofs.Ytoneggbbfjenpaa
