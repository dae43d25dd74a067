/- Chapter 15, the program's side: what its events leave to a session, as a map: otherRole, leftOf (written by tools/wld_l.py). What was there stays. -/
import Derived.Test.YthiabbgkfmopiaaGreatWldI
import Derived.Test.YthiabbgkfmopiaaGreatJoint20
import Derived.Test.YthiabbgkfmopiaaGreatPick
namespace Go.Proofs.YthiabbgkfmopiaaGreat
open Go.ChangeShapes Go.WideShapes Go.ChangeAt Go.RowKit

theorem otherRole_d (r : Int) (w : World) (h : r = 1 ∨ r = 2) : Calls Tryz.prog 55 #[.int .i64 r] w fun e w' => e = .returned (.int .i64 (3 - r)) ∧ Below w.heap.size w w' := by
  rcases h with rfl | rfl
  · go_enter Tryz.func55, Tryz.ntmps55
    go_wp2
    go_ret
    exact ⟨rfl, Below.refl _ _⟩
  · go_enter Tryz.func55, Tryz.ntmps55
    go_wp2
    go_ret
    exact ⟨rfl, Below.refl _ _⟩
theorem makeH0 (w : World) : (Instr.makeMap 71 none).run Tryz.prog w = .ok (.map (some w.heap.size)) (w.alloc (.map #[] 0)) := by kernel_rfl
set_option maxRecDepth 4000 in
set_option maxHeartbeats 8000000 in
theorem leftOf_c (x : WorldD) (us : List Value) (link role : Int) (w : World) (h : worldC.rep w x us) (hc : ctC x.2.1 = 0) (hl : x.2.2.2.2.2.2.length ≤ 1000) (hev : ∀ e ∈ x.2.2.2.2.2.2, inB e.2.2.2.2.1 1 99 = true) (hr : role = 1 ∨ role = 2) :
    Calls Tryz.prog 27 #[.agg us.toArray, .int .i64 link, .int .i64 role] w fun e w' => ∃ (b n : Nat) (D : DataW Unit), e = .returned (.map (some b)) ∧ n ≤ 1000 ∧ MapH w' b n D ∧ MapIs D (lefF x.2.1 x.1 link role x.2.2.2.2.2.2) ∧ Below w.heap.size w w' := by
  obtain ⟨p2, q2, p3, q3, p4, q4, p5, q5, p6, q6, p7, q7, rfl, r2, r3, r4, r5, r6, r7⟩ := world_rep h
  clear h r3 r4 r5 r6
  have R2 : Hid (RdL certC w p2 q2 x.2.1) := r2
  have R7 : Hid (RdL eventC w p7 q7 x.2.2.2.2.2.2) := r7
  have hq7 : x.2.2.2.2.2.2.length ≤ q7 := r7.1
  have hz7 : q7 ≤ 2 ^ 63 - 1 := r7.2.1
  have HC : Hid (ctC x.2.1 = 0) := hc
  have HL : Hid (x.2.2.2.2.2.2.length ≤ 1000) := hl
  have HEV : Hid (∀ e ∈ x.2.2.2.2.2.2, inB e.2.2.2.2.1 1 99 = true) := hev
  have hrole : Hid (role = 1 ∨ role = 2) := hr
  clear r2 r7 hc hl hev hr
  have BW := alloc_below w (.cells #[.int .i64 x.1, .slice p2 x.2.1.length q2, .slice p3 x.2.2.1.length q3, .slice p4 x.2.2.2.1.length q4, .slice p5 x.2.2.2.2.1.length q5, .slice p6 x.2.2.2.2.2.1.length q6, .slice p7 x.2.2.2.2.2.2.length q7] 37)
  have R := Arr.new w [.int .i64 x.1, .slice p2 x.2.1.length q2, .slice p3 x.2.2.1.length q3, .slice p4 x.2.2.2.1.length q4, .slice p5 x.2.2.2.2.1.length q5, .slice p6 x.2.2.2.2.2.1.length q6, .slice p7 x.2.2.2.2.2.2.length q7] 37
  obtain ⟨V, HV⟩ : ∃ V, Hid (w.alloc (.cells #[.int .i64 x.1, .slice p2 x.2.1.length q2, .slice p3 x.2.2.1.length q3, .slice p4 x.2.2.2.1.length q4, .slice p5 x.2.2.2.2.1.length q5, .slice p6 x.2.2.2.2.2.1.length q6, .slice p7 x.2.2.2.2.2.2.length q7] 37) = V) := ⟨_, rfl⟩
  have hV : Hid (V.heap.size = w.heap.size + 1) := by show _ = _; rw [← HV.out, size_alloc]
  rw [HV.out] at BW R
  have O1 := World.ownsMap_made (H := Unit) V Tryz.prog 2 (plainElem Tryz.prog 2)
  have hal := alloc_below V (.map #[] 0)
  rw [hV.out] at O1
  replace R := R.stay hal
  replace BW := Below.step BW hal
  clear hal
  have hmm := makeH0
  have c6 := (R.cell 6).trans (show _ = some _ from rfl)
  go_enter Tryz.func27, Tryz.ntmps27
  go_wp2_with fail
  rw [HV.out]
  go_wp2_with fail
  clear c6
  go_loopw [15] (fun i wr => ∃ (k n : Nat) (D : DataW Unit), k ≤ x.2.2.2.2.2.2.length ∧ n ≤ k ∧ i = .int .i64 k ∧ MapH wr (w.heap.size + 1) n D ∧ MapIs D (lefF x.2.1 x.1 link role (x.2.2.2.2.2.2.take k)) ∧ Arr wr w.heap.size 37 [.int .i64 x.1, .slice p2 x.2.1.length q2, .slice p3 x.2.2.1.length q3, .slice p4 x.2.2.2.1.length q4, .slice p5 x.2.2.2.2.1.length q5, .slice p6 x.2.2.2.2.2.1.length q6, .slice p7 x.2.2.2.2.2.2.length q7] ∧ Below w.heap.size w wr)
    (fun i _ => x.2.2.2.2.2.2.length - (intOf i).toNat)
  case atStart => exact ⟨0, 0, _, Nat.zero_le _, Nat.le_refl _, rfl, O1, MapIs.nil, R, BW⟩
  case round =>
    clear O1 BW hmm R HV
    obtain ⟨k, n, D, hk, hn, rfl, ho, hm, R, BW⟩ := hrel
    by_cases hlt : k < x.2.2.2.2.2.2.length
    case neg =>
      have hI : ¬ ((k : Int) < (x.2.2.2.2.2.2.length : Int)) := by omega
      have e : k = x.2.2.2.2.2.2.length := by omega
      subst e
      rw [List.take_length] at hm
      have hn1 : n ≤ 1000 := Nat.le_trans hn HL.out
      go_wp2_with fail
      go_ret
      exact ⟨_, rfl, n, hn1, D, ho, hm, BW⟩
    have hI : (k : Int) < (x.2.2.2.2.2.2.length : Int) := by omega
    obtain ⟨b, o, e1, hcc⟩ := (R7.out.keep BW).2.2.2 (by omega)
    subst e1
    obtain ⟨a, ha⟩ : ∃ a, x.2.2.2.2.2.2[k]? = some a := ⟨x.2.2.2.2.2.2[k], by simp [hlt]⟩
    obtain ⟨us, hrep, hcell⟩ := hcc k a ha
    obtain ⟨pc, qc, rfl, rc⟩ := event_rep hrep
    rw [show eventC.n = 6 from rfl] at hcell
    have d0 := hcell 0 _ rfl
    have d1 := hcell 1 _ rfl
    have d2 := hcell 2 _ rfl
    have d3 := hcell 3 _ rfl
    have d4 := hcell 4 _ rfl
    have d5 := hcell 5 _ rfl
    rw [Nat.add_zero] at d0
    clear hcc hcell hrep rc
    have hz0 : Hid (w.heap.size + 1 < wr.heap.size) := by
      obtain ⟨es, cc, h1, -⟩ := ho
      exact (Array.getElem?_eq_some_iff.1 h1).1
    have HT : Hid (lefF x.2.1 x.1 link role (x.2.2.2.2.2.2.take (k + 1)) = lefM x.2.1 x.1 link role (lefF x.2.1 x.1 link role (x.2.2.2.2.2.2.take k)) a) := lefF_take _ _ _ _ ha
    have HKE : Hid ((Lit.int .i64 a.2.2.2.2.1).wf = true) := by have h1 := HEV.out a (List.mem_of_getElem? ha); have h2 : 1 ≤ a.2.2.2.2.1 ∧ a.2.2.2.2.1 ≤ 99 := by simpa [inB] using h1
                                                                exact wf64 (by omega) (by omega)
    have hal := alloc_below wr (.cells #[.int .i64 a.1, .int .i64 a.2.1, .int .i64 a.2.2.1, .slice pc a.2.2.2.1.length qc, .int .i64 a.2.2.2.2.1, .int .i64 a.2.2.2.2.2] 99)
    have X := Arr.new wr [.int .i64 a.1, .int .i64 a.2.1, .int .i64 a.2.2.1, .slice pc a.2.2.2.1.length qc, .int .i64 a.2.2.2.2.1, .int .i64 a.2.2.2.2.2] 99
    replace ho := ho.keep hal
    replace R := R.stay hal
    replace BW := Below.step BW hal
    have hz1 : Hid (w.heap.size + 1 < (wr.alloc (.cells #[.int .i64 a.1, .int .i64 a.2.1, .int .i64 a.2.2.1, .slice pc a.2.2.2.1.length qc, .int .i64 a.2.2.2.2.1, .int .i64 a.2.2.2.2.2] 99)).heap.size) := Nat.lt_of_lt_of_le hz0.out hal.size
    have hz2 : Hid (wr.heap.size < (wr.alloc (.cells #[.int .i64 a.1, .int .i64 a.2.1, .int .i64 a.2.2.1, .slice pc a.2.2.2.1.length qc, .int .i64 a.2.2.2.2.1, .int .i64 a.2.2.2.2.2] 99)).heap.size) := by show _ < _; rw [size_alloc]; omega
    obtain ⟨e, he⟩ : ∃ e, Hid (e = wr.heap.size) := ⟨_, rfl⟩
    clear hal
    go_wp2_with fail
    clear d0 d1 d2 d3 d4 d5
    obtain ⟨V1, HV1⟩ : ∃ V1, Hid (wr.alloc (.cells #[.int .i64 a.1, .int .i64 a.2.1, .int .i64 a.2.2.1, .slice pc a.2.2.2.1.length qc, .int .i64 a.2.2.2.2.1, .int .i64 a.2.2.2.2.2] 99) = V1) := ⟨_, rfl⟩
    rw [HV1.out] at ho R BW X hz1 hz2 ⊢
    clear HV1
    have v0 := (X.cell 0).trans (show _ = some _ from rfl)
    have v1 := (X.cell 1).trans (show _ = some _ from rfl)
    have v2 := (X.cell 2).trans (show _ = some _ from rfl)
    by_cases h1 : a.2.1 = link
    case neg =>
      have d1 : (a.2.1 != link) = true := by rw [bne_iff_ne]; exact h1
      have HM : Hid (MapIs D (lefF x.2.1 x.1 link role (x.2.2.2.2.2.2.take (k + 1)))) := by show MapIs _ _; rw [HT.out, lefM, if_neg (fun h => h1 h.1)]; exact hm
      apply share
      case h =>
        intro JN
        have hne := HW.some V1
        have g1 := HW.at (v1)
        have g2 := HW.at (v2)
        refine wp_region_pick [0, 1, 2, 3, 4, 5, 6, 7] 10 2 1 rfl rfl rfl (by kernel_rfl) (by kernel_rfl) (by kernel_rfl) (by kernel_rfl) ?_
        simp only [opsAt, List.getElem?_toArray, List.getElem?_cons_zero, List.getElem?_cons_succ]
        repeat (go_big_quiet_step (fail))
        refine wpQuiet_nil ?_
        clear g1 g2
        refine wpM_only (i := 8) (by kernel_rfl) ?_
        refine mOp_skip rfl (by go_simp) ?_
        have hbg := Below.refl V1.heap.size V1
        refine wpM_more [9] 1 0 rfl (by kernel_rfl) (by kernel_rfl) (by kernel_rfl) (by kernel_rfl) ?_
        simp only [opsAt, List.getElem?_toArray, List.getElem?_cons_zero, List.getElem?_cons_succ]
        go_simp
        repeat (go_big_quiet_step (fail))
        refine wpQuiet_nil ?_
        refine wpM_end (by kernel_rfl) rfl (by kernel_rfl) (by decide) ?_
        rintro _ ⟨sz, rfl⟩
        simp only [List.drop_succ_cons, List.drop_zero]
        go_simp
        replace hbg := Below.step hbg sz.h
        clear hne
        generalize sz.w = V2 at *
        clear sz
        revert hbg
        revert V2
        exact JN.out
      intro V2 hbg
      go_wp2_with fail
      go_roundw
      case rel => exact ⟨k + 1, n, _, by omega, by omega, by go_num, (ho.keep hbg), HM.out, R.stay hbg, Below.step BW hbg⟩
      case measure => simp [intOf]; omega
    have d1 : (a.2.1 != link) = false := by rw [bne_eq_false_iff_eq]; exact h1
    apply share
    case h =>
      intro JN
      have hne := HW.some V1
      have g1 := HW.at (v1)
      have g2 := HW.at (v2)
      refine wp_region_pick [0, 1, 2, 3, 4, 5, 6, 7] 10 2 1 rfl rfl rfl (by kernel_rfl) (by kernel_rfl) (by kernel_rfl) (by kernel_rfl) ?_
      simp only [opsAt, List.getElem?_toArray, List.getElem?_cons_zero, List.getElem?_cons_succ]
      repeat (go_big_quiet_step (fail))
      refine wpQuiet_nil ?_
      clear g1 g2
      refine wpM_only (i := 8) (by kernel_rfl) ?_
      refine mOp_call rfl (by go_simp) 55 _ #[.int .i64 role] (fun w => by go_simp) rfl ?_
      rintro _ ⟨sg, rfl⟩
      refine (otherRole_d role _ hrole.out).mono ?_
      rintro e wg ⟨rfl, hbx⟩
      have hbg := Below.step sg.h hbx
      refine ⟨_, rfl, ⟨⟨wg, hbx⟩, rfl⟩, ?_⟩
      clear hbx sg hne
      have hne := HW.some wg
      refine wpM_more [9] 1 0 rfl (by kernel_rfl) (by kernel_rfl) (by kernel_rfl) (by kernel_rfl) ?_
      simp only [opsAt, List.getElem?_toArray, List.getElem?_cons_zero, List.getElem?_cons_succ]
      go_simp
      repeat (go_big_quiet_step (fail))
      refine wpQuiet_nil ?_
      refine wpM_end (by kernel_rfl) rfl (by kernel_rfl) (by decide) ?_
      rintro _ ⟨sz, rfl⟩
      simp only [List.drop_succ_cons, List.drop_zero]
      go_simp
      replace hbg := Below.step hbg sz.h
      clear hne
      generalize sz.w = V2 at *
      clear sz
      revert hbg
      revert V2
      exact JN.out
    intro V2 hbg
    by_cases h2 : a.2.2.1 = 3 - role
    case neg =>
      have d2 : (a.2.2.1 != 3 - role) = true := by rw [bne_iff_ne]; exact h2
      have HM : Hid (MapIs D (lefF x.2.1 x.1 link role (x.2.2.2.2.2.2.take (k + 1)))) := by show MapIs _ _; rw [HT.out, lefM, if_neg (fun h => h2 h.2)]; exact hm
      go_wp2_with fail
      go_roundw
      case rel => exact ⟨k + 1, n, _, by omega, by omega, by go_num, (ho.keep hbg), HM.out, R.stay hbg, Below.step BW hbg⟩
      case measure => simp [intOf]; omega
    have d2 : (a.2.2.1 != 3 - role) = false := by rw [bne_eq_false_iff_eq]; exact h2
    have HT2 : Hid (lefF x.2.1 x.1 link role (x.2.2.2.2.2.2.take (k + 1)) = (if a.1 = 2 then (if foC x.2.1 a.2.2.2.2.1 ≠ zC ∧ x.1 ≤ (foC x.2.1 a.2.2.2.2.1).2.2 then (fun j => if j = (foC x.2.1 a.2.2.2.2.1).1 then some (foC x.2.1 a.2.2.2.2.1).2.2 else lefF x.2.1 x.1 link role (x.2.2.2.2.2.2.take k) j) else lefF x.2.1 x.1 link role (x.2.2.2.2.2.2.take k)) else (if a.1 = 3 then (fun j => if j = a.2.2.2.2.1 then none else lefF x.2.1 x.1 link role (x.2.2.2.2.2.2.take k) j) else lefF x.2.1 x.1 link role (x.2.2.2.2.2.2.take k)))) := by show _ = _; rw [HT.out, lefM, if_pos ⟨h1, h2⟩]
    replace ho := ho.keep hbg
    replace R := R.stay hbg
    replace BW := Below.step BW hbg
    replace X := X.stay hbg
    have hz3 : Hid (w.heap.size + 1 < V2.heap.size) := Nat.lt_of_lt_of_le hz1.out hbg.size
    clear HT h1 h2 v0 v1 v2 hbg hz1 hz2
    have v0 := (X.cell 0).trans (show _ = some _ from rfl)
    have v4 := (X.cell 4).trans (show _ = some _ from rfl)
    have c1 := (R.cell 1).trans (show _ = some _ from rfl)
    by_cases h3 : a.1 = 2
    · have d3 : (a.1 == 2) = true := by rw [beq_iff_eq]; exact h3
      have KC := certOf_c x.2.1 p2 q2 a.2.2.2.2.1 V2 (R2.out.keep BW)
      have HT3 : Hid (lefF x.2.1 x.1 link role (x.2.2.2.2.2.2.take (k + 1)) = (if foC x.2.1 a.2.2.2.2.1 ≠ zC ∧ x.1 ≤ (foC x.2.1 a.2.2.2.2.1).2.2 then (fun j => if j = (foC x.2.1 a.2.2.2.2.1).1 then some (foC x.2.1 a.2.2.2.2.1).2.2 else lefF x.2.1 x.1 link role (x.2.2.2.2.2.2.take k) j) else lefF x.2.1 x.1 link role (x.2.2.2.2.2.2.take k))) := by show _ = _; rw [HT2.out, if_pos h3]
      clear HT2 h3
      obtain ⟨c, hcc⟩ : ∃ c, Hid (foC x.2.1 a.2.2.2.2.1 = c) := ⟨_, rfl⟩
      have HC1 : Hid (c ≠ zC → okC c = true) := fun hz => by
        cases hh : hasC x.2.1 a.2.2.2.2.1 with
        | false => rw [← hcc.out, foC_none hh] at hz; exact absurd rfl hz
        | true => rw [← hcc.out]; exact (foC_idk HC.out hh).2.1
      rw [hcc.out] at KC HT3
      clear hcc
      by_cases hz : c = zC
      · have HM : Hid (MapIs D (lefF x.2.1 x.1 link role (x.2.2.2.2.2.2.take (k + 1)))) := by show MapIs _ _; rw [HT3.out, if_neg (fun h => h.1 hz)]; exact hm
        replace KC : Calls Tryz.prog 56 #[.slice p2 x.2.1.length q2, .int .i64 a.2.2.2.2.1] V2 fun e w' => e = .returned (.agg #[.int .i64 0, .int .i64 0, .int .i64 0]) ∧ Below V2.heap.size V2 w' := by rw [hz] at KC; exact KC
        clear HT3 hz HC1 hm
        go_wp2_with fail
        refine KC.mono ?_
        rintro e5 w3 ⟨rfl, hb3⟩
        replace ho := ho.keep hb3
        replace R := R.stay hb3
        replace BW := Below.step BW hb3
        replace X := X.stay hb3
        have hz4 : Hid (w.heap.size + 1 < w3.heap.size) := Nat.lt_of_lt_of_le hz3.out hb3.size
        have hal := alloc_below w3 (.cells #[.int .i64 0, .int .i64 0, .int .i64 0] 103)
        replace ho := ho.keep hal
        replace R := R.stay hal
        replace BW := Below.step BW hal
        clear KC v0 v4 c1 hb3 hz3 hal
        go_wp2_with fail
        go_roundw
        case rel => exact ⟨k + 1, n, _, by omega, by omega, by go_num, ho, HM.out, R, BW⟩
        case measure => simp [intOf]; omega
      have hok := okC_parts (HC1.out hz)
      have n0 : ¬ c.1 = 0 := by omega
      have HK1 : Hid ((Lit.int .i64 c.1).wf = true) := wf64 (by omega) (by omega)
      have HK2 : Hid (plainElem (H := Unit) Tryz.prog 2 (.int .i64 c.2.2) = some (.lit (.int .i64 c.2.2), [])) := plainElem_int Tryz.underlying2 (wf64 (by omega) (by omega))
      by_cases h4 : x.1 ≤ c.2.2
      · have HM : Hid (MapIs (D.put (.int .i64 c.1) (.lit (.int .i64 c.2.2))) (lefF x.2.1 x.1 link role (x.2.2.2.2.2.2.take (k + 1)))) := by show MapIs _ _; rw [HT3.out, if_pos ⟨hz, h4⟩]; exact hm.put ho.isMap _ _ (lawH.key (keyH _ HK1.out))
        clear HT3 hz HC1 hm hok
        go_wp2_with fail
        refine KC.mono ?_
        rintro e5 w3 ⟨rfl, hb3⟩
        replace ho := ho.keep hb3
        replace R := R.stay hb3
        replace BW := Below.step BW hb3
        replace X := X.stay hb3
        have hz4 : Hid (w.heap.size + 1 < w3.heap.size) := Nat.lt_of_lt_of_le hz3.out hb3.size
        have hal := alloc_below w3 (.cells #[.int .i64 c.1, .int .i64 c.2.1, .int .i64 c.2.2] 103)
        replace ho := ho.keep hal
        replace R := R.stay hal
        replace BW := Below.step BW hal
        have c0 := (R.cell 0).trans (show _ = some _ from rfl)
        clear KC v0 v4 c1 hb3 hz3 hal
        go_wp2_with (at_mapUpdate; refine wpList_mapUpdate_own _ rfl _ _ _ 71 rfl 2 2 lawH Tryz.underlying71 _ (w.heap.size + 1) n D rfl ho (by have := HL.out; unfold maxLen; omega) (.int .i64 c.1) (.int .i64 c.2.2) _ rfl rfl (keyH _ HK1.out) (.lit (.int .i64 c.2.2)) [] HK2.out ?_; intro w6 ho6 hg6)
        replace R := R.other hg6 (fun e => by have := Option.some.inj e; omega)
        replace BW := BW.grown hg6 BW.size (fun j hj => by cases hj; exact Nat.le_succ _)
        clear hg6 ho
        go_roundw
        case rel => exact ⟨k + 1, n + 1, _, by omega, by omega, by go_num, ho6, HM.out, R, BW⟩
        case measure => simp [intOf]; omega
      · have HM : Hid (MapIs D (lefF x.2.1 x.1 link role (x.2.2.2.2.2.2.take (k + 1)))) := by show MapIs _ _; rw [HT3.out, if_neg (fun h => h4 h.2)]; exact hm
        clear HT3 hz HC1 hm hok
        go_wp2_with fail
        refine KC.mono ?_
        rintro e5 w3 ⟨rfl, hb3⟩
        replace ho := ho.keep hb3
        replace R := R.stay hb3
        replace BW := Below.step BW hb3
        replace X := X.stay hb3
        have hz4 : Hid (w.heap.size + 1 < w3.heap.size) := Nat.lt_of_lt_of_le hz3.out hb3.size
        have hal := alloc_below w3 (.cells #[.int .i64 c.1, .int .i64 c.2.1, .int .i64 c.2.2] 103)
        replace ho := ho.keep hal
        replace R := R.stay hal
        replace BW := Below.step BW hal
        have c0 := (R.cell 0).trans (show _ = some _ from rfl)
        clear KC v0 v4 c1 hb3 hz3 hal
        go_wp2_with fail
        go_roundw
        case rel => exact ⟨k + 1, n, _, by omega, by omega, by go_num, ho, HM.out, R, BW⟩
        case measure => simp [intOf]; omega
    · have d3 : (a.1 == 2) = false := by rw [beq_eq_false_iff_ne]; exact h3
      by_cases h5 : a.1 = 3
      · have d5 : (a.1 == 3) = true := by rw [beq_iff_eq]; exact h5
        have HM : Hid (MapIs (D.del (.int .i64 a.2.2.2.2.1)) (lefF x.2.1 x.1 link role (x.2.2.2.2.2.2.take (k + 1)))) := by show MapIs _ _; rw [HT2.out, if_neg h3, if_pos h5]; exact hm.del _
        clear HT2 h3 h5 hm
        go_wp2_with (at_delete; refine wpList_delete_own _ rfl _ _ 71 2 rfl 2 lawH Tryz.underlying71 _ (w.heap.size + 1) _ D rfl ho _ _ rfl (keyH _ HKE.out) ?_; intro w4 ho4 hturn4)
        have hg4 := hturn4.grown
        replace R := R.other hg4 (fun e => by have := Option.some.inj e; omega)
        replace BW := BW.grown hg4 BW.size (fun j hj => by cases hj; exact Nat.le_succ _)
        clear hturn4 hg4 ho
        go_roundw
        case rel => exact ⟨k + 1, n, _, by omega, by omega, by go_num, ho4, HM.out, R, BW⟩
        case measure => simp [intOf]; omega
      · have d5 : (a.1 == 3) = false := by rw [beq_eq_false_iff_ne]; exact h5
        have HM : Hid (MapIs D (lefF x.2.1 x.1 link role (x.2.2.2.2.2.2.take (k + 1)))) := by show MapIs _ _; rw [HT2.out, if_neg h3, if_neg h5]; exact hm
        clear HT2 h3 h5 hm
        go_wp2_with fail
        go_roundw
        case rel => exact ⟨k + 1, n, _, by omega, by omega, by go_num, ho, HM.out, R, BW⟩
        case measure => simp [intOf]; omega
end Go.Proofs.YthiabbgkfmopiaaGreat

