/- The walk of FnExpands, where the two tables hold what the program's text lays. -/
import Derived.Test.YtkhgimoopdnkbaaDoorDrawK
import Derived.Test.YtkhgimoopdnkbaaDoorKeyI
import Derived.Test.YtkhgimoopdnkbaaDoorDigB
import Derived.Test.YtkhgimoopdnkbaaDoorBig
import Derived.Test.YtkhgimoopdnkbaaDoorLwSame
import Derived.Test.YtkhgimoopdnkbaaDoorOdd
import Derived.Test.YtkhgimoopdnkbaaDoorFields
namespace Go.Proofs.YtkhgimoopdnkbaaDoor
open Go.ChangeShapes Go.WideShapes Go.ChangeAt Go.RowKit

theorem lwAt_l (p : Option Addr) (q : Nat) (cs : List UInt8) (i0 n0 : Nat) (i n : Int) (h1 : i = i0) (h2 : n = n0) (w : World) (hr : Rd w p q cs) (hl : cs.length ≤ 1048576) (hi : i0 ≤ 1000) (hn : n0 ≤ 1000000) :
    Calls Tryd.prog 14 #[.slice p cs.length q, .int .i64 i, .int .i64 n] w fun e w' => ∃ m : Nat, e = .returned (.int .i64 (m : Int)) ∧ (m = 0 ∨ m < n0) ∧ Below w.heap.size w w' := by
  subst h1 h2; exact lwAt_c p q cs i0 n0 w hr hl hi hn
theorem inB255 {n : Nat} (h : n ≤ 255) : inB (n : Int) 0 255 = true := by simp [inB]; omega

set_option maxRecDepth 4000 in
set_option maxHeartbeats 8000000 in
theorem fnExpands_walk (a : Option Addr) (cap : Nat) (bs0 : List UInt8) (w : World) (r0 : Rd w a cap bs0) (hT : Tabs w) :
    Calls Tryd.prog 3 #[.slice a bs0.length cap] w fun e w' => e = .returned (.bool true) ∧ Below w.heap.size w w' := by
  by_cases hl0 : 1048576 < bs0.length
  · go_enter Tryd.func3, Tryd.ntmps3
    go_wp2_with fail
    refine (lwBig_yes _ _ _ _ hl0).mono ?_
    rintro e w1 ⟨rfl, rfl⟩
    go_wp2
    go_ret
    exact ⟨rfl, Below.refl _ _⟩
  replace hl0 : bs0.length ≤ 1048576 := by omega
  have bf0 := bytes_f0
  have bf1 := bytes_f1
  have H0 : Hid (bs0.length ≤ 1048576) := hl0
  go_enter Tryd.func3, Tryd.ntmps3
  go_wp2_with fail
  refine (lwBig_no _ _ _ _ hl0).mono ?_
  rintro e w1 ⟨rfl, hw1⟩
  rw [hw1]
  clear hw1 w1
  go_wp2_with fail
  refine (drawExpL_c _ _ bs0 _ r0).mono ?_
  rintro e w1 ⟨p1, p2, q1, q2, key, l, ctx, n, rfl, rk, rc, hkl, hll, hcl, hn1, hn2, BW⟩
  have HL : Hid (l.length ≤ 1048576) := by show _ ≤ _; omega
  have HT : Hid (Tabs w1) := hT.keep BW
  have hss := strB_size l
  replace r0 := r0.keep BW
  clear hT hl0
  go_wp2_with fail
  refine (implExpL_c p1 p2 q1 q2 key l ctx n _ rk rc HL.out HT.out).mono ?_
  rintro e w2 ⟨u1, rfl, k1, hb2⟩
  obtain ⟨p3, q3, rfl, rr⟩ := k1.rd
  have HT2 : Hid (Tabs w2) := HT.out.keep hb2
  replace rk := rk.keep hb2
  replace rc := rc.keep hb2
  replace r0 := r0.keep hb2
  replace BW := Below.step BW hb2
  clear hb2 HT k1
  by_cases hc : elC key l ctx n = 0
  · obtain ⟨hkb, hlc⟩ := elC_zero hc
    obtain ⟨hlo, hcc, hin⟩ := labelC_zero hlc
    obtain ⟨N, rfl, hN⟩ := nat255 hin
    have hl40 := labelOk_len hlo
    have hEL : elL key l ctx (N : Int) = expLabN key l ctx N := by simp [elL, hc]
    have hBL : labL l ctx (N : Int) = labelB l ctx N := by simp [labL, hlc]
    have hRR : expLabN key l ctx N = expandN key (labelB l ctx N) N := rfl
    have hib : infoB (labelB l ctx N) = true := by simp [infoB, labelB_len]; omega
    have hEX : ∀ m : Nat, m ≤ 255 → expC key (labelB l ctx N) (m : Int) = 0 ∧ expL key (labelB l ctx N) (m : Int) = expandN key (labelB l ctx N) m := fun m hm => by simp [expC, expL, hkb, hib, inB255 hm]
    have hdb : dataB ctx = true := by simp [dataB]; omega
    have hDC : dkC key l ctx = 0 := by simp [dkC, hkb, hlo, hdb]
    have hDL : dkL key l ctx = deriveN key l ctx := by simp [dkL, hkb, hlo, hdb]
    have hlc2 : labelC l (digestN ctx) 32 = 0 := by simp [labelC, hlo, digestN_len, inB]
    have hEC2 : elC key l (digestN ctx) 32 = 0 := by simp [elC, hkb, hlc2]
    have hEL2 : elL key l (digestN ctx) 32 = deriveN key l ctx := by simp [elL, hEC2, deriveN]
    have hdg0 : dgCode ctx = 0 := by simp [dgCode]; omega
    have hdg1 : dgList ctx = digestN ctx := by simp [dgList]; omega
    have FB : Hid (∀ w, Rd w p2 q2 ctx → Calls Tryd.prog 12 #[.string (strB l), .slice p2 ctx.length q2, .int .i64 (N : Int)] w fun e w' => ∃ u, e = .returned (.agg #[.int .i64 0, u]) ∧ Own w' w.heap.size u (labelB l ctx N) ∧ Below w.heap.size w w') := fun w h => by
      have h := implLab_c p2 q2 l ctx (N : Int) w h HL.out
      rw [hlc, hBL] at h
      exact h
    have FX : Hid (∀ (w : World) (p : Option Addr) (q m : Nat), m ≤ 255 → Rd w p1 q1 key → Rd w p q (labelB l ctx N) → Tabs w → Calls Tryd.prog 13 #[.slice p1 key.length q1, .slice p (labelB l ctx N).length q, .int .i64 (m : Int)] w fun e w' => ∃ u, e = .returned (.agg #[.int .i64 0, u]) ∧ Own w' w.heap.size u (expandN key (labelB l ctx N) m) ∧ Below w.heap.size w w') := fun w p q m hm h h' ht => by
      have h := implExpK_c p1 p q1 q key (labelB l ctx N) (m : Int) w h h' ht
      rw [(hEX m hm).1, (hEX m hm).2] at h
      exact h
    have FD : Hid (∀ w, Rd w p1 q1 key → Rd w p2 q2 ctx → Tabs w → Calls Tryd.prog 15 #[.slice p1 key.length q1, .string (strB l), .slice p2 ctx.length q2] w fun e w' => ∃ u, e = .returned (.agg #[.int .i64 0, u]) ∧ Own w' w.heap.size u (deriveN key l ctx) ∧ Below w.heap.size w w') := fun w h h' ht => by
      have h := implDer_c p1 p2 q1 q2 key l ctx w h h' HL.out ht
      rw [hDC, hDL] at h
      exact h
    have FG : Hid (∀ w, Rd w p2 q2 ctx → Tabs w → Calls Tryd.prog 16 #[.slice p2 ctx.length q2] w fun e w' => ∃ u, e = .returned (.agg #[.int .i64 0, u]) ∧ Own w' w.heap.size u (digestN ctx) ∧ Below w.heap.size w w') := fun w h ht => by
      have h := implDg_c p2 q2 ctx w h ht
      rw [hdg0, hdg1] at h
      exact h
    have FE : Hid (∀ (w : World) (p : Option Addr) (q : Nat), Rd w p1 q1 key → Rd w p q (digestN ctx) → Tabs w → Calls Tryd.prog 10 #[.slice p1 key.length q1, .string (strB l), .slice p 32 q, .int .i64 32] w fun e w' => ∃ u, e = .returned (.agg #[.int .i64 0, u]) ∧ Own w' w.heap.size u (deriveN key l ctx) ∧ Below w.heap.size w w') := fun w p q h h' ht => by
      have h := implExpL_c p1 p q1 q key l (digestN ctx) 32 w h h' HL.out ht
      rw [hEC2, hEL2, digestN_len] at h
      exact h
    have FS : Hid (∀ w, Rd w p1 q1 key → Rd w p2 q2 ctx → Calls Tryd.prog 11 #[.slice p1 key.length q1, .string (strB l), .slice p2 ctx.length q2, .int .i64 (N : Int)] w fun e w' => ∃ u, e = .returned (.agg #[.int .i64 0, u]) ∧ Own w' w.heap.size u (expLabN key l ctx N) ∧ Below w.heap.size w w') := fun w h h' => by
      have h := specExpL_c p1 p2 q1 q2 key l ctx (N : Int) w h h' HL.out
      rw [hc, hEL] at h
      exact h
    have HR : Hid ((expLabN key l ctx N).length = N) := by show _ = _; rw [hRR, expandN_len]
    have HM : Hid (∀ m, m ≤ N → expandN key (labelB l ctx N) m = (expLabN key l ctx N).take m) := fun m hm => by rw [hRR, expandN_take _ _ _ _ hm]
    have HB : Hid ((labelB l ctx N).length = l.length + ctx.length + 10) := labelB_len l ctx N
    have HD : Hid ((deriveN key l ctx).length = 32) := by show _ = _; rw [deriveN, expLabN, expandN_len]
    have HG : Hid ((digestN ctx).length = 32) := digestN_len ctx
    rw [hc]
    rw [hEL] at rr ⊢
    rw [HR.out]
    clear hc hkb hlc hlo hin hEL hBL hRR hib hEX hdb hDC hDL hlc2 hEC2 hEL2 hdg0 hdg1 hn1 hn2
    generalize expLabN key l ctx N = R at *
    generalize labelB l ctx N = LB at *
    generalize deriveN key l ctx = D at *
    generalize digestN ctx = G at *
    go_wp2_with fail
    refine (FB.out _ (rc.keep (alloc_below _ _))).mono ?_
    rintro e w3 ⟨u3, rfl, k3, hb3⟩
    obtain ⟨p4, q4, rfl, rb⟩ := k3.rd
    have sR := Has.new hb3
    replace hb3 := Below.res hb3
    replace rk := rk.keep hb3
    replace rc := rc.keep hb3
    replace r0 := r0.keep hb3
    replace rr := rr.keep hb3
    have HT3 : Hid (Tabs w3) := HT2.out.keep hb3
    replace BW := Below.step BW hb3
    clear hb3 k3 HT2 FB
    go_wp2_with fail
    refine (FX.out _ p4 q4 N hN (rk.keep (alloc_below _ _)) (rb.keep (alloc_below _ _)) (HT3.out.keep (alloc_below _ _))).mono ?_
    rintro e w4 ⟨u4, rfl, k4, hb4⟩
    rw [HM.out N (Nat.le_refl _), List.take_of_length_le (Nat.le_of_eq HR.out)] at k4
    obtain ⟨p5, q5, rfl, rx⟩ := k4.rd
    rw [HR.out]
    have sB := Has.new hb4
    replace hb4 := Below.res hb4
    replace sR := sR.keep hb4
    replace rk := rk.keep hb4
    replace rc := rc.keep hb4
    replace r0 := r0.keep hb4
    replace rr := rr.keep hb4
    replace rb := rb.keep hb4
    have HT4 : Hid (Tabs w4) := HT3.out.keep hb4
    replace BW := Below.step BW hb4
    clear hb4 k4 HT3
    go_wp2_with fail
    refine (lwAt_l a cap bs0 3 (N + 1) _ _ rfl (by omega) _ (r0.keep (alloc_below _ _)) H0.out (by decide) (by omega)).mono ?_
    rintro e w5 ⟨m, rfl, hm, hb5⟩
    have HMN : m ≤ N := by omega
    have sX := Has.new hb5
    replace hb5 := Below.res hb5
    replace sR := sR.keep hb5
    replace sB := sB.keep hb5
    replace rk := rk.keep hb5
    replace rc := rc.keep hb5
    replace rr := rr.keep hb5
    replace rb := rb.keep hb5
    replace rx := rx.keep hb5
    have HT5 : Hid (Tabs w5) := HT4.out.keep hb5
    replace BW := Below.step BW hb5
    clear hb5 HT4 r0 hm
    have cB := sB 1 _ rfl
    have zB := sB.lt
    go_wp2_with fail
    refine (FX.out _ p4 q4 m (by omega) rk rb HT5.out).mono ?_
    rintro e w6 ⟨u6, rfl, k6, hb6⟩
    rw [HM.out m HMN] at k6
    have HTM : Hid ((R.take m).length = m) := by show _ = _; rw [List.length_take, HR.out]; omega
    obtain ⟨p6, q6, rfl, ry⟩ := k6.rd
    rw [HTM.out]
    replace sR := sR.keep hb6
    replace sB := sB.keep hb6
    replace sX := sX.keep hb6
    replace rk := rk.keep hb6
    replace rc := rc.keep hb6
    replace rr := rr.keep hb6
    replace rx := rx.keep hb6
    have HT6 : Hid (Tabs w6) := HT5.out.keep hb6
    replace BW := Below.step BW hb6
    clear hb6 k6 HT5 rb cB zB FX
    go_wp2_with fail
    refine (FD.out _ (rk.keep (alloc_below _ _)) (rc.keep (alloc_below _ _)) (HT6.out.keep (alloc_below _ _))).mono ?_
    rintro e w7 ⟨u7, rfl, k7, hb7⟩
    obtain ⟨p7, q7, rfl, rD⟩ := k7.rd
    rw [HD.out]
    have sY := Has.new hb7
    replace hb7 := Below.res hb7
    replace sR := sR.keep hb7
    replace sB := sB.keep hb7
    replace sX := sX.keep hb7
    replace rk := rk.keep hb7
    replace rc := rc.keep hb7
    replace rr := rr.keep hb7
    replace rx := rx.keep hb7
    replace ry := ry.keep hb7
    have HT7 : Hid (Tabs w7) := HT6.out.keep hb7
    replace BW := Below.step BW hb7
    clear hb7 k7 HT6 FD
    go_wp2_with fail
    refine (FG.out _ (rc.keep (alloc_below _ _)) (HT7.out.keep (alloc_below _ _))).mono ?_
    rintro e w8 ⟨u8, rfl, k8, hb8⟩
    obtain ⟨p8, q8, rfl, rG⟩ := k8.rd
    rw [HG.out]
    have sD := Has.new hb8
    replace hb8 := Below.res hb8
    replace sR := sR.keep hb8
    replace sB := sB.keep hb8
    replace sX := sX.keep hb8
    replace sY := sY.keep hb8
    replace rk := rk.keep hb8
    replace rc := rc.keep hb8
    replace rr := rr.keep hb8
    replace rx := rx.keep hb8
    replace ry := ry.keep hb8
    replace rD := rD.keep hb8
    have HT8 : Hid (Tabs w8) := HT7.out.keep hb8
    replace BW := Below.step BW hb8
    clear hb8 k8 HT7 FG
    go_wp2_with fail
    refine (FE.out _ p8 q8 rk rG HT8.out).mono ?_
    rintro e w9 ⟨u9, rfl, k9, hb9⟩
    obtain ⟨p9, q9, rfl, rE⟩ := k9.rd
    rw [HD.out]
    replace sR := sR.keep hb9
    replace sB := sB.keep hb9
    replace sX := sX.keep hb9
    replace sY := sY.keep hb9
    replace sD := sD.keep hb9
    replace rk := rk.keep hb9
    replace rc := rc.keep hb9
    replace rr := rr.keep hb9
    replace rx := rx.keep hb9
    replace ry := ry.keep hb9
    replace rD := rD.keep hb9
    replace BW := Below.step BW hb9
    clear hb9 k9 HT8 FE rG
    have L9 := alloc_below w9 (Obj.cells #[Value.int IntKind.i64 0, Value.slice p9 32 q9] 27)
    have g1 := cell_keep (sR 1 _ rfl) L9
    have g2 := cell_keep (sB 0 _ rfl) L9
    have g3 := cell_keep (sB 1 _ rfl) L9
    have g4 := cell_keep (sX 1 _ rfl) L9
    have g5 := cell_keep (sY 1 _ rfl) L9
    have g6 := cell_keep (sD 1 _ rfl) L9
    have g7 : (w9.alloc (Obj.cells #[Value.int IntKind.i64 0, Value.slice p9 32 q9] 27)).cell? ⟨w9.heap.size, 1, none⟩ = some (.slice p9 32 q9) := World.cell?_alloc_new _ _ _ _
    replace rk := rk.keep L9
    replace rc := rc.keep L9
    replace rr := rr.keep L9
    replace rx := rx.keep L9
    replace ry := ry.keep L9
    replace rD := rD.keep L9
    replace rE := rE.keep L9
    replace BW := Below.step BW L9
    rw [HB.out] at g3
    have hmq : m ≤ q3 := by have := rr.1; rw [HR.out] at this; omega
    have hmq2 : N ≤ q3 := by have := rr.1; rw [HR.out] at this; exact this
    have hqm : q3 ≤ 2 ^ 63 - 1 := rr.2.1
    have hnil : p3 = none → q3 = 0 := rr.2.2.1
    clear L9 sR sB sX sY sD hkl
    go_wp2_with fail
    simp only [List.append_eq, List.cons_append, List.nil_append]
    generalize w9.alloc (Obj.cells #[Value.int IntKind.i64 0, Value.slice p9 32 q9] 27) = V at *
    replace g1 := HW.at g1
    replace g2 := HW.at g2
    replace g3 := HW.at g3
    replace g4 := HW.at g4
    replace g5 := HW.at g5
    replace g6 := HW.at g6
    replace g7 := HW.at g7
    have hne := HW.some V
    have rt := rr.take m
    cases p3 with
    | none =>
      have e1 := hnil rfl
      subst e1
      have e2 : N = 0 := by omega
      have e3 : m = 0 := by omega
      subst e2 e3
      clear hnil hmq hmq2 hqm
      refine wp_region_odd_seg 15 55 rfl (by kernel_rfl) (by kernel_rfl) (by kernel_rfl) (by kernel_rfl) ?_
      simp only [List.take_succ_cons, List.take_zero]
      repeat (go_big_quiet_step (fail))
      refine wpQuiet_nil ?_
      refine wpG_call (k := 15) rfl (by kernel_rfl) (by kernel_rfl) (by go_simp) 17 _ #[.slice p5 0 q5, .slice none 0 0] (fun w => by go_simp) rfl ?_
      rintro _ ⟨sg0, rfl⟩
      refine (lwSame_yes _ _ _ _ _ _ R _ HR.out HR.out (rx.keep sg0.h) (rr.keep sg0.h)).mono ?_
      rintro e wg0 ⟨rfl, hwg⟩
      subst hwg
      refine ⟨_, rfl, ⟨⟨sg0.w, Below.refl _ _⟩, rfl⟩, ?_⟩
      have hbg : Below _ _ sg0.w := sg0.h
      replace g1 := HW.down g1 hbg
      replace g2 := HW.down g2 hbg
      replace g3 := HW.down g3 hbg
      replace g5 := HW.down g5 hbg
      replace g6 := HW.down g6 hbg
      replace g7 := HW.down g7 hbg
      replace rk := rk.keep hbg
      replace rc := rc.keep hbg
      replace rr := rr.keep hbg
      replace ry := ry.keep hbg
      replace rt := rt.keep hbg
      replace rD := rD.keep hbg
      replace rE := rE.keep hbg
      replace BW := Below.step BW hbg
      replace hne := HW.some sg0.w
      clear hbg g4 rx
      generalize sg0.w = wg0 at *
      clear sg0
      refine wpG_next 16 15 39 (by decide) (by kernel_rfl) (by kernel_rfl) (by kernel_rfl) ?_
      simp only [List.drop_succ_cons, List.drop_zero, List.take_succ_cons, List.take_zero]
      go_simp
      repeat (go_big_quiet_step (fail))
      refine wpQuiet_nil ?_
      refine wpG_call (k := 31) rfl (by kernel_rfl) (by kernel_rfl) (by go_simp) 17 _ #[.slice p6 0 q6, .slice none 0 0] (fun w => by go_simp) rfl ?_
      rintro _ ⟨sg1, rfl⟩
      refine (lwSame_yes _ _ _ _ _ _ (R.take 0) _ HTM.out HTM.out (ry.keep sg1.h) (rt.keep sg1.h)).mono ?_
      rintro e wg1 ⟨rfl, hwg⟩
      subst hwg
      refine ⟨_, rfl, ⟨⟨sg1.w, Below.refl _ _⟩, rfl⟩, ?_⟩
      have hbg : Below _ _ sg1.w := sg1.h
      replace g1 := HW.down g1 hbg
      replace g2 := HW.down g2 hbg
      replace g3 := HW.down g3 hbg
      replace g6 := HW.down g6 hbg
      replace g7 := HW.down g7 hbg
      replace rk := rk.keep hbg
      replace rc := rc.keep hbg
      replace rr := rr.keep hbg
      replace rD := rD.keep hbg
      replace rE := rE.keep hbg
      replace BW := Below.step BW hbg
      replace hne := HW.some sg1.w
      clear hbg g5 ry rt
      generalize sg1.w = wg1 at *
      clear sg1
      refine wpG_next 32 6 32 (by decide) (by kernel_rfl) (by kernel_rfl) (by kernel_rfl) ?_
      simp only [List.drop_succ_cons, List.drop_zero, List.take_succ_cons, List.take_zero]
      go_simp
      repeat (go_big_quiet_step (fail))
      refine wpQuiet_nil ?_
      refine wpG_call (k := 38) rfl (by kernel_rfl) (by kernel_rfl) (by go_simp) 17 _ #[.slice p7 32 q7, .slice p9 32 q9] (fun w => by go_simp) rfl ?_
      rintro _ ⟨sg2, rfl⟩
      refine (lwSame_yes _ _ _ _ _ _ D _ HD.out HD.out (rD.keep sg2.h) (rE.keep sg2.h)).mono ?_
      rintro e wg2 ⟨rfl, hwg⟩
      subst hwg
      refine ⟨_, rfl, ⟨⟨sg2.w, Below.refl _ _⟩, rfl⟩, ?_⟩
      have hbg : Below _ _ sg2.w := sg2.h
      replace g1 := HW.down g1 hbg
      replace g2 := HW.down g2 hbg
      replace g3 := HW.down g3 hbg
      replace g6 := HW.down g6 hbg
      replace rk := rk.keep hbg
      replace rc := rc.keep hbg
      replace rr := rr.keep hbg
      replace BW := Below.step BW hbg
      replace hne := HW.some sg2.w
      clear hbg g7 rD rE
      generalize sg2.w = wg2 at *
      clear sg2
      refine wpG_next 39 26 5 (by decide) (by kernel_rfl) (by kernel_rfl) (by kernel_rfl) ?_
      simp only [List.drop_succ_cons, List.drop_zero, List.take_succ_cons, List.take_zero]
      go_simp
      repeat (go_big_quiet_step (fail))
      refine wpQuiet_nil ?_
      refine wpG_call (k := 65) rfl (by kernel_rfl) (by kernel_rfl) (by go_simp) 11 _ #[.slice p1 key.length q1, .string (strB l), .slice p2 ctx.length q2, .int .i64 (0 : Int)] (fun w => by go_simp) rfl ?_
      rintro _ ⟨sg3, rfl⟩
      refine (FS.out _ (rk.keep sg3.h) (rc.keep sg3.h)).mono ?_
      rintro e wg3 ⟨ug, rfl, kg, hbx⟩
      obtain ⟨pS, qS, rfl, rS⟩ := kg.rd
      rw [HR.out]
      have hbg := Below.step sg3.h hbx
      refine ⟨_, rfl, ⟨⟨wg3, hbx⟩, rfl⟩, ?_⟩
      replace rr := rr.keep hbg
      replace BW := Below.step BW hbg
      replace hne := HW.some wg3
      clear hbg kg hbx g1 g2 g3 g6 rk rc
      refine wpG_next 66 1 3 (by decide) (by kernel_rfl) (by kernel_rfl) (by kernel_rfl) ?_
      simp only [List.drop_succ_cons, List.drop_zero, List.take_succ_cons, List.take_zero]
      go_simp
      repeat (go_big_quiet_step (fail))
      refine wpQuiet_nil ?_
      refine wpG_call (k := 67) rfl (by kernel_rfl) (by kernel_rfl) (by go_simp) 17 _ #[.slice none 0 0, .slice pS 0 qS] (fun w => by go_simp) rfl ?_
      rintro _ ⟨sg4, rfl⟩
      refine (lwSame_yes _ _ _ _ _ _ R _ HR.out HR.out (rr.keep sg4.h) (rS.keep sg4.h)).mono ?_
      rintro e wg4 ⟨rfl, hwg⟩
      subst hwg
      refine ⟨_, rfl, ⟨⟨sg4.w, Below.refl _ _⟩, rfl⟩, ?_⟩
      have hbg : Below _ _ sg4.w := sg4.h
      replace BW := Below.step BW hbg
      replace hne := HW.some sg4.w
      clear hbg rr rS
      generalize sg4.w = wg4 at *
      clear sg4
      refine wpG_next 68 2 0 (by decide) (by kernel_rfl) (by kernel_rfl) (by kernel_rfl) ?_
      simp only [List.drop_succ_cons, List.drop_zero, List.take_succ_cons, List.take_zero]
      go_simp
      repeat (go_big_quiet_step (fail))
      refine wpQuiet_nil ?_
      refine wpG_end rfl ?_
      rintro _ ⟨sgz, rfl⟩
      go_wp2
      go_ret
      exact ⟨rfl, Below.step BW sgz.h⟩
    | some ad =>
      clear hnil
      refine wp_region_odd_seg 15 55 rfl (by kernel_rfl) (by kernel_rfl) (by kernel_rfl) (by kernel_rfl) ?_
      simp only [List.take_succ_cons, List.take_zero]
      repeat (go_big_quiet_step (fail))
      refine wpQuiet_nil ?_
      refine wpG_call (k := 15) rfl (by kernel_rfl) (by kernel_rfl) (by go_simp) 17 _ #[.slice p5 N q5, .slice (some ad) N q3] (fun w => by go_simp) rfl ?_
      rintro _ ⟨sg0, rfl⟩
      refine (lwSame_yes _ _ _ _ _ _ R _ HR.out HR.out (rx.keep sg0.h) (rr.keep sg0.h)).mono ?_
      rintro e wg0 ⟨rfl, hwg⟩
      subst hwg
      refine ⟨_, rfl, ⟨⟨sg0.w, Below.refl _ _⟩, rfl⟩, ?_⟩
      have hbg : Below _ _ sg0.w := sg0.h
      replace g1 := HW.down g1 hbg
      replace g2 := HW.down g2 hbg
      replace g3 := HW.down g3 hbg
      replace g5 := HW.down g5 hbg
      replace g6 := HW.down g6 hbg
      replace g7 := HW.down g7 hbg
      replace rk := rk.keep hbg
      replace rc := rc.keep hbg
      replace rr := rr.keep hbg
      replace ry := ry.keep hbg
      replace rt := rt.keep hbg
      replace rD := rD.keep hbg
      replace rE := rE.keep hbg
      replace BW := Below.step BW hbg
      replace hne := HW.some sg0.w
      clear hbg g4 rx
      generalize sg0.w = wg0 at *
      clear sg0
      refine wpG_next 16 15 39 (by decide) (by kernel_rfl) (by kernel_rfl) (by kernel_rfl) ?_
      simp only [List.drop_succ_cons, List.drop_zero, List.take_succ_cons, List.take_zero]
      go_simp
      repeat (go_big_quiet_step (fail))
      refine wpQuiet_nil ?_
      refine wpG_call (k := 31) rfl (by kernel_rfl) (by kernel_rfl) (by go_simp) 17 _ #[.slice p6 m q6, .slice (some ad) m q3] (fun w => by go_simp) rfl ?_
      rintro _ ⟨sg1, rfl⟩
      refine (lwSame_yes _ _ _ _ _ _ (R.take m) _ HTM.out HTM.out (ry.keep sg1.h) (rt.keep sg1.h)).mono ?_
      rintro e wg1 ⟨rfl, hwg⟩
      subst hwg
      refine ⟨_, rfl, ⟨⟨sg1.w, Below.refl _ _⟩, rfl⟩, ?_⟩
      have hbg : Below _ _ sg1.w := sg1.h
      replace g1 := HW.down g1 hbg
      replace g2 := HW.down g2 hbg
      replace g3 := HW.down g3 hbg
      replace g6 := HW.down g6 hbg
      replace g7 := HW.down g7 hbg
      replace rk := rk.keep hbg
      replace rc := rc.keep hbg
      replace rr := rr.keep hbg
      replace rD := rD.keep hbg
      replace rE := rE.keep hbg
      replace BW := Below.step BW hbg
      replace hne := HW.some sg1.w
      clear hbg g5 ry rt
      generalize sg1.w = wg1 at *
      clear sg1
      refine wpG_next 32 6 32 (by decide) (by kernel_rfl) (by kernel_rfl) (by kernel_rfl) ?_
      simp only [List.drop_succ_cons, List.drop_zero, List.take_succ_cons, List.take_zero]
      go_simp
      repeat (go_big_quiet_step (fail))
      refine wpQuiet_nil ?_
      refine wpG_call (k := 38) rfl (by kernel_rfl) (by kernel_rfl) (by go_simp) 17 _ #[.slice p7 32 q7, .slice p9 32 q9] (fun w => by go_simp) rfl ?_
      rintro _ ⟨sg2, rfl⟩
      refine (lwSame_yes _ _ _ _ _ _ D _ HD.out HD.out (rD.keep sg2.h) (rE.keep sg2.h)).mono ?_
      rintro e wg2 ⟨rfl, hwg⟩
      subst hwg
      refine ⟨_, rfl, ⟨⟨sg2.w, Below.refl _ _⟩, rfl⟩, ?_⟩
      have hbg : Below _ _ sg2.w := sg2.h
      replace g1 := HW.down g1 hbg
      replace g2 := HW.down g2 hbg
      replace g3 := HW.down g3 hbg
      replace g6 := HW.down g6 hbg
      replace rk := rk.keep hbg
      replace rc := rc.keep hbg
      replace rr := rr.keep hbg
      replace BW := Below.step BW hbg
      replace hne := HW.some sg2.w
      clear hbg g7 rD rE
      generalize sg2.w = wg2 at *
      clear sg2
      refine wpG_next 39 26 5 (by decide) (by kernel_rfl) (by kernel_rfl) (by kernel_rfl) ?_
      simp only [List.drop_succ_cons, List.drop_zero, List.take_succ_cons, List.take_zero]
      go_simp
      repeat (go_big_quiet_step (fail))
      refine wpQuiet_nil ?_
      refine wpG_call (k := 65) rfl (by kernel_rfl) (by kernel_rfl) (by go_simp) 11 _ #[.slice p1 key.length q1, .string (strB l), .slice p2 ctx.length q2, .int .i64 (N : Int)] (fun w => by go_simp) rfl ?_
      rintro _ ⟨sg3, rfl⟩
      refine (FS.out _ (rk.keep sg3.h) (rc.keep sg3.h)).mono ?_
      rintro e wg3 ⟨ug, rfl, kg, hbx⟩
      obtain ⟨pS, qS, rfl, rS⟩ := kg.rd
      rw [HR.out]
      have hbg := Below.step sg3.h hbx
      refine ⟨_, rfl, ⟨⟨wg3, hbx⟩, rfl⟩, ?_⟩
      replace rr := rr.keep hbg
      replace BW := Below.step BW hbg
      replace hne := HW.some wg3
      clear hbg kg hbx g1 g2 g3 g6 rk rc
      refine wpG_next 66 1 3 (by decide) (by kernel_rfl) (by kernel_rfl) (by kernel_rfl) ?_
      simp only [List.drop_succ_cons, List.drop_zero, List.take_succ_cons, List.take_zero]
      go_simp
      repeat (go_big_quiet_step (fail))
      refine wpQuiet_nil ?_
      refine wpG_call (k := 67) rfl (by kernel_rfl) (by kernel_rfl) (by go_simp) 17 _ #[.slice (some ad) N q3, .slice pS N qS] (fun w => by go_simp) rfl ?_
      rintro _ ⟨sg4, rfl⟩
      refine (lwSame_yes _ _ _ _ _ _ R _ HR.out HR.out (rr.keep sg4.h) (rS.keep sg4.h)).mono ?_
      rintro e wg4 ⟨rfl, hwg⟩
      subst hwg
      refine ⟨_, rfl, ⟨⟨sg4.w, Below.refl _ _⟩, rfl⟩, ?_⟩
      have hbg : Below _ _ sg4.w := sg4.h
      replace BW := Below.step BW hbg
      replace hne := HW.some sg4.w
      clear hbg rr rS
      generalize sg4.w = wg4 at *
      clear sg4
      refine wpG_next 68 2 0 (by decide) (by kernel_rfl) (by kernel_rfl) (by kernel_rfl) ?_
      simp only [List.drop_succ_cons, List.drop_zero, List.take_succ_cons, List.take_zero]
      go_simp
      repeat (go_big_quiet_step (fail))
      refine wpQuiet_nil ?_
      refine wpG_end rfl ?_
      rintro _ ⟨sgz, rfl⟩
      go_wp2
      go_ret
      exact ⟨rfl, Below.step BW sgz.h⟩
  · have HB : Hid (∀ w', Rd w' p1 q1 key → Rd w' p2 q2 ctx → Calls Tryd.prog 11 #[.slice p1 key.length q1, .string (strB l), .slice p2 ctx.length q2, .int .i64 n] w' fun e w'' => e = .returned (.agg #[.int .i64 (elC key l ctx n), .slice none 0 0]) ∧ Below w'.heap.size w' w'') :=
      fun w' h h' => (specExpL_s p1 p2 q1 q2 key l ctx n w' h h' HL.out).mono fun _ _ ⟨u, h1, h2, h3, h4⟩ => ⟨by rw [h1, h4 hc], h3⟩
    generalize elC key l ctx n = c at *
    generalize (elL key l ctx n).length = ln at *
    have cz0 : (c == 0) = false := by rw [beq_eq_false_iff_ne]; exact hc
    have cz1 : (c != 0) = true := by rw [bne_iff_ne]; exact hc
    have L1 := alloc_below w2 (Obj.cells #[Value.int IntKind.i64 c, Value.slice p3 ln q3] 27)
    clear rr hc r0
    go_wp2
    have d0 : (w2.alloc (Obj.cells #[Value.int IntKind.i64 c, Value.slice p3 ln q3] 27)).cell? ⟨w2.heap.size, 0, none⟩ = some (.int .i64 c) := World.cell?_alloc_new _ _ _ _
    replace BW := Below.step BW L1
    replace rk := rk.keep L1
    replace rc := rc.keep L1
    clear L1
    generalize w2.alloc (Obj.cells #[Value.int IntKind.i64 c, Value.slice p3 ln q3] 27) = W at *
    have g0 := HW.at d0
    have hne := HW.some W
    refine wp_region_class (by kernel_rfl) (by kernel_rfl) ?_
    clear d0
    repeat (go_big_quiet_step ((go_at_call 11; exact Calls.stay (HB.out _ (rk.keep (HW.h _)) (rc.keep (HW.h _))))))
    refine wpQuiet_nil ?_
    intro w5 hw5
    have hs5 := HW.out hw5
    go_wp2
    go_ret
    exact ⟨rfl, Below.step BW hs5⟩
end Go.Proofs.YtkhgimoopdnkbaaDoor
