/- The walk of FnFinishes, where the two tables hold what the program's text lays. -/
import Derived.Test.YtkhgimoopdnkbaaDoorDrawL
import Derived.Test.YtkhgimoopdnkbaaDoorFinI
import Derived.Test.YtkhgimoopdnkbaaDoorBig
import Derived.Test.YtkhgimoopdnkbaaDoorLwSame
import Derived.Test.YtkhgimoopdnkbaaDoorOdd
import Derived.Test.YtkhgimoopdnkbaaDoorFields
namespace Go.Proofs.YtkhgimoopdnkbaaDoor
open Go.ChangeShapes Go.WideShapes Go.ChangeAt Go.RowKit

set_option maxRecDepth 4000 in
set_option maxHeartbeats 4000000 in
theorem fnFinishes_walk (a : Option Addr) (cap : Nat) (bs0 : List UInt8) (w : World) (r0 : Rd w a cap bs0) (hT : Tabs w) :
    Calls Tryd.prog 4 #[.slice a bs0.length cap] w fun e w' => e = .returned (.bool true) ∧ Below w.heap.size w w' := by
  by_cases hl0 : 1048576 < bs0.length
  · go_enter Tryd.func4, Tryd.ntmps4
    go_wp2_with fail
    refine (lwBig_yes _ _ _ _ hl0).mono ?_
    rintro e w1 ⟨rfl, rfl⟩
    go_wp2
    go_ret
    exact ⟨rfl, Below.refl _ _⟩
  replace hl0 : bs0.length ≤ 1048576 := by omega
  have bf0 := bytes_f0
  have bf1 := bytes_f1
  go_enter Tryd.func4, Tryd.ntmps4
  go_wp2_with fail
  refine (lwBig_no _ _ _ _ hl0).mono ?_
  rintro e w1 ⟨rfl, hw1⟩
  rw [hw1]
  clear hw1 w1
  go_wp2_with fail
  refine (drawFin_c _ _ bs0 _ r0).mono ?_
  rintro e w1 ⟨p1, p2, q1, q2, key, digest, rfl, rk, rd, hkl, hdl, BW⟩
  have HT : Hid (Tabs w1) := hT.keep BW
  clear hT r0
  go_wp2_with fail
  refine (implFn_c p1 p2 q1 q2 key digest _ rk rd HT.out).mono ?_
  rintro e w2 ⟨u1, rfl, k1, hb2⟩
  obtain ⟨p3, q3, rfl, rr⟩ := k1.rd
  have HT2 : Hid (Tabs w2) := HT.out.keep hb2
  replace rk := rk.keep hb2
  replace rd := rd.keep hb2
  replace BW := Below.step BW hb2
  clear hb2 k1 HT
  by_cases hok : key.length = 32 ∧ digest.length = 32
  · obtain ⟨h1, h2⟩ := hok
    have hc : fnC key digest = 0 := by simp [fnC, h1, h2]
    have hL : fnL key digest = finN key digest := by simp [fnL, h1, h2]
    have hkb : keyB key = true := by simp [keyB]; omega
    have hlc : labelC finished [] 32 = 0 := by decide
    have KE : Hid (∀ w, Rd w p1 q1 key → Tabs w → Calls Tryd.prog 10 #[.slice p1 key.length q1, .string ⟨#[102, 105, 110, 105, 115, 104, 101, 100]⟩, .slice none 0 0, .int .i64 32] w fun e w' => ∃ (a : Option Addr) (c : Nat), e = .returned (.agg #[.int .i64 0, .slice a 32 c]) ∧ Own w' w.heap.size (.slice a 32 c) (expLabN key finished [] 32) ∧ Below w.heap.size w w') := fun w h ht => by
      have g := implExpL_c p1 none q1 0 key finished [] 32 w h ⟨Nat.le_refl _, by unfold maxLen; decide, fun _ => rfl, fun hp => by simp at hp⟩ (by decide) ht
      have he : elC key finished [] 32 = 0 := by simp [elC, hkb, hlc]
      rw [he, show elL key finished [] 32 = expLabN key finished [] 32 by rw [elL, if_pos he]; rfl] at g
      rw [finished_str]
      refine g.mono ?_
      rintro e w' ⟨u, rfl, k, hb⟩
      obtain ⟨a, c, rfl, -⟩ := k.rd
      rw [show (expLabN key finished [] 32).length = 32 by rw [expLabN, expandN_len]] at k ⊢
      exact ⟨a, c, rfl, k, hb⟩
    have KM : Hid (∀ (w : World) (a : Option Addr) (c : Nat) (ek : List UInt8), ek.length = 32 → Rd w a c ek → Rd w p2 q2 digest → Tabs w → Calls Tryd.prog 21 #[.slice a 32 c, .slice p2 digest.length q2] w fun e w' => ∃ (a : Option Addr) (c : Nat), e = .returned (.agg #[.int .i64 0, .slice a 32 c]) ∧ Own w' w.heap.size (.slice a 32 c) (macN ek digest) ∧ Below w.heap.size w w') := fun w a c ek hl h h' ht => by
      have g := implMac_c a p2 c q2 ek digest w h h' ht
      have hok : macOk ek digest = true := by simp [macOk, keyB, dataB]; omega
      rw [hl, show macC ek digest = 0 by simp [macC, hok], show macL ek digest = macN ek digest by simp [macL, hok]] at g
      refine g.mono ?_
      rintro e w' ⟨u, rfl, k, hb⟩
      obtain ⟨a, c, rfl, -⟩ := k.rd
      rw [macN_len] at k ⊢
      exact ⟨a, c, rfl, k, hb⟩
    have HS : Hid (∀ w, Rd w p1 q1 key → Rd w p2 q2 digest → Calls Tryd.prog 20 #[.slice p1 key.length q1, .slice p2 digest.length q2] w fun e w' => ∃ u, e = .returned (.agg #[.int .i64 0, u]) ∧ Own w' w.heap.size u (finN key digest) ∧ Below w.heap.size w w') := fun w h h' => by
      have g := specFn_c p1 p2 q1 q2 key digest w h h'
      rw [hc, hL] at g
      exact g
    have HFE : Hid (finN key digest = macN (expLabN key finished [] 32) digest) := rfl
    have HFL : Hid ((finN key digest).length = 32) := finN_len _ _
    have HEL : Hid ((expLabN key finished [] 32).length = 32) := by show _ = _; rw [expLabN, expandN_len]
    rw [hc]
    rw [hL] at rr ⊢
    rw [HFL.out]
    generalize finN key digest = fv at *
    generalize expLabN key finished [] 32 = ek at *
    clear hc hL hkb hlc h1 h2
    have A1 := Arr.new w2 [.int .i64 0, .slice p3 32 q3] 27
    have hbA := alloc_below w2 (.cells #[.int .i64 0, .slice p3 32 q3] 27)
    replace rk := rk.keep hbA
    replace rd := rd.keep hbA
    replace rr := rr.keep hbA
    replace BW := Below.step BW hbA
    have HT3 : Hid (Tabs _) := HT2.out.keep hbA
    clear hbA HT2
    go_wp2_with fail
    refine (KE.out _ rk HT3.out).mono ?_
    rintro e w3 ⟨p4, q4, rfl, k3, hb3⟩
    have A2 := Arr.new w3 [.int .i64 0, .slice p4 32 q4] 27
    have hb3' := Below.mk hb3 (.cells #[.int .i64 0, .slice p4 32 q4] 27)
    have re := (Rd.own k3).keep (alloc_below _ (.cells #[.int .i64 0, .slice p4 32 q4] 27))
    replace rk := rk.keep hb3'
    replace rd := rd.keep hb3'
    replace rr := rr.keep hb3'
    replace A1 := A1.stay hb3'
    replace BW := Below.step BW hb3'
    have HT4 : Hid (Tabs _) := HT3.out.keep hb3'
    clear hb3 hb3' k3 HT3
    go_wp2_with fail
    refine (KM.out _ p4 q4 ek HEL.out re rd HT4.out).mono ?_
    rintro e w4 ⟨p5, q5, rfl, k4, hb4⟩
    rw [← HFE.out] at k4
    have A3 := Arr.new w4 [.int .i64 0, .slice p5 32 q5] 27
    have hb4' := Below.mk hb4 (.cells #[.int .i64 0, .slice p5 32 q5] 27)
    have rm := (Rd.own k4).keep (alloc_below _ (.cells #[.int .i64 0, .slice p5 32 q5] 27))
    replace rk := rk.keep hb4'
    replace rd := rd.keep hb4'
    replace rr := rr.keep hb4'
    replace A1 := A1.stay hb4'
    replace A2 := A2.stay hb4'
    replace BW := Below.step BW hb4'
    clear hb4 hb4' k4 re HT4
    go_wp2_with fail
    generalize w4.alloc (Obj.cells #[Value.int IntKind.i64 0, Value.slice p5 32 q5] 27) = W at *
    have c1 := A1.cell 1
    have c2 := A2.cell 0
    have c3 := A3.cell 0
    have c4 := A3.cell 1
    simp at c1 c2 c3 c4
    have g1 := HW.at c1
    have g2 := HW.at c2
    have g3 := HW.at c3
    have g4 := HW.at c4
    have hne := HW.some W
    clear c1 c2 c3 c4 A1 A2 A3 KE KM
    refine wp_region_odd_seg 13 18 rfl (by kernel_rfl) (by kernel_rfl) (by kernel_rfl) (by kernel_rfl) ?_
    simp only [List.take_succ_cons, List.take_zero]
    repeat (go_big_quiet_step (fail))
    refine wpQuiet_nil ?_
    refine wpG_call (k := 13) rfl (by kernel_rfl) (by kernel_rfl) (by go_simp) 17 _ #[.slice p3 32 q3, .slice p5 32 q5] (fun w => by go_simp) rfl ?_
    rintro _ ⟨sg0, rfl⟩
    refine (lwSame_yes p3 p5 q3 q5 32 32 fv _ HFL.out HFL.out (rr.keep sg0.h) (rm.keep sg0.h)).mono ?_
    rintro e wg0 ⟨rfl, hwg⟩
    subst hwg
    refine ⟨_, rfl, ⟨⟨sg0.w, Below.refl _ _⟩, rfl⟩, ?_⟩
    have hbg : Below _ _ sg0.w := sg0.h
    replace g1 := HW.down g1 hbg
    replace rr := rr.keep hbg
    replace rk := rk.keep hbg
    replace rd := rd.keep hbg
    replace BW := Below.step BW hbg
    replace hne := HW.some sg0.w
    clear hbg g2 g3 g4 rm
    generalize sg0.w = wg0 at *
    clear sg0
    refine wpG_next 14 12 5 (by decide) (by kernel_rfl) (by kernel_rfl) (by kernel_rfl) ?_
    simp only [List.drop_succ_cons, List.drop_zero, List.take_succ_cons, List.take_zero]
    go_simp
    repeat (go_big_quiet_step (fail))
    refine wpQuiet_nil ?_
    refine wpG_call (k := 26) rfl (by kernel_rfl) (by kernel_rfl) (by go_simp) 20 _ #[.slice p1 key.length q1, .slice p2 digest.length q2] (fun w => by go_simp) rfl ?_
    rintro _ ⟨sg1, rfl⟩
    refine (HS.out _ (rk.keep sg1.h) (rd.keep sg1.h)).mono ?_
    rintro e wg1 ⟨ug, rfl, kg, hbx⟩
    obtain ⟨p8, q8, rfl, r8⟩ := kg.rd
    rw [HFL.out]
    have hbg := Below.step sg1.h hbx
    refine ⟨_, rfl, ⟨⟨wg1, hbx⟩, rfl⟩, ?_⟩
    replace rr := rr.keep hbg
    replace BW := Below.step BW hbg
    replace hne := HW.some wg1
    clear hbg kg hbx rk rd g1
    refine wpG_next 27 1 3 (by decide) (by kernel_rfl) (by kernel_rfl) (by kernel_rfl) ?_
    simp only [List.drop_succ_cons, List.drop_zero, List.take_succ_cons, List.take_zero]
    go_simp
    repeat (go_big_quiet_step (fail))
    refine wpQuiet_nil ?_
    refine wpG_call (k := 28) rfl (by kernel_rfl) (by kernel_rfl) (by go_simp) 17 _ #[.slice p3 32 q3, .slice p8 32 q8] (fun w => by go_simp) rfl ?_
    rintro _ ⟨sg2, rfl⟩
    refine (lwSame_yes p3 p8 q3 q8 32 32 fv _ HFL.out HFL.out (rr.keep sg2.h) (r8.keep sg2.h)).mono ?_
    rintro e wg2 ⟨rfl, hwg⟩
    subst hwg
    refine ⟨_, rfl, ⟨⟨sg2.w, Below.refl _ _⟩, rfl⟩, ?_⟩
    have hbg : Below _ _ sg2.w := sg2.h
    replace BW := Below.step BW hbg
    replace hne := HW.some sg2.w
    clear hbg rr r8
    generalize sg2.w = wg2 at *
    clear sg2
    refine wpG_next 29 2 0 (by decide) (by kernel_rfl) (by kernel_rfl) (by kernel_rfl) ?_
    simp only [List.drop_succ_cons, List.drop_zero, List.take_succ_cons, List.take_zero]
    go_simp
    repeat (go_big_quiet_step (fail))
    refine wpQuiet_nil ?_
    refine wpG_end rfl ?_
    rintro _ ⟨sgz, rfl⟩
    go_wp2
    go_ret
    exact ⟨rfl, Below.step BW sgz.h⟩
  · have hc : fnC key digest = 1 := by simp [fnC, hok]
    have HB : Hid (∀ w', Rd w' p1 q1 key → Rd w' p2 q2 digest → Calls Tryd.prog 20 #[.slice p1 key.length q1, .slice p2 digest.length q2] w' fun e w'' => e = .returned (.agg #[.int .i64 1, .slice none 0 0]) ∧ Below w'.heap.size w' w'') :=
      fun w' h h' => (specFn_s p1 p2 q1 q2 key digest w' h h').mono fun _ _ ⟨u, h1, h2, h3, h4⟩ => ⟨by rw [h1, h4 (by rw [hc]; decide), hc], h3⟩
    rw [hc]
    generalize (fnL key digest).length = ln at *
    have L1 := alloc_below w2 (Obj.cells #[Value.int IntKind.i64 1, Value.slice p3 ln q3] 27)
    clear rr hc hok
    go_wp2
    have d0 : (w2.alloc (Obj.cells #[Value.int IntKind.i64 1, Value.slice p3 ln q3] 27)).cell? ⟨w2.heap.size, 0, none⟩ = some (.int .i64 1) := World.cell?_alloc_new _ _ _ _
    replace BW := Below.step BW L1
    replace rk := rk.keep L1
    replace rd := rd.keep L1
    clear L1
    generalize w2.alloc (Obj.cells #[Value.int IntKind.i64 1, Value.slice p3 ln q3] 27) = W at *
    have g0 := HW.at d0
    have hne := HW.some W
    refine wp_region_class (by kernel_rfl) (by kernel_rfl) ?_
    clear d0
    repeat (go_big_quiet_step ((go_at_call 20; exact Calls.stay (HB.out _ (rk.keep (HW.h _)) (rd.keep (HW.h _))))))
    refine wpQuiet_nil ?_
    intro w5 hw5
    have hs5 := HW.out hw5
    go_wp2
    go_ret
    exact ⟨rfl, Below.step BW hs5⟩
end Go.Proofs.YtkhgimoopdnkbaaDoor
