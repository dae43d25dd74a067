/- The walk of FnMacs, where the two tables hold what the program's text lays. -/
import Derived.Test.YtajefbaoncmieaaDoorDrawK
import Derived.Test.YtajefbaoncmieaaDoorKeyI
import Derived.Test.YtajefbaoncmieaaDoorBig
import Derived.Test.YtajefbaoncmieaaDoorLwSame
import Derived.Test.YtajefbaoncmieaaDoorOdd
import Derived.Test.YtajefbaoncmieaaDoorFields
namespace Go.Proofs.YtajefbaoncmieaaDoor
open Go.ChangeShapes Go.WideShapes Go.ChangeAt Go.RowKit


set_option maxRecDepth 4000 in
set_option maxHeartbeats 4000000 in
theorem fnMacs_walk (a : Option Addr) (cap : Nat) (bs0 : List UInt8) (w : World) (r0 : Rd w a cap bs0) (hT : Tabs w) :
    Calls Tryd.prog 4 #[.slice a bs0.length cap] w fun e w' => e = .returned (.bool true) ∧ Below w.heap.size w w' := by
  by_cases hl0 : 1048576 < bs0.length
  · go_enter Tryd.func4, Tryd.ntmps4
    go_wp2_with fail
    refine (lwBig_yes _ _ _ _ hl0).mono ?_
    rintro e w1 ⟨rfl, rfl⟩
    go_wp2
    go_ret
    exact ⟨rfl, Below.refl _ _⟩
  replace hl0 : bs0.length ≤ 1048576 := by omega
  have bf0 := bytes_f0
  have bf1 := bytes_f1
  go_enter Tryd.func4, Tryd.ntmps4
  go_wp2_with fail
  refine (lwBig_no _ _ _ _ hl0).mono ?_
  rintro e w1 ⟨rfl, hw1⟩
  rw [hw1]
  clear hw1 w1
  go_wp2_with fail
  refine (drawMac_c _ _ bs0 _ r0).mono ?_
  rintro e w1 ⟨p1, p2, q1, q2, key, data, rfl, rk, rd, hkl, hdl, BW⟩
  clear r0 hl0
  have HT : Hid (Tabs w1) := hT.keep BW
  clear hT
  go_wp2_with fail
  refine (implMac_c p1 p2 q1 q2 key data _ rk rd HT.out).mono ?_
  rintro e w2 ⟨u1, rfl, k1, hb2⟩
  obtain ⟨p3, q3, rfl, rr⟩ := k1.rd
  have HT2 : Hid (Tabs w2) := HT.out.keep hb2
  replace rk := rk.keep hb2
  replace rd := rd.keep hb2
  replace BW := Below.step BW hb2
  clear hb2 HT k1
  cases hok : macOk key data
  · have hcc : macC key data = 2 := by simp [macC, hok]
    have HB : Hid (∀ w', Rd w' p1 q1 key → Rd w' p2 q2 data → Calls Tryd.prog 17 #[.slice p1 key.length q1, .slice p2 data.length q2] w' fun e w'' => e = .returned (.agg #[.int .i64 2, .slice none 0 0]) ∧ Below w'.heap.size w' w'') :=
      fun w' h h' => (specMac_s p1 p2 q1 q2 key data w' h h').mono fun _ _ ⟨u, h1, h2, h3, h4⟩ => ⟨by rw [h1, h4 (by rw [hcc]; decide), hcc], h3⟩
    rw [hcc]
    generalize (macL key data).length = ln at *
    have L1 := alloc_below w2 (Obj.cells #[Value.int IntKind.i64 2, Value.slice p3 ln q3] 26)
    clear rr hcc hok
    go_wp2
    have d0 : (w2.alloc (Obj.cells #[Value.int IntKind.i64 2, Value.slice p3 ln q3] 26)).cell? ⟨w2.heap.size, 0, none⟩ = some (.int .i64 2) := World.cell?_alloc_new _ _ _ _
    replace BW := Below.step BW L1
    replace rk := rk.keep L1
    replace rd := rd.keep L1
    clear L1
    generalize w2.alloc (Obj.cells #[Value.int IntKind.i64 2, Value.slice p3 ln q3] 26) = W at *
    have g0 := HW.at d0
    have hne := HW.some W
    refine wp_region_class (by kernel_rfl) (by kernel_rfl) ?_
    clear d0
    repeat (go_big_quiet_step ((go_at_call 17; exact Calls.stay (HB.out _ (rk.keep (HW.h _)) (rd.keep (HW.h _))))))
    refine wpQuiet_nil ?_
    intro w5 hw5
    have hs5 := HW.out hw5
    go_wp2
    go_ret
    exact ⟨rfl, Below.step BW hs5⟩
  · have hkk : key.length ≤ 64 := by simp [macOk, keyB] at hok; exact hok.1
    have hC : macC key data = 0 := by simp [macC, hok]
    have hLL : macL key data = macN key data := by simp [macL, hok]
    have hXX : extL key data = macN key data := by simp [extL, hok, extractN_eq]
    have HS : Hid (∀ w, Rd w p1 q1 key → Rd w p2 q2 data → Calls Tryd.prog 17 #[.slice p1 key.length q1, .slice p2 data.length q2] w fun e w' => ∃ u, e = .returned (.agg #[.int .i64 0, u]) ∧ Own w' w.heap.size u (macN key data) ∧ Below w.heap.size w w') := fun w h h' => by
      have h := specMac_c p1 p2 q1 q2 key data w h h'
      rw [hC, hLL] at h
      exact h
    have HX : Hid (∀ w, Rd w p1 q1 key → Rd w p2 q2 data → Tabs w → Calls Tryd.prog 18 #[.slice p1 key.length q1, .slice p2 data.length q2] w fun e w' => ∃ u, e = .returned (.agg #[.int .i64 0, u]) ∧ Own w' w.heap.size u (macN key data) ∧ Below w.heap.size w w') := fun w h h' ht => by
      have h := implExt_c p1 p2 q1 q2 key data w h h' ht
      rw [hC, hXX] at h
      exact h
    have HZ : Hid (key.length < 64 → ∀ (w : World) (p : Option Addr) (q : Nat), Rd w p q (key ++ [0]) → Rd w p2 q2 data → Tabs w → Calls Tryd.prog 16 #[.slice p (key.length + 1) q, .slice p2 data.length q2] w fun e w' => ∃ u, e = .returned (.agg #[.int .i64 0, u]) ∧ Own w' w.heap.size u (macN key data) ∧ Below w.heap.size w w') := fun h64 w p q h h' ht => by
      have h := implMac_c p p2 q q2 (key ++ [0]) data w h h' ht
      have hok2 : macOk (key ++ [0]) data = true := by
        simp [macOk, keyB] at hok ⊢
        exact ⟨by omega, hok.2⟩
      rw [show macC (key ++ [0]) data = 0 by simp [macC, hok2], show macL (key ++ [0]) data = macN key data by simp only [macL, hok2, if_true]; exact macN_zeros key data 1 (by omega), List.length_append] at h
      exact h
    have hD : Hid ((macN key data).length = 32) := macN_len key data
    rw [hC]
    rw [hLL] at rr ⊢
    rw [hD.out]
    generalize macN key data = mc at *
    clear hC hLL hXX hok
    have A1 := Arr.new w2 [.int .i64 0, .slice p3 32 q3] 26
    have A2 := Arr.new (w2.alloc (.cells #[.int .i64 0, .slice p3 32 q3] 26)) [.int .i64 0, .slice p3 32 q3] 26
    rw [size_alloc] at A2
    replace A1 := A1.old _ (.cells #[.int .i64 0, .slice p3 32 q3] 26)
    have L2 : Below w2.heap.size w2 ((w2.alloc (.cells #[.int .i64 0, .slice p3 32 q3] 26)).alloc (.cells #[.int .i64 0, .slice p3 32 q3] 26)) := Below.mk (alloc_below _ _) _
    by_cases h64 : key.length < 64
    case' pos =>
      have H64 : Hid (key.length < 64) := h64
      have O1 := none_own8 ((w2.alloc (.cells #[.int .i64 0, .slice p3 32 q3] 26)).alloc (.cells #[.int .i64 0, .slice p3 32 q3] 26)) (w2.heap.size + 1 + 1) (by rw [size_alloc, size_alloc]; exact Nat.le_refl _)
      rw [size_alloc, size_alloc] at O1
      have BR := Below.mk L2 (.cells #[] 5)
      have B1 := A1.old _ (.cells #[] 5)
      have B2 := A2.old _ (.cells #[] 5)
      go_wp2_with (first
        | (at_builtin; refine wpList_append_rd rfl (.tmp 32) (.tmp 33) rfl (w2.heap.size + 1 + 1) _ [] rfl O1 p1 q1 key rfl (rk.keep BR) (by simp; omega) (by simp) ?_; intro v4 w4 k4 hg4; rw [List.nil_append] at k4; replace B1 := B1.other hg4 (fun e => by have := O1.ge _ e; omega); replace B2 := B2.other hg4 (fun e => by have := O1.ge _ e; omega); replace BR := BR.grown hg4 BR.size (fun k hk => by have := O1.ge k hk; omega); have z4 : Hid (w2.heap.size + 1 < w4.heap.size) := B2.lt; clear hg4 O1; have k4' := k4.stay (alloc_below w4 (.cells #[.int .u8 0] 5)); replace B1 := B1.old _ (.cells #[.int .u8 0] 5); replace B2 := B2.old _ (.cells #[.int .u8 0] 5); replace BR := Below.mk BR (.cells #[.int .u8 0] 5))
        | (at_builtin; refine wpList_append_rd rfl (.tmp 34) (.tmp 35) rfl (w2.heap.size + 1 + 1) _ key rfl k4' _ 1 [0] rfl (rd_one w4 0 _ _ rfl) (by simp; omega) (by have := z4.out; rw [size_alloc]; omega) ?_; intro v5 w5 k5 hg5; replace B1 := B1.other hg5 (fun e => by have := k4.ge _ e; omega); replace B2 := B2.other hg5 (fun e => by have := k4.ge _ e; omega); replace BR := BR.grown hg5 BR.size (fun k hk => by have := k4.ge k hk; omega); clear hg5 k4 k4'))
      obtain ⟨p5, q5, rfl, rd5⟩ := k5.rd
      rw [List.length_append, List.length_singleton]
      refine (HZ.out H64.out _ p5 q5 rd5 (rd.keep BR) (HT2.out.keep BR)).mono ?_
      rintro e w6 ⟨u6, rfl, k6, hb6⟩
      obtain ⟨pX, qX, rfl, -⟩ := k6.rd
      rw [hD.out] at k6 ⊢
      have z6 : Hid (w2.heap.size + 1 < w5.heap.size) := B2.lt
      replace B1 := B1.stay hb6
      replace B2 := B2.stay hb6
      replace BR := Below.step BR hb6
      have d0 := B2.cell 0
      have d1 := B2.cell 1
      simp at d0 d1
      have f0 := B2.frozen
      have zz := B2.lt
      clear hb6 k5 rd5
      go_wp2_with fail
      have rX := Rd.own ((k6.set (a := ⟨w2.heap.size + 1, 0, none⟩) z6.out (.int .i64 0)).set (a := ⟨w2.heap.size + 1, 1, none⟩) z6.out (.slice pX 32 qX))
      have S2 : Arr ((w6.setCell ⟨w2.heap.size + 1, 0, none⟩ (.int .i64 0)).setCell ⟨w2.heap.size + 1, 1, none⟩ (.slice pX 32 qX)) (w2.heap.size + 1) 26 [.int .i64 0, .slice pX 32 qX] := (B2.set 0 (.int .i64 0)).set 1 (.slice pX 32 qX)
      have S1 := (B1.setOther (a := ⟨w2.heap.size + 1, 0, none⟩) (by show w2.heap.size ≠ w2.heap.size + 1; omega) (.int .i64 0)).setOther (a := ⟨w2.heap.size + 1, 1, none⟩) (by show w2.heap.size ≠ w2.heap.size + 1; omega) (.slice pX 32 qX)
      replace BR := (BR.setCell (p := ⟨w2.heap.size + 1, 0, none⟩) (by show w2.heap.size ≤ w2.heap.size + 1; omega) (.int .i64 0)).setCell (p := ⟨w2.heap.size + 1, 1, none⟩) (by show w2.heap.size ≤ w2.heap.size + 1; omega) (.slice pX 32 qX)
      clear d0 d1 f0 zz k6 B1 B2 z6 A1 A2 L2 h64
      generalize (w6.setCell ⟨w2.heap.size + 1, 0, none⟩ (.int .i64 0)).setCell ⟨w2.heap.size + 1, 1, none⟩ (.slice pX 32 qX) = W at *
    case' neg =>
      go_wp2_with fail
      have S1 := A1
      obtain ⟨pX, qX, rX, S2⟩ : ∃ pX qX, Rd ((w2.alloc (.cells #[.int .i64 0, .slice p3 32 q3] 26)).alloc (.cells #[.int .i64 0, .slice p3 32 q3] 26)) pX qX mc ∧ Arr ((w2.alloc (.cells #[.int .i64 0, .slice p3 32 q3] 26)).alloc (.cells #[.int .i64 0, .slice p3 32 q3] 26)) (w2.heap.size + 1) 26 [.int .i64 0, .slice pX 32 qX] := ⟨p3, q3, rr.keep L2, A2⟩
      have BR := L2
      clear A1 A2 L2 h64
      generalize (w2.alloc (.cells #[.int .i64 0, .slice p3 32 q3] 26)).alloc (.cells #[.int .i64 0, .slice p3 32 q3] 26) = W at *
    all_goals
      have HTW : Hid (Tabs W) := HT2.out.keep BR
      replace rk := rk.keep BR
      replace rd := rd.keep BR
      replace rr := rr.keep BR
      replace BW := Below.step BW BR
      clear BR HT2 HZ
      refine (HX.out _ rk rd HTW.out).mono ?_
      rintro e w7 ⟨u7, rfl, k7, hb7⟩
      obtain ⟨p7, q7, rfl, r7⟩ := k7.rd
      rw [hD.out]
      replace S1 := S1.stay hb7
      replace S2 := S2.stay hb7
      replace rk := rk.keep hb7
      replace rd := rd.keep hb7
      replace rr := rr.keep hb7
      replace rX := rX.keep hb7
      replace BW := Below.step BW hb7
      have L7 := alloc_below w7 (Obj.cells #[Value.int IntKind.i64 0, Value.slice p7 32 q7] 26)
      have g1 := cell_keep (S1.cell 1) L7
      have g2 := cell_keep (S2.cell 1) L7
      have g3 : (w7.alloc (Obj.cells #[Value.int IntKind.i64 0, Value.slice p7 32 q7] 26)).cell? ⟨w7.heap.size, 0, none⟩ = some (.int .i64 0) := World.cell?_alloc_new _ _ _ _
      have g4 : (w7.alloc (Obj.cells #[Value.int IntKind.i64 0, Value.slice p7 32 q7] 26)).cell? ⟨w7.heap.size, 1, none⟩ = some (.slice p7 32 q7) := World.cell?_alloc_new _ _ _ _
      replace rk := rk.keep L7
      replace rd := rd.keep L7
      replace rr := rr.keep L7
      replace rX := rX.keep L7
      replace r7 := r7.keep L7
      replace BW := Below.step BW L7
      clear L7 S1 S2 hb7 k7 HTW HX
      go_wp2_with fail
      generalize w7.alloc (Obj.cells #[Value.int IntKind.i64 0, Value.slice p7 32 q7] 26) = V at *
      replace g1 := HW.at g1
      replace g2 := HW.at g2
      replace g3 := HW.at g3
      replace g4 := HW.at g4
      have hne := HW.some V
      refine wp_region_odd_seg 9 24 rfl (by kernel_rfl) (by kernel_rfl) (by kernel_rfl) (by kernel_rfl) ?_
      simp only [List.take_succ_cons, List.take_zero]
      repeat (go_big_quiet_step (fail))
      refine wpQuiet_nil ?_
      refine wpG_call (k := 9) rfl (by kernel_rfl) (by kernel_rfl) (by go_simp) 11 _ #[.slice p3 32 q3, .slice pX 32 qX] (fun w => by go_simp) rfl ?_
      rintro _ ⟨s1, rfl⟩
      refine (lwSame_yes _ _ _ _ _ _ mc _ hD.out hD.out (rr.keep s1.h) (rX.keep s1.h)).mono ?_
      rintro e w8 ⟨rfl, hw8⟩
      subst hw8
      have y1 := HW.down g1 s1.h
      have y3 := HW.down g3 s1.h
      have y4 := HW.down g4 s1.h
      have hne8 := HW.some s1.w
      refine ⟨_, rfl, ⟨⟨s1.w, Below.refl _ _⟩, rfl⟩, ?_⟩
      replace rk := rk.keep s1.h
      replace rd := rd.keep s1.h
      replace rr := rr.keep s1.h
      replace r7 := r7.keep s1.h
      replace BW := Below.step BW s1.h
      clear g1 g2 g3 g4 hne rX
      generalize s1.w = w8 at *
      clear s1
      refine wpG_next 10 11 12 (by decide) (by kernel_rfl) (by kernel_rfl) (by kernel_rfl) ?_
      simp only [List.drop_succ_cons, List.drop_zero, List.take_succ_cons, List.take_zero]
      go_simp
      repeat (go_big_quiet_step (fail))
      refine wpQuiet_nil ?_
      refine wpG_call (k := 21) rfl (by kernel_rfl) (by kernel_rfl) (by go_simp) 11 _ #[.slice p7 32 q7, .slice p3 32 q3] (fun w => by go_simp) rfl ?_
      rintro _ ⟨s2, rfl⟩
      refine (lwSame_yes _ _ _ _ _ _ mc _ hD.out hD.out (r7.keep s2.h) (rr.keep s2.h)).mono ?_
      rintro e w9 ⟨rfl, hw9⟩
      subst hw9
      have x1 := HW.down y1 s2.h
      have hne9 := HW.some s2.w
      refine ⟨_, rfl, ⟨⟨s2.w, Below.refl _ _⟩, rfl⟩, ?_⟩
      replace rk := rk.keep s2.h
      replace rd := rd.keep s2.h
      replace rr := rr.keep s2.h
      replace BW := Below.step BW s2.h
      clear y1 y3 y4 hne8 r7
      generalize s2.w = w9 at *
      clear s2
      refine wpG_next 22 6 5 (by decide) (by kernel_rfl) (by kernel_rfl) (by kernel_rfl) ?_
      simp only [List.drop_succ_cons, List.drop_zero, List.take_succ_cons, List.take_zero]
      go_simp
      repeat (go_big_quiet_step (fail))
      refine wpQuiet_nil ?_
      refine wpG_call (k := 28) rfl (by kernel_rfl) (by kernel_rfl) (by go_simp) 17 _ #[.slice p1 key.length q1, .slice p2 data.length q2] (fun w => by go_simp) rfl ?_
      rintro _ ⟨s3, rfl⟩
      refine (HS.out _ (rk.keep s3.h) (rd.keep s3.h)).mono ?_
      rintro e w10 ⟨u10, rfl, k10, hb10⟩
      obtain ⟨pA, qA, rfl, rA⟩ := k10.rd
      rw [hD.out]
      have hb11 := Below.step s3.h hb10
      have hne10 := HW.some w10
      replace rr := rr.keep hb11
      replace BW := Below.step BW hb11
      refine ⟨_, rfl, ⟨⟨w10, hb10⟩, rfl⟩, ?_⟩
      clear x1 hne9 hb10 hb11 k10 rk rd
      refine wpG_next 29 1 3 (by decide) (by kernel_rfl) (by kernel_rfl) (by kernel_rfl) ?_
      simp only [List.drop_succ_cons, List.drop_zero, List.take_succ_cons, List.take_zero]
      go_simp
      repeat (go_big_quiet_step (fail))
      refine wpQuiet_nil ?_
      refine wpG_call (k := 30) rfl (by kernel_rfl) (by kernel_rfl) (by go_simp) 11 _ #[.slice p3 32 q3, .slice pA 32 qA] (fun w => by go_simp) rfl ?_
      rintro _ ⟨s4, rfl⟩
      refine (lwSame_yes _ _ _ _ _ _ mc _ hD.out hD.out (rr.keep s4.h) (rA.keep s4.h)).mono ?_
      rintro e w11 ⟨rfl, hw11⟩
      subst hw11
      have hne11 := HW.some s4.w
      refine ⟨_, rfl, ⟨⟨s4.w, Below.refl _ _⟩, rfl⟩, ?_⟩
      replace BW := Below.step BW s4.h
      clear hne10 rA rr
      generalize s4.w = w11 at *
      clear s4
      refine wpG_next 31 2 0 (by decide) (by kernel_rfl) (by kernel_rfl) (by kernel_rfl) ?_
      simp only [List.drop_succ_cons, List.drop_zero, List.take_succ_cons, List.take_zero]
      go_simp
      repeat (go_big_quiet_step (fail))
      refine wpQuiet_nil ?_
      refine wpG_end rfl ?_
      rintro _ ⟨s10, rfl⟩
      go_wp2
      go_ret
      exact ⟨rfl, Below.step BW s10.h⟩
end Go.Proofs.YtajefbaoncmieaaDoor
