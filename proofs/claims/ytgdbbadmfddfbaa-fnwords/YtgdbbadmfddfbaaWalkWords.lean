/- The walk of FnWords. -/
import Derived.Test.YtgdbbadmfddfbaaDraws
import Derived.Test.YtgdbbadmfddfbaaTurn
import Derived.Test.YtgdbbadmfddfbaaAdd
import Derived.Test.YtgdbbadmfddfbaaWordB
import Derived.Test.YtgdbbadmfddfbaaGetW
import Derived.Test.YtgdbbadmfddfbaaBig
import Derived.Test.YtgdbbadmfddfbaaKeeps
import Derived.Test.YtgdbbadmfddfbaaClass
import Derived.Test.YtgdbbadmfddfbaaFields
import Derived.Deep.RegionHeld3
namespace Go.Proofs.Ytgdbbadmfddfbaa
open Go.ChangeShapes Go.WideShapes Go.ChangeAt Go.RowKit

set_option maxHeartbeats 4000000 in
theorem fnWords_walk (a : Option Addr) (cap : Nat) (bs0 : List UInt8) (w : World) (r0 : Rd w a cap bs0) :
    Calls Try.prog 3 #[.slice a bs0.length cap] w fun e w' => e = .returned (.bool true) ∧ Below w.heap.size w w' := by
  by_cases hl0 : 1048576 < bs0.length
  · go_enter Try.func3, Try.ntmps3
    go_wp2_with fail
    refine (lwBig_yes _ _ _ _ hl0).mono ?_
    rintro e w1 ⟨rfl, rfl⟩
    go_wp2
    go_ret
    exact ⟨rfl, Below.refl _ _⟩
  replace hl0 : bs0.length ≤ 1048576 := by omega
  go_enter Try.func3, Try.ntmps3
  go_wp2_with fail
  refine (lwBig_no _ _ _ _ hl0).mono ?_
  rintro e w1 ⟨rfl, hw1⟩
  rw [hw1]
  clear hw1 w1
  go_wp2_with fail
  refine (drawTurn_c _ _ bs0 _ r0).mono ?_
  rintro e w2 ⟨v, n, rfl, v0, v1, n0, n1, BW⟩
  replace r0 := r0.keep BW
  go_wp2_with fail
  refine (implTurn_c v n _).mono ?_
  rintro e w3 ⟨rfl, hb3⟩
  replace r0 := r0.keep hb3
  replace BW := Below.step BW hb3
  clear hb3
  have hf0 := int_f0
  have hf1 := int_f1
  cases hok : (inB v 0 4294967295 && inB n 0 31)
  · have hc : turnCode v n = 3 := by simp [turnCode, hok]
    rw [hc]
    have BA := Below.mk BW (Obj.cells #[Value.int IntKind.i64 3, Value.int IntKind.i64 (turnVal v n)] 27)
    go_wp2
    go_region_held3 (fun w' => w'.cell? ⟨w3.heap.size, 0, none⟩ = some (.int .i64 3) ∧ Below w.heap.size w w') (first | (exact ⟨by simp, Below.drew BA⟩) | (refine ⟨cell_keep (And.left (by assumption)) (by assumption), Below.step (And.right (by assumption)) (by assumption)⟩)) ((go_at_call 8; refine (specTurn_c v n _).mono ?_; rintro e w4 ⟨rfl, hb4⟩))
    all_goals
      go_wp2
      go_ret
      exact ⟨rfl, And.right (by assumption)⟩
  · have hc : turnCode v n = 0 := by simp [turnCode, hok]
    rw [hc]
    obtain ⟨iv, inn⟩ : inB v 0 4294967295 = true ∧ inB n 0 31 = true := by simpa using hok
    have hv := of_decide_eq_true iv
    have hn := of_decide_eq_true inn
    have hrl : ((rotN v.toNat n.toNat : Nat) : Int) ≤ 4294967295 := by have := rotN_lt v.toNat n.toNat (by omega) (by omega); omega
    have eV : turnVal v n = (rotN v.toNat n.toNat : Nat) := turnVal_ok iv inn
    have EC : Hid (turnCode (turnVal v n) (-n % 32) = 0) := by
      show _ = _
      rw [eV, turnCode_ok (inB_true (by omega) hrl) (inB_true (by omega) (by omega))]
    have EB : Hid (turnVal (turnVal v n) (-n % 32) = v) := by
      show _ = _
      rw [eV, turnVal_ok (inB_true (by omega) hrl) (inB_true (by omega) (by omega)), Int.toNat_natCast, show (-n % 32).toNat = (32 - n.toNat) % 32 by omega, rotN_back _ _ (by omega) (by omega)]
      omega
    have hWB : Hid (wbCode v = 0 ∧ wbBytes v = putB v.toNat 4) := ⟨wbCode_ok iv, wbBytes_ok iv⟩
    have hGW : Hid (gwCode (putB v.toNat 4) = 0 ∧ gwVal (putB v.toNat 4) = v) := by
      refine ⟨by simp [gwCode, putB_len], ?_⟩
      simp only [gwVal, putB_len, if_true]
      rw [getB_put4 _ (by omega)]; omega
    have ST : Hid (∀ w, Calls Try.prog 8 #[.int .i64 v, .int .i64 n] w fun e w' => e = .returned (.agg #[.int .i64 0, .int .i64 (turnVal v n)]) ∧ Below w.heap.size w w') := fun w => by have h := specTurn_c v n w; rw [hc] at h; exact h
    clear hrl eV iv inn hok hc
    generalize turnVal v n = rv at *
    go_wp2_with fail
    refine (implTurn_c rv (-n % 32) _).mono ?_
    rintro e w4 ⟨rfl, hb4⟩
    rw [EC.out, EB.out]
    clear EC EB
    have sR := Has.new hb4
    replace hb4 := Below.res hb4
    replace r0 := r0.keep hb4
    replace BW := Below.step BW hb4
    clear hb4
    go_wp2_with fail
    refine (implWB_c v _).mono ?_
    rintro e w5 ⟨u, rfl, k5, hb5⟩
    rw [hWB.out.1]
    rw [hWB.out.2] at k5
    obtain ⟨p5, q5, rfl, -⟩ := k5.rd
    have l5 := putB_len v.toNat 4
    rw [l5]
    rw [l5] at k5
    clear hWB l5
    have sB := Has.new hb5
    replace hb5 := Below.res hb5
    replace r0 := r0.keep hb5
    replace sR := sR.keep hb5
    replace BW := Below.step BW hb5
    clear hb5
    go_wp2_with fail
    refine (implBW4_c p5 q5 (putB v.toNat 4) _ ((Rd.own k5).keep (alloc_below _ _)) (putB_len _ _)).mono ?_
    rintro e w6 ⟨rfl, hb6⟩
    rw [hGW.out.1, hGW.out.2]
    clear hGW k5
    have sW := Has.new hb6
    replace hb6 := Below.res hb6
    replace r0 := r0.keep hb6
    replace sR := sR.keep hb6
    replace sB := sB.keep hb6
    replace BW := Below.step BW hb6
    clear hb6
    go_wp2_with fail
    refine (drawAdd_c _ _ bs0 _ (r0.keep (alloc_below _ _))).mono ?_
    rintro e w7 ⟨x, y, rfl, x0, x1, y0, y1, hb7⟩
    have sD := Has.new hb7
    replace hb7 := Below.res hb7
    replace sR := sR.keep hb7
    replace sB := sB.keep hb7
    replace sW := sW.keep hb7
    replace BW := Below.step BW hb7
    clear hb7 r0
    cases hk : (inB x 0 4294967295 && inB y 0 4294967295)
    · have e1 : addCode x y = 3 := by simp [addCode, hk]
      have e2 : addVal x y = 0 := by simp [addVal, hk]
      have HI : Hid (∀ w, Calls Try.prog 12 #[.int .i64 x, .int .i64 y] w fun e w' => e = .returned (.agg #[.int .i64 3, .int .i64 0]) ∧ Below w.heap.size w w') := fun w => by have h := implAdd_c x y w; rw [e1, e2] at h; exact h
      have HS : Hid (∀ w, Calls Try.prog 13 #[.int .i64 x, .int .i64 y] w fun e w' => e = .returned (.agg #[.int .i64 3, .int .i64 0]) ∧ Below w.heap.size w w') := fun w => by have h := specAdd_c x y w; rw [e1, e2] at h; exact h
      have HC : Hid (∀ w, Calls Try.prog 12 #[.int .i64 y, .int .i64 x] w fun e w' => e = .returned (.agg #[.int .i64 (addCode y x), .int .i64 0]) ∧ Below w.heap.size w w') := fun w => by have h := implAdd_c y x w; rw [addVal_comm y x, e2] at h; exact h
      clear e1 e2 hk
      go_wp2_with fail
      refine (HI.out _).mono ?_
      rintro e w8 ⟨rfl, hb8⟩
      replace sR := sR.keep hb8
      replace sB := sB.keep hb8
      replace sW := sW.keep hb8
      replace sD := sD.keep hb8
      replace BW := Below.step BW hb8
      clear hb8
      have cR1 := sR 1 _ rfl
      have cB0 := sB 0 _ rfl
      have cB1 := sB 1 _ rfl
      have cW1 := sW 1 _ rfl
      have cD0 := sD 0 _ rfl
      have cD1 := sD 1 _ rfl
      have zR := sR.lt
      have zB := sB.lt
      have zW := sW.lt
      have zD := sD.lt
      have BA := Below.mk BW (Obj.cells #[Value.int IntKind.i64 3, Value.int IntKind.i64 0] 27)
      go_wp2
      simp only [List.append_eq, List.cons_append, List.nil_append]
      have d0 := cell_keep cB0 (alloc_below w8 (Obj.cells #[Value.int IntKind.i64 3, Value.int IntKind.i64 0] 27))
      have d1 := cell_keep cB1 (alloc_below w8 (Obj.cells #[Value.int IntKind.i64 3, Value.int IntKind.i64 0] 27))
      have d2 := cell_keep cW1 (alloc_below w8 (Obj.cells #[Value.int IntKind.i64 3, Value.int IntKind.i64 0] 27))
      have d3 := cell_keep cD0 (alloc_below w8 (Obj.cells #[Value.int IntKind.i64 3, Value.int IntKind.i64 0] 27))
      have d4 := cell_keep cD1 (alloc_below w8 (Obj.cells #[Value.int IntKind.i64 3, Value.int IntKind.i64 0] 27))
      have d5 := cell_keep cR1 (alloc_below w8 (Obj.cells #[Value.int IntKind.i64 3, Value.int IntKind.i64 0] 27))
      have d6 : (w8.alloc (Obj.cells #[Value.int IntKind.i64 3, Value.int IntKind.i64 0] 27)).cell? ⟨w8.heap.size, 0, none⟩ = some (.int .i64 3) := World.cell?_alloc_new _ _ _ _
      have d7 : (w8.alloc (Obj.cells #[Value.int IntKind.i64 3, Value.int IntKind.i64 0] 27)).cell? ⟨w8.heap.size, 1, none⟩ = some (.int .i64 0) := World.cell?_alloc_new _ _ _ _
      generalize w8.alloc (Obj.cells #[Value.int IntKind.i64 3, Value.int IntKind.i64 0] 27) = W at *
      have g0 := HW.at d0
      have g1 := HW.at d1
      have g2 := HW.at d2
      have g3 := HW.at d3
      have g4 := HW.at d4
      have g5 := HW.at d5
      have g6 := HW.at d6
      have g7 := HW.at d7
      clear d0 d1 d2 d3 d4 d5 d6 d7 cB0 cB1 cW1 cD0 cD1 cR1 sR sB sW sD zR zB zW zD
      have hne := HW.some W
      refine wp_region_class (by kernel_rfl) (by kernel_rfl) ?_
      repeat (go_big_quiet_step ((first | (go_at_call 13; exact Calls.stay (HS.out _)) | (go_at_call 12; exact Calls.stay (HC.out _)) | (go_at_call 8; exact Calls.stay (ST.out _)))))
      refine wpQuiet_nil ?_
      intro w9 hw9
      obtain ⟨s, rfl⟩ := hw9
      go_wp2
      go_ret
      exact ⟨rfl, Below.step BA s.h⟩
    · have e1 : addCode x y = 0 := by simp [addCode, hk]
      have e2 : addVal x y = (x + y) % 4294967296 := by simp [addVal, hk]
      obtain ⟨ix, iy⟩ : inB x 0 4294967295 = true ∧ inB y 0 4294967295 = true := by simpa using hk
      have hx := of_decide_eq_true ix
      have hy := of_decide_eq_true iy
      clear ix iy
      have HI : Hid (∀ w, Calls Try.prog 12 #[.int .i64 x, .int .i64 y] w fun e w' => e = .returned (.agg #[.int .i64 0, .int .i64 ((x + y) % 4294967296)]) ∧ Below w.heap.size w w') := fun w => by have h := implAdd_c x y w; rw [e1, e2] at h; exact h
      have HS : Hid (∀ w, Calls Try.prog 13 #[.int .i64 x, .int .i64 y] w fun e w' => e = .returned (.agg #[.int .i64 0, .int .i64 ((x + y) % 4294967296)]) ∧ Below w.heap.size w w') := fun w => by have h := specAdd_c x y w; rw [e1, e2] at h; exact h
      have HC : Hid (∀ w, Calls Try.prog 12 #[.int .i64 y, .int .i64 x] w fun e w' => e = .returned (.agg #[.int .i64 (addCode y x), .int .i64 ((x + y) % 4294967296)]) ∧ Below w.heap.size w w') := fun w => by have h := implAdd_c y x w; rw [addVal_comm y x, e2] at h; exact h
      clear e1 e2 hk
      go_wp2_with fail
      refine (HI.out _).mono ?_
      rintro e w8 ⟨rfl, hb8⟩
      replace sR := sR.keep hb8
      replace sB := sB.keep hb8
      replace sW := sW.keep hb8
      replace sD := sD.keep hb8
      replace BW := Below.step BW hb8
      clear hb8
      have cR1 := sR 1 _ rfl
      have cB0 := sB 0 _ rfl
      have cB1 := sB 1 _ rfl
      have cW1 := sW 1 _ rfl
      have cD0 := sD 0 _ rfl
      have cD1 := sD 1 _ rfl
      have zR := sR.lt
      have zB := sB.lt
      have zW := sW.lt
      have zD := sD.lt
      have BA := Below.mk BW (Obj.cells #[Value.int IntKind.i64 0, Value.int IntKind.i64 ((x + y) % 4294967296)] 27)
      go_wp2
      simp only [List.append_eq, List.cons_append, List.nil_append]
      have d0 := cell_keep cB0 (alloc_below w8 (Obj.cells #[Value.int IntKind.i64 0, Value.int IntKind.i64 ((x + y) % 4294967296)] 27))
      have d1 := cell_keep cB1 (alloc_below w8 (Obj.cells #[Value.int IntKind.i64 0, Value.int IntKind.i64 ((x + y) % 4294967296)] 27))
      have d2 := cell_keep cW1 (alloc_below w8 (Obj.cells #[Value.int IntKind.i64 0, Value.int IntKind.i64 ((x + y) % 4294967296)] 27))
      have d3 := cell_keep cD0 (alloc_below w8 (Obj.cells #[Value.int IntKind.i64 0, Value.int IntKind.i64 ((x + y) % 4294967296)] 27))
      have d4 := cell_keep cD1 (alloc_below w8 (Obj.cells #[Value.int IntKind.i64 0, Value.int IntKind.i64 ((x + y) % 4294967296)] 27))
      have d5 := cell_keep cR1 (alloc_below w8 (Obj.cells #[Value.int IntKind.i64 0, Value.int IntKind.i64 ((x + y) % 4294967296)] 27))
      have d6 : (w8.alloc (Obj.cells #[Value.int IntKind.i64 0, Value.int IntKind.i64 ((x + y) % 4294967296)] 27)).cell? ⟨w8.heap.size, 0, none⟩ = some (.int .i64 0) := World.cell?_alloc_new _ _ _ _
      have d7 : (w8.alloc (Obj.cells #[Value.int IntKind.i64 0, Value.int IntKind.i64 ((x + y) % 4294967296)] 27)).cell? ⟨w8.heap.size, 1, none⟩ = some (.int .i64 ((x + y) % 4294967296)) := World.cell?_alloc_new _ _ _ _
      generalize w8.alloc (Obj.cells #[Value.int IntKind.i64 0, Value.int IntKind.i64 ((x + y) % 4294967296)] 27) = W at *
      have g0 := HW.at d0
      have g1 := HW.at d1
      have g2 := HW.at d2
      have g3 := HW.at d3
      have g4 := HW.at d4
      have g5 := HW.at d5
      have g6 := HW.at d6
      have g7 := HW.at d7
      clear d0 d1 d2 d3 d4 d5 d6 d7 cB0 cB1 cW1 cD0 cD1 cR1 sR sB sW sD zR zB zW zD
      have hne := HW.some W
      refine wp_region_class (by kernel_rfl) (by kernel_rfl) ?_
      repeat (go_big_quiet_step ((first | (go_at_call 13; exact Calls.stay (HS.out _)) | (go_at_call 12; exact Calls.stay (HC.out _)) | (go_at_call 8; exact Calls.stay (ST.out _)))))
      refine wpQuiet_nil ?_
      intro w9 hw9
      obtain ⟨s, rfl⟩ := hw9
      go_wp2
      go_ret
      exact ⟨rfl, Below.step BA s.h⟩
end Go.Proofs.Ytgdbbadmfddfbaa
