/- The walk of FnPowers. -/
import Derived.Test.YtdolhafkihkocaaDrawP
import Derived.Test.YtdolhafkihkocaaPowI
import Derived.Test.YtdolhafkihkocaaLwAt
import Derived.Test.YtdolhafkihkocaaBig
import Derived.Test.YtdolhafkihkocaaArr
import Derived.Test.YtdolhafkihkocaaOdd
import Derived.Test.YtdolhafkihkocaaPick
import Derived.Test.YtdolhafkihkocaaFields
namespace Go.Proofs.Ytdolhafkihkocaa
open Go.ChangeShapes Go.WideShapes Go.ChangeAt Go.RowKit

set_option maxRecDepth 4000 in
set_option maxHeartbeats 8000000 in
theorem fnPowers_walk (a : Option Addr) (cap : Nat) (bs0 : List UInt8) (w : World) (r0 : Rd w a cap bs0) :
    Calls Try.prog 4 #[.slice a bs0.length cap] w fun e w' => e = .returned (.bool true) ∧ Below w.heap.size w w' := by
  by_cases hl0 : 1048576 < bs0.length
  · go_enter Try.func4, Try.ntmps4
    go_wp2_with fail
    refine (lwBig_yes _ _ _ _ hl0).mono ?_
    rintro e w1 ⟨rfl, rfl⟩
    go_wp2
    go_ret
    exact ⟨rfl, Below.refl _ _⟩
  replace hl0 : bs0.length ≤ 1048576 := by omega
  have if0 := int_f0
  have if1 := int_f1
  go_enter Try.func4, Try.ntmps4
  go_wp2_with fail
  refine (lwBig_no _ _ _ _ hl0).mono ?_
  rintro e w1 ⟨rfl, hw1⟩
  rw [hw1]
  clear hw1 w1
  go_wp2_with fail
  refine (drawPo_c _ _ bs0 _ r0).mono ?_
  rintro e w1 ⟨x, y, rfl, hx0, hx1, hy0, hy1, BW⟩
  replace r0 := r0.keep BW
  go_wp2_with fail
  refine (implPo_c x y _).mono ?_
  rintro e w2 ⟨rfl, hb2⟩
  replace r0 := r0.keep hb2
  replace BW := Below.step BW hb2
  clear hb2
  --@tail
  by_cases hp : poC x y = 0
  · have hxy : inB x 1 65520 = true ∧ inB y 0 65521 = true := by
      unfold poC at hp
      cases h1 : inB x 1 65520 <;> cases h2 : inB y 0 65521 <;> simp [h1, h2] at hp ⊢
    obtain ⟨h1, h2⟩ := hxy
    obtain ⟨bn, rfl, hb1, hb2⟩ := nat_of_in h1 (by decide)
    obtain ⟨en, rfl, -, he2⟩ := nat_of_in h2 (by decide)
    have hv : poV (bn : Int) (en : Int) = (powN bn en : Nat) := by simp [poV, hp]
    rw [hp, hv]
    have A1 := Arr.new w2 [.int .i64 0, .int .i64 ((powN bn en : Nat) : Int)] 27
    have hbA := alloc_below w2 (.cells #[.int .i64 0, .int .i64 ((powN bn en : Nat) : Int)] 27)
    replace r0 := r0.keep hbA
    replace BW := Below.step BW hbA
    clear hbA
    have KA : Hid (∀ w, Rd w a cap bs0 → Calls Try.prog 20 #[.slice a bs0.length cap, .int .i64 3, .int .i64 ((en : Int) + 1)] w fun e w' => ∃ m : Nat, e = .returned (.int .i64 (m : Int)) ∧ m ≤ en ∧ Below w.heap.size w w') := fun w h => by
      refine (lwAt_c a cap bs0 3 (en + 1) w h hl0 (by decide) (by omega)).mono ?_
      rintro e w' ⟨m, rfl, hm, hb⟩
      exact ⟨m, rfl, by omega, hb⟩
    go_wp2_with fail
    refine (KA.out _ r0).mono ?_
    rintro e w3 ⟨m, rfl, hm, hb3⟩
    replace A1 := A1.stay hb3
    replace BW := Below.step BW hb3
    clear hb3 KA r0
    have KP : Hid (∀ (w : World) (k : Nat) (ki : Int), ki = k → k ≤ en → Calls Try.prog 17 #[.int .i64 (bn : Int), .int .i64 ki] w fun e w' => e = .returned (.agg #[.int .i64 0, .int .i64 ((powN bn k : Nat) : Int)]) ∧ Below w.heap.size w w') := fun w k ki hk hle => by
      subst hk
      have g := implPo_c bn k w
      have h3 : inB (k : Int) 0 65521 = true := by simp [inB]; omega
      have h4 : poC (bn : Int) (k : Int) = 0 := by simp [poC, h1, h3]
      rw [h4, show poV (bn : Int) (k : Int) = (powN bn k : Nat) by simp [poV, h4]] at g
      exact g
    have KE : Hid (∀ (w : World), Calls Try.prog 17 #[.int .i64 (bn : Int), .int .i64 65520] w fun e w' => e = .returned (.agg #[.int .i64 0, .int .i64 1]) ∧ Below w.heap.size w w') := fun w => by
      have g := implPo_c bn 65520 w
      have h4 : poC (bn : Int) 65520 = 0 := by simp [poC, h1]; decide
      obtain ⟨E, hE⟩ : ∃ E : Nat, E = (65520 : Int).toNat := ⟨_, rfl⟩
      rw [h4, show poV (bn : Int) 65520 = (powN bn E : Nat) by rw [poV, if_pos h4, ← hE]; rfl, fermat (by omega) (by omega) (hE.trans rfl)] at g
      exact g
    have HPR : Hid (((powN bn m : Nat) : Int) * ((powN bn (en - m) : Nat) : Int) % 65521 = ((powN bn en : Nat) : Int)) := by
      show _ = _
      have h := powN_add bn m (en - m)
      rw [show m + (en - m) = en by omega] at h
      rw [← h, Int.natCast_emod, Int.natCast_mul]; rfl
    have HPos : Hid (1 ≤ ((powN bn en : Nat) : Int)) := by show _ ≤ _; have := powN_pos (b := bn) (e := en) (by omega) (by omega) (by omega); omega
    have Hm1 : Hid (((powN bn m : Nat) : Int) ≤ 65520) := by show _ ≤ _; have := powN_lt bn m; omega
    have Hm2 : Hid (((powN bn (en - m) : Nat) : Int) ≤ 65520) := by show _ ≤ _; have := powN_lt bn (en - m); omega
    go_wp2_with fail
    refine (KP.out _ m _ rfl hm).mono ?_
    rintro e w4 ⟨rfl, hb4⟩
    obtain ⟨R, HR⟩ : ∃ R, Hid (R = powN bn en) := ⟨_, rfl⟩
    obtain ⟨Ra, HRa⟩ : ∃ R, Hid (R = powN bn m) := ⟨_, rfl⟩
    obtain ⟨Rb, HRb⟩ : ∃ R, Hid (R = powN bn (en - m)) := ⟨_, rfl⟩
    rw [← HRb.out] at HPR Hm2
    rw [← HRa.out] at HPR Hm1 ⊢
    rw [← HR.out] at A1 HPR HPos
    have A2 := Arr.new w4 [.int .i64 0, .int .i64 (Ra : Int)] 27
    replace hb4 := Below.mk hb4 (.cells #[.int .i64 0, .int .i64 (Ra : Int)] 27)
    replace A1 := A1.stay hb4
    replace BW := Below.step BW hb4
    clear hb4
    have hsub : Hid ((en : Int) - (m : Int) = ((en - m : Nat) : Int)) := by show _ = _; omega
    go_wp2_with fail
    refine (KP.out _ (en - m) _ hsub.out (Nat.sub_le _ _)).mono ?_
    rintro e w5 ⟨rfl, hb5⟩
    rw [← HRb.out]
    have A3 := Arr.new w5 [.int .i64 0, .int .i64 (Rb : Int)] 27
    replace hb5 := Below.mk hb5 (.cells #[.int .i64 0, .int .i64 (Rb : Int)] 27)
    replace A1 := A1.stay hb5
    replace A2 := A2.stay hb5
    replace BW := Below.step BW hb5
    clear hb5 KP hsub HR HRa HRb
    have c0 := A1.cell 1
    have d0 := A2.cell 0
    have d1 := A2.cell 1
    have e0 := A3.cell 0
    have e1 := A3.cell 1
    simp at c0 d0 d1 e0 e1
    have hpr : ((Ra : Int) * (Rb : Int) % 65521 == (R : Int)) = true := by rw [beq_iff_eq]; exact HPR.out
    have hm1 := Hm1.out
    have hm2 := Hm2.out
    have hpp : (Ra : Int) * (Rb : Int) ≤ 4292870400 := by
      have h := Nat.mul_le_mul (show Ra ≤ 65520 by omega) (show Rb ≤ 65520 by omega)
      rw [← Int.natCast_mul]; omega
    have hpp0 : 0 ≤ (Ra : Int) * (Rb : Int) := by rw [← Int.natCast_mul]; omega
    have hpos := HPos.out
    go_wp2_with fail
    refine (KE.out _).mono ?_
    rintro e w6 ⟨rfl, hb6⟩
    replace c0 := cell_keep c0 hb6
    replace BW := Below.step BW hb6
    clear hb6
    go_wp2
    go_ret
    exact ⟨rfl, BW⟩
  · have hp1 : (poC x y != 0) = true := by rw [bne_iff_ne]; exact hp
    have KS : Hid (∀ w, Calls Try.prog 19 #[.int .i64 x, .int .i64 y] w fun e w' => e = .returned (.agg #[.int .i64 (poC x y), .int .i64 (poV x y)]) ∧ Below w.heap.size w w') := fun w => specPo_c x y w
    clear hp
    generalize poC x y = pc at *
    generalize poV x y = pv at *
    have A1 := Arr.new w2 [.int .i64 pc, .int .i64 pv] 27
    have hbA := alloc_below w2 (.cells #[.int .i64 pc, .int .i64 pv] 27)
    replace BW := Below.step BW hbA
    clear hbA r0
    go_wp2_with fail
    generalize w2.alloc (Obj.cells #[Value.int IntKind.i64 pc, Value.int IntKind.i64 pv] 27) = V at *
    have c1 := A1.cell 0
    simp at c1
    have g1 := HW.at c1
    have hne := HW.some V
    clear c1 A1
    refine wp_region_pick [0, 1, 4, 5] 7 3 1 rfl rfl rfl (by kernel_rfl) (by kernel_rfl) (by kernel_rfl) (by kernel_rfl) ?_
    simp only [opsAt, List.getElem?_toArray, List.getElem?_cons_zero, List.getElem?_cons_succ]
    repeat (go_big_quiet_step (fail))
    refine wpQuiet_nil ?_
    refine wpM_only (i := 2) (by kernel_rfl) ?_
    refine mOp_call rfl (by go_simp) 19 _ #[.int .i64 x, .int .i64 y] (fun w => by go_simp) rfl ?_
    rintro _ ⟨sg0, rfl⟩
    refine (KS.out _).mono ?_
    rintro e wg0 ⟨rfl, hbx⟩
    have hbg := Below.step sg0.h hbx
    refine ⟨_, rfl, ⟨⟨wg0, hbx⟩, rfl⟩, ?_⟩
    replace BW := Below.step BW hbg
    replace hne := HW.some wg0
    clear hbg hbx g1
    refine wpM_more [3, 6] 2 0 rfl (by kernel_rfl) (by kernel_rfl) (by kernel_rfl) (by kernel_rfl) ?_
    simp only [opsAt, List.getElem?_toArray, List.getElem?_cons_zero, List.getElem?_cons_succ]
    go_simp
    repeat (go_big_quiet_step (fail))
    refine wpQuiet_nil ?_
    refine wpM_end (by kernel_rfl) rfl (by kernel_rfl) (by decide) ?_
    rintro _ ⟨sgz, rfl⟩
    simp only [List.drop_succ_cons, List.drop_zero]
    go_wp2
    go_ret
    exact ⟨rfl, Below.step BW sgz.h⟩
end Go.Proofs.Ytdolhafkihkocaa
