/- The contracts of chapter 8's functions in the program, at every argument: code and number, or bytes. What was there stays. -/
import Derived.Test.YtiabacnmmojfjaaGreatDoorJoint7
import Derived.Test.YtiabacnmmojfjaaGreatDoorJoint3
import Derived.BigQuiet
import Derived.Test.YtiabacnmmojfjaaGreatDoorCod
import Derived.Test.YtiabacnmmojfjaaGreatDoorJoint4
namespace Go.Proofs.YtiabacnmmojfjaaGreatDoor
open Go.ChangeShapes Go.WideShapes Go.ChangeAt Go.RowKit
theorem and1_u64 (a : Nat) (h : a < 18446744073709551616) : bits .and .u64 (a : Int) 1 = (a : Int) % 2 := by
  have e : ∀ n : Nat, n < 18446744073709551616 → (BitVec.ofInt 64 (n : Int)).toNat = n := fun n hn => by rw [BitVec.toNat_ofInt]; omega
  show IntKind.u64.wrap ((BitVec.ofInt 64 (a : Int) &&& BitVec.ofInt 64 ((1 : Nat) : Int)).toNat : Int) = _
  rw [BitVec.toNat_and, e a h, e 1 (by decide), Nat.and_one_is_mod, IntKind.wrap_u64]
  omega
theorem or_i64 (m b : Nat) (hm : m < 256) (h1 : b < 256) : bits .or .i64 ((m : Int) * 256) (b : Int) = ((m * 256 + b : Nat) : Int) := by
  have e : ∀ n : Nat, n < 18446744073709551616 → (BitVec.ofInt 64 (n : Int)).toNat = n := fun n hn => by rw [BitVec.toNat_ofInt]; omega
  have h2 : b < 2 ^ 8 := by omega
  rw [show ((m : Int) * 256) = ((m * 256 : Nat) : Int) by omega]
  show IntKind.i64.wrap ((BitVec.ofInt 64 ((m * 256 : Nat) : Int) ||| BitVec.ofInt 64 (b : Int)).toNat : Int) = _
  rw [BitVec.toNat_or, e _ (by omega), e b (by omega), show m * 256 = m <<< 8 by rw [Nat.shiftLeft_eq], ← Nat.shiftLeft_add_eq_or_of_lt h2, Nat.shiftLeft_eq, IntKind.wrap_i64]
  omega
theorem isElement_c (v : Int) (w : World) : Calls Tryz.prog 147 #[.int .i64 v] w fun e w' => e = .returned (.bool (inB v 1 65520)) ∧ w' = w := by
  by_cases h1 : 1 ≤ v
  · by_cases h2 : v ≤ 65520
    · rw [show inB v 1 65520 = true by simp [inB, h1, h2]]
      go_enter Tryz.func147, Tryz.ntmps147
      go_wp2
      go_ret
      exact ⟨rfl, rfl⟩
    · rw [show inB v 1 65520 = false by simp [inB, h2]]
      go_enter Tryz.func147, Tryz.ntmps147
      go_wp2
      go_ret
      exact ⟨rfl, rfl⟩
  · rw [show inB v 1 65520 = false by simp [inB, h1]]
    go_enter Tryz.func147, Tryz.ntmps147
    go_wp2
    go_ret
    exact ⟨rfl, rfl⟩
theorem isGroupSecret_c (v : Int) (w : World) : Calls Tryz.prog 37 #[.int .i64 v] w fun e w' => e = .returned (.bool (inB v 1 65519)) ∧ w' = w := by
  by_cases h1 : 1 ≤ v
  · by_cases h2 : v ≤ 65519
    · rw [show inB v 1 65519 = true by simp [inB, h1, h2]]
      go_enter Tryz.func37, Tryz.ntmps37
      go_wp2
      go_ret
      exact ⟨rfl, rfl⟩
    · rw [show inB v 1 65519 = false by simp [inB, h2]]
      go_enter Tryz.func37, Tryz.ntmps37
      go_wp2
      go_ret
      exact ⟨rfl, rfl⟩
  · rw [show inB v 1 65519 = false by simp [inB, h1]]
    go_enter Tryz.func37, Tryz.ntmps37
    go_wp2
    go_ret
    exact ⟨rfl, rfl⟩
set_option maxRecDepth 4000 in
set_option maxHeartbeats 1000000 in
theorem times_c (x y : Nat) (w : World) (hx : x ≤ 65520) (hy : y ≤ 65520) :
    Calls Tryz.prog 210 #[.agg #[.int .u64 (x : Int)], .agg #[.int .u64 (y : Int)]] w fun e w' => e = .returned (.agg #[.int .u64 ((x * y % 65521 : Nat) : Int)]) ∧ Below w.heap.size w w' := by
  have hxy : x * y ≤ 65520 * 65520 := Nat.mul_le_mul hx hy
  have exy : ((x * y : Nat) : Int) = (x : Int) * (y : Int) := Int.natCast_mul x y
  have h1 : (x : Int) * (y : Int) ≤ 4292870400 := by rw [← exy]; omega
  have h0 : 0 ≤ (x : Int) * (y : Int) := by rw [← exy]; omega
  have E1 : Hid ((x : Int) * (y : Int) % 65521 = ((x * y % 65521 : Nat) : Int)) := by show _ = _; rw [Int.natCast_emod, exy]; rfl
  clear hxy exy
  go_enter Tryz.func210, Tryz.ntmps210
  go_wp2
  exact bodyPost_ret (v := .agg #[.int .u64 ((x : Int) * (y : Int) % 65521)]) (by simp [results, Tryz.results210, go_sem]) rfl ⟨by rw [E1.out], ((alloc_below _ _).alloc (by simp) _).alloc (by simp; omega) _⟩
set_option maxRecDepth 4000 in
set_option maxHeartbeats 1000000 in
theorem power_c (b e : Nat) (w : World) (hb : b ≤ 65520) (he : e ≤ 65521) :
    Calls Tryz.prog 185 #[.agg #[.int .u64 (b : Int)], .int .u64 (e : Int)] w fun x w' => x = .returned (.agg #[.int .u64 ((powN b e : Nat) : Int)]) ∧ Below w.heap.size w w' := by
  obtain ⟨R, HR⟩ : ∃ R, Hid (R = powN b e) := ⟨_, rfl⟩
  rw [← HR.out]
  obtain ⟨H, HH⟩ : ∃ H, Hid (H = w.heap.size) := ⟨_, rfl⟩
  go_enter Tryz.func185, Tryz.ntmps185
  go_wp2
  have HI : Hid (1 * b ^ e % 65521 = R) := by show _ = _; rw [HR.out, Nat.one_mul]; rfl
  go_loopw [7] (fun y wr => ∃ b' e' o : Nat, y = .int .u64 e' ∧ b' ≤ 65520 ∧ e' ≤ 65521 ∧ o ≤ 65520 ∧ o * b' ^ e' % 65521 = R ∧ Arr wr (w.heap.size + 1) 197 [.int .u64 0] ∧ Arr wr (w.heap.size + 1 + 1) 197 [.int .u64 o] ∧ Arr wr (w.heap.size + 1 + 1 + 1) 197 [.int .u64 b'] ∧ Below w.heap.size w wr)
    (fun y _ => (intOf y).toNat)
  case atStart =>
    have a0 := alloc_below w (.cells #[.int .u64 (b : Int)] 197)
    have A1 : Arr _ _ _ _ := Arr.new (w.alloc (.cells #[.int .u64 (b : Int)] 197)) [.int .u64 0] 197
    have A2 := Arr.new ((w.alloc (.cells #[.int .u64 (b : Int)] 197)).alloc (.cells #[.int .u64 0] 197)) [.int .u64 1] 197
    have A3 := Arr.new (((w.alloc (.cells #[.int .u64 (b : Int)] 197)).alloc (.cells #[.int .u64 0] 197)).alloc (.cells #[.int .u64 1] 197)) [.int .u64 (b : Int)] 197
    simp only [size_alloc] at A1 A2 A3
    exact ⟨b, e, 1, rfl, hb, he, by decide, HI.out, Arr.old _ _ (Arr.old _ _ A1), Arr.old _ _ A2, A3, ((a0.alloc (by simp) _).alloc (by simp; omega) _).alloc (by simp; omega) _⟩
  case round =>
    obtain ⟨x, y, o, rfl, hx, hy, ho, hinv, A1, A2, A3, BW⟩ := hrel
    have HV : Hid (o * x ^ y % 65521 = R) := hinv
    clear hinv hb he HI HR
    have M1 := Nat.mod_lt (x * x) (show 0 < 65521 by decide)
    have M2 := Nat.mod_lt (o * x) (show 0 < 65521 by decide)
    have c1 := (A1.cell 0).trans (show _ = some _ from rfl)
    have c2 := (A2.cell 0).trans (show _ = some _ from rfl)
    have c3 := (A3.cell 0).trans (show _ = some _ from rfl)
    have f1 := A1.frozen
    have f2 := A2.frozen
    have f3 := A3.frozen
    by_cases h0 : 0 < y
    · have h0I : (0 : Int) < (y : Int) := by omega
      by_cases h1 : y % 2 = 1
      · have h1I : (bits BinOp.and IntKind.u64 (y : Int) 1 == 1) = true := by rw [and1_u64 y (by omega), beq_iff_eq]; omega
        have HS : Hid ((o * x % 65521) * (x * x % 65521) ^ (y / 2) % 65521 = R) := by show _ = _; rw [pow_odd o x y h1]; exact HV.out
        clear h1
        go_wp2_with fail
        refine (times_c o x wr ho hx).mono ?_
        rintro e w1 ⟨rfl, hb1⟩
        have B1 := Below.step BW hb1
        obtain ⟨o2, HO2⟩ : ∃ n, Hid (n = o * x % 65521) := ⟨_, rfl⟩
        rw [← HO2.out]
        have A1 := A1.stay hb1
        have A2 := A2.stay hb1
        have A3 := A3.stay hb1
        have c1 := (A1.cell 0).trans (show _ = some _ from rfl)
        have c2 := (A2.cell 0).trans (show _ = some _ from rfl)
        have c3 := (A3.cell 0).trans (show _ = some _ from rfl)
        have f1 := A1.frozen
        have f2 := A2.frozen
        have f3 := A3.frozen
        go_wp2_with fail
        have A1 := A1.setOther (a := ⟨w.heap.size + 1 + 1, 0, none⟩) (by simp) (.int .u64 (o2 : Int))
        have A2 := A2.set 0 (.int .u64 (o2 : Int))
        have A3 := A3.setOther (a := ⟨w.heap.size + 1 + 1, 0, none⟩) (by simp) (.int .u64 (o2 : Int))
        have B1 : Below w.heap.size w (w1.setCell ⟨w.heap.size + 1 + 1, 0, none⟩ (.int .u64 (o2 : Int))) := B1.setCell (by simp; omega) _
        generalize w1.setCell ⟨w.heap.size + 1 + 1, 0, none⟩ (.int .u64 (o2 : Int)) = w2 at *
        refine (times_c x x _ hx hx).mono ?_
        rintro e w3 ⟨rfl, hb3⟩
        have B3 := Below.step B1 hb3
        obtain ⟨x2, HX2⟩ : ∃ n, Hid (n = x * x % 65521) := ⟨_, rfl⟩
        rw [← HX2.out]
        have A1 := A1.stay hb3
        have A2 := A2.stay hb3
        have A3 := A3.stay hb3
        have c1 := (A1.cell 0).trans (show _ = some _ from rfl)
        have c2 := (A2.cell 0).trans (show _ = some _ from rfl)
        have c3 := (A3.cell 0).trans (show _ = some _ from rfl)
        have f1 := A1.frozen
        have f2 := A2.frozen
        have f3 := A3.frozen
        go_wp2_with fail
        refine ⟨⟨x2, y / 2, o2, by rw [Int.natCast_ediv]; rfl, by rw [HX2.out]; omega, by omega, by rw [HO2.out]; omega, by rw [HX2.out, HO2.out]; exact HS.out, A1.setOther (by simp) _, A2.setOther (by simp) _, A3.set 0 _, B3.setCell (by simp; omega) _⟩, by simp [intOf]; omega⟩
      · have h1I : (bits BinOp.and IntKind.u64 (y : Int) 1 == 1) = false := by rw [and1_u64 y (by omega), beq_eq_false_iff_ne]; omega
        have HS : Hid (o * (x * x % 65521) ^ (y / 2) % 65521 = R) := by show _ = _; rw [pow_even o x y (by omega)]; exact HV.out
        clear h1
        go_wp2_with fail
        refine (times_c x x _ hx hx).mono ?_
        rintro e w3 ⟨rfl, hb3⟩
        have B3 := Below.step BW hb3
        obtain ⟨x2, HX2⟩ : ∃ n, Hid (n = x * x % 65521) := ⟨_, rfl⟩
        rw [← HX2.out]
        have A1 := A1.stay hb3
        have A2 := A2.stay hb3
        have A3 := A3.stay hb3
        have c1 := (A1.cell 0).trans (show _ = some _ from rfl)
        have c2 := (A2.cell 0).trans (show _ = some _ from rfl)
        have c3 := (A3.cell 0).trans (show _ = some _ from rfl)
        have f1 := A1.frozen
        have f2 := A2.frozen
        have f3 := A3.frozen
        go_wp2_with fail
        refine ⟨⟨x2, y / 2, o, by rw [Int.natCast_ediv]; rfl, by rw [HX2.out]; omega, by omega, ho, by rw [HX2.out]; exact HS.out, A1.setOther (by simp) _, A2.setOther (by simp) _, A3.set 0 _, B3.setCell (by simp; omega) _⟩, by simp [intOf]; omega⟩
    · have e0 : y = 0 := by omega
      subst e0
      have hR : R = o := by rw [← HV.out, Nat.pow_zero, Nat.mul_one, Nat.mod_eq_of_lt (by omega)]
      go_wp2_with fail
      exact bodyPost_ret (v := .agg #[.int .u64 (o : Int)]) (by simp [results, Tryz.results185, go_sem, c1]) rfl ⟨by rw [hR], BW.setCell (by simp) _⟩
set_option maxRecDepth 4000 in
set_option maxHeartbeats 1000000 in
theorem implPo_c (b e : Int) (w : World) :
    Calls Tryz.prog 148 #[.int .i64 b, .int .i64 e] w fun x w' => x = .returned (.agg #[.int .i64 (poC b e), .int .i64 (poV b e)]) ∧ Below w.heap.size w w' := by
  cases h1 : inB b 1 65520
  · rw [show poC b e = 3 by simp [poC, h1], show poV b e = 0 by simp [poV, poC, h1]]
    go_enter Tryz.func148, Tryz.ntmps148
    go_wp2_with fail
    refine (isElement_c b _).mono ?_
    rintro e w' ⟨rfl, rfl⟩
    rw [h1]
    go_wp2
    exact bodyPost_ret (v := .agg #[.int .i64 3, .int .i64 0]) (by simp [results, Tryz.results148, go_sem]) rfl ⟨rfl, alloc_below _ _⟩
  · by_cases h2 : e < 0
    · have h2' : inB e 0 65521 = false := by simp [inB]; omega
      rw [show poC b e = 3 by simp [poC, h1, h2'], show poV b e = 0 by simp [poV, poC, h1, h2']]
      go_enter Tryz.func148, Tryz.ntmps148
      go_wp2_with fail
      refine (isElement_c b _).mono ?_
      rintro e w' ⟨rfl, rfl⟩
      rw [h1]
      go_wp2
      exact bodyPost_ret (v := .agg #[.int .i64 3, .int .i64 0]) (by simp [results, Tryz.results148, go_sem]) rfl ⟨rfl, alloc_below _ _⟩
    · by_cases h3 : 65521 < e
      · have h2' : inB e 0 65521 = false := by simp [inB]; omega
        rw [show poC b e = 3 by simp [poC, h1, h2'], show poV b e = 0 by simp [poV, poC, h1, h2']]
        go_enter Tryz.func148, Tryz.ntmps148
        go_wp2_with fail
        refine (isElement_c b _).mono ?_
        rintro e w' ⟨rfl, rfl⟩
        rw [h1]
        go_wp2
        exact bodyPost_ret (v := .agg #[.int .i64 3, .int .i64 0]) (by simp [results, Tryz.results148, go_sem]) rfl ⟨rfl, alloc_below _ _⟩
      · have h2' : inB e 0 65521 = true := by simp [inB]; omega
        obtain ⟨bn, rfl, hb1, hb2⟩ := nat_of_in h1 (by decide)
        obtain ⟨en, rfl, -, he2⟩ := nat_of_in h2' (by decide)
        rw [show poC (bn : Int) (en : Int) = 0 by simp [poC, h1, h2'], show poV (bn : Int) (en : Int) = (powN bn en : Nat) by simp [poV, poC, h1, h2']]
        have K : Hid (∀ w, Calls Tryz.prog 185 #[.agg #[.int .u64 (bn : Int)], .int .u64 (en : Int)] w fun x w' => x = .returned (.agg #[.int .u64 ((powN bn en : Nat) : Int)]) ∧ Below w.heap.size w w') := fun w => power_c bn en w (by omega) (by omega)
        have hR := powN_lt bn en
        generalize powN bn en = R at *
        go_enter Tryz.func148, Tryz.ntmps148
        go_wp2_with fail
        refine (isElement_c _ _).mono ?_
        rintro e w' ⟨rfl, hw⟩
        subst hw
        rw [h1]
        go_wp2_with fail
        have A0 := Arr.new w [.int .i64 0, .int .i64 0] 126
        have B0 := alloc_below w (.cells #[.int .i64 0, .int .i64 0] 126)
        refine (K.out _).mono ?_
        rintro e w1 ⟨rfl, hb⟩
        have A1 := A0.stay hb
        have B1 := Below.step B0 hb
        have c0 := (A1.cell 0).trans (show _ = some _ from rfl)
        have c1 := (A1.cell 1).trans (show _ = some _ from rfl)
        have fz := A1.frozen
        have hlt := A1.lt
        have A2 := Arr.old _ (Obj.cells #[.int .u64 (R : Int)] 197) ((A1.set 0 (.int .i64 0)).set 1 (.int .i64 (R : Int)))
        have d0 := (A2.cell 0).trans (show _ = some (.int .i64 0) from rfl)
        have d1 := (A2.cell 1).trans (show _ = some (.int .i64 (R : Int)) from rfl)
        clear A0 B0 K hb A1 A2
        go_wp2_with fail
        refine bodyPost_ret (v := .agg #[.int .i64 0, .int .i64 (R : Int)]) (by simp [results, Tryz.results148, go_sem, d0, d1]) rfl ⟨rfl, ?_⟩
        exact ((B1.setCell (Nat.le_refl _) _).setCell (Nat.le_refl _) _).alloc (by simpa using B1.size) _
set_option maxRecDepth 4000 in
set_option maxHeartbeats 1000000 in
theorem implSh_c (s : Int) (w : World) :
    Calls Tryz.prog 174 #[.int .i64 s] w fun x w' => x = .returned (.agg #[.int .i64 (shC s), .int .i64 (shV s)]) ∧ Below w.heap.size w w' := by
  cases h1 : inB s 1 65519
  · rw [show shC s = 3 by simp [shC, h1], show shV s = 0 by simp [shV, shC, h1]]
    go_enter Tryz.func174, Tryz.ntmps174
    go_wp2_with fail
    refine (isGroupSecret_c s _).mono ?_
    rintro e w' ⟨rfl, rfl⟩
    rw [h1]
    go_wp2
    exact bodyPost_ret (v := .agg #[.int .i64 3, .int .i64 0]) (by simp [results, Tryz.results174, go_sem]) rfl ⟨rfl, alloc_below _ _⟩
  · have h2 : 1 ≤ s ∧ s ≤ 65519 := by simpa [inB] using h1
    have h3 : inB s 0 65521 = true := by simp [inB]; omega
    have e1 : poC 17 s = 0 := by simp [poC, h3, show inB 17 1 65520 = true by decide]
    have K : Hid (∀ w, Calls Tryz.prog 148 #[.int .i64 17, .int .i64 s] w fun x w' => x = .returned (.agg #[.int .i64 0, .int .i64 (shV s)]) ∧ Below w.heap.size w w') := fun w => by
      have h := implPo_c 17 s w
      rw [e1, show poV 17 s = shV s by simp [poV, e1, shV, shC, h1]] at h
      exact h
    rw [show shC s = 0 by simp [shC, h1]]
    clear h2 h3 e1
    generalize shV s = V at *
    have A0 := Arr.new w [.int .i64 0, .int .i64 0] 126
    have B0 := alloc_below w (.cells #[.int .i64 0, .int .i64 0] 126)
    go_enter Tryz.func174, Tryz.ntmps174
    go_wp2_with fail
    refine (isGroupSecret_c _ _).mono ?_
    rintro e w' ⟨rfl, hw⟩
    subst hw
    rw [h1]
    go_wp2_with fail
    refine (K.out _).mono ?_
    rintro e w1 ⟨rfl, hb⟩
    have A1 := A0.stay hb
    have B1 := Below.step B0 hb
    have c0 := (A1.cell 0).trans (show _ = some _ from rfl)
    have c1 := (A1.cell 1).trans (show _ = some _ from rfl)
    have fz := A1.frozen
    clear A0 B0 K hb A1
    go_wp2_with fail
    refine bodyPost_ret (v := .agg #[.int .i64 0, .int .i64 V]) (by simp [results, Tryz.results174, go_sem, c0, c1]) rfl ⟨rfl, ?_⟩
    exact (B1.setCell (Nat.le_refl _) _).setCell (Nat.le_refl _) _
set_option maxRecDepth 4000 in
set_option maxHeartbeats 1000000 in
theorem implSd_c (s b : Int) (w : World) :
    Calls Tryz.prog 106 #[.int .i64 s, .int .i64 b] w fun x w' => x = .returned (.agg #[.int .i64 (sdC s b), .int .i64 (sdV s b)]) ∧ Below w.heap.size w w' := by
  cases h1 : inB s 1 65519
  · rw [show sdC s b = 3 by simp [sdC, h1], show sdV s b = 0 by simp [sdV, sdC, h1]]
    go_enter Tryz.func106, Tryz.ntmps106
    go_wp2_with fail
    refine (isGroupSecret_c s _).mono ?_
    rintro e w' ⟨rfl, rfl⟩
    rw [h1]
    go_wp2
    exact bodyPost_ret (v := .agg #[.int .i64 3, .int .i64 0]) (by simp [results, Tryz.results106, go_sem]) rfl ⟨rfl, alloc_below _ _⟩
  · cases h2 : inB b 1 65520
    · rw [show sdC s b = 3 by simp [sdC, h1, h2], show sdV s b = 0 by simp [sdV, sdC, h1, h2]]
      go_enter Tryz.func106, Tryz.ntmps106
      go_wp2_with fail
      refine (isGroupSecret_c s _).mono ?_
      rintro e w' ⟨rfl, hw⟩
      subst hw
      rw [h1]
      go_wp2_with fail
      refine (isElement_c b _).mono ?_
      rintro e w' ⟨rfl, hw⟩
      subst hw
      rw [h2]
      go_wp2
      exact bodyPost_ret (v := .agg #[.int .i64 3, .int .i64 0]) (by simp [results, Tryz.results106, go_sem]) rfl ⟨rfl, alloc_below _ _⟩
    · have h3 : 1 ≤ s ∧ s ≤ 65519 := by simpa [inB] using h1
      have h4 : inB s 0 65521 = true := by simp [inB]; omega
      have e1 : poC b s = 0 := by simp [poC, h4, h2]
      have e2 : sdC s b = 0 := by simp [sdC, h1, h2]
      have K : Hid (∀ w, Calls Tryz.prog 148 #[.int .i64 b, .int .i64 s] w fun x w' => x = .returned (.agg #[.int .i64 0, .int .i64 (sdV s b)]) ∧ Below w.heap.size w w') := fun w => by
        have h := implPo_c b s w
        rw [e1, show poV b s = sdV s b by simp [poV, e1, sdV, e2]] at h
        exact h
      rw [e2]
      clear h3 h4 e1 e2
      generalize sdV s b = V at *
      have A0 := Arr.new w [.int .i64 0, .int .i64 0] 126
      have B0 := alloc_below w (.cells #[.int .i64 0, .int .i64 0] 126)
      go_enter Tryz.func106, Tryz.ntmps106
      go_wp2_with fail
      refine (isGroupSecret_c _ _).mono ?_
      rintro e w' ⟨rfl, hw⟩
      subst hw
      rw [h1]
      go_wp2_with fail
      refine (isElement_c b _).mono ?_
      rintro e w' ⟨rfl, hw⟩
      subst hw
      rw [h2]
      go_wp2_with fail
      refine (K.out _).mono ?_
      rintro e w1 ⟨rfl, hb⟩
      have A1 := A0.stay hb
      have B1 := Below.step B0 hb
      have c0 := (A1.cell 0).trans (show _ = some _ from rfl)
      have c1 := (A1.cell 1).trans (show _ = some _ from rfl)
      have fz := A1.frozen
      clear A0 B0 K hb A1
      go_wp2_with fail
      refine bodyPost_ret (v := .agg #[.int .i64 0, .int .i64 V]) (by simp [results, Tryz.results106, go_sem, c0, c1]) rfl ⟨rfl, ?_⟩
      exact (B1.setCell (Nat.le_refl _) _).setCell (Nat.le_refl _) _
set_option maxRecDepth 4000 in
set_option maxHeartbeats 1000000 in
theorem implSb_c (v : Int) (w : World) :
    Calls Tryz.prog 109 #[.int .i64 v] w fun e w' => ∃ u, e = .returned (.agg #[.int .i64 (shbC v), u]) ∧ Own w' w.heap.size u (shbL v) ∧ Below w.heap.size w w' := by
  cases h1 : inB v 1 65520
  · rw [show shbC v = 3 by simp [shbC, h1], show shbL v = [] by simp [shbL, shbC, h1]]
    go_enter Tryz.func109, Tryz.ntmps109
    go_wp2_with fail
    refine (isElement_c v _).mono ?_
    rintro e w' ⟨rfl, rfl⟩
    rw [h1]
    go_wp2
    exact bodyPost_ret (v := .agg #[.int .i64 3, .slice none 0 0]) (by simp [results, Tryz.results109, go_sem]) rfl ⟨_, rfl, Own_nil _ _, alloc_below _ _⟩
  · obtain ⟨vn, rfl, -, hb2⟩ := nat_of_in h1 (by decide)
    rw [show shbC (vn : Int) = 0 by simp [shbC, h1], show shbL (vn : Int) = putB vn 2 by simp [shbL, shbC, h1]]
    have hl : (0 : Int) ≤ (vn : Int) / 256 := by omega
    have hh : (vn : Int) / 256 ≤ 255 := by omega
    go_enter Tryz.func109, Tryz.ntmps109
    go_wp2_with fail
    refine (isElement_c _ _).mono ?_
    rintro e w' ⟨rfl, hw⟩
    subst hw
    rw [h1]
    go_wp2_with fail
    refine bodyPost_ret (v := .agg #[.int .i64 0, .slice (some ⟨w.heap.size + 1, 0, none⟩) 2 2]) (by simp [results, Tryz.results109, go_sem]) rfl ⟨_, rfl, ?_, (alloc_below _ _).alloc (by simp) _⟩
    have h := World.ownsRow_lit (base := w.heap.size) (e := 5) (size := 1) (w.alloc (Obj.cells #[Value.int IntKind.i64 0, Value.slice (some { block := w.heap.size + 1, off := 0 }) 2 2] 129)) #[Value.int IntKind.u8 ((vn : Int) / 256), Value.int IntKind.u8 ((vn : Int) % 256)] 2 (by rw [size_alloc]; omega) (by unfold maxLen; decide) (by simp)
    rw [size_alloc] at h
    have e : (putB vn 2).map u8v = [Value.int IntKind.u8 ((vn : Int) / 256), Value.int IntKind.u8 ((vn : Int) % 256)] := by
      have e1 : (((vn / 256 ^ 1 % 256) % 256 : Nat) : Int) = (vn : Int) / 256 := by rw [Nat.pow_one]; omega
      have e2 : (((vn / 256 ^ 0 % 256) % 256 : Nat) : Int) = (vn : Int) % 256 := by rw [Nat.pow_zero, Nat.div_one]; omega
      simp only [putB, List.map_cons, List.map_nil, u8v, UInt8.toNat_ofNat']
      rw [← e1, ← e2]
    unfold Own
    rw [putB_len, e]
    exact h
set_option maxRecDepth 4000 in
set_option maxHeartbeats 1000000 in
theorem implBs_c (p : Option Addr) (q : Nat) (d : List UInt8) (w : World) (hr : Rd w p q d) :
    Calls Tryz.prog 208 #[.slice p d.length q] w fun x w' => x = .returned (.agg #[.int .i64 (bsC d), .int .i64 (bsV d)]) ∧ Below w.heap.size w w' := by
  by_cases h : d.length = 2
  · have d1 : ((d.length : Int) != 2) = false := by rw [bne_eq_false_iff_eq]; omega
    obtain ⟨b, o, rfl, hc⟩ := hr.2.2.2 (by omega)
    have c0 := hc 0 (by omega)
    have c1 := hc 1 (by omega)
    rw [Nat.add_zero] at c0
    have l2 : 2 ≤ d.length := by omega
    have HB : Hid (bsC d = if inB (getB d : Nat) 1 65520 then 0 else 3) := by show _ = _; rw [bsC, if_pos h]
    have HV : Hid (bsV d = if inB (getB d : Nat) 1 65520 then ((getB d : Nat) : Int) else 0) := by
      show _ = _
      rw [bsV, HB.out]
      cases inB ((getB d : Nat) : Int) 1 65520 <;> simp
    have a0 := at8_lo d 0
    have a1 := at8_hi d 0
    have b0 := at8_lo d 1
    have b1 := at8_hi d 1
    have HG : Hid (bits .or .i64 (at8 d 0 * 256) (at8 d 1) = ((getB d : Nat) : Int)) := by
      show _ = _
      match d, h with
      | [x, y], _ =>
        show bits .or .i64 ((x.toNat : Int) * 256) (y.toNat : Int) = _
        rw [or_i64 _ _ x.toNat_lt y.toNat_lt]
        simp [getB]
    rw [HB.out, HV.out]
    clear HB HV h hc hr
    generalize getB d = g at *
    generalize d.length = n at *
    generalize at8 d 0 = x0 at *
    generalize at8 d 1 = x1 at *
    have k0 := cell_keep c0 (alloc_below w (.cells #[.int .i64 0, .int .i64 0] 126))
    have k1 := cell_keep c1 (alloc_below w (.cells #[.int .i64 0, .int .i64 0] 126))
    clear c0 c1
    cases h1 : inB (g : Int) 1 65520
    · simp only [Bool.false_eq_true, if_false]
      go_enter Tryz.func208, Tryz.ntmps208
      go_wp2_with fail
      go_quiet (fail)
      rw [HG.out]
      go_wp2_with fail
      refine (isElement_c _ _).mono ?_
      rintro e w' ⟨rfl, hw⟩
      subst hw
      rw [h1]
      go_wp2
      refine bodyPost_ret (v := .agg #[.int .i64 3, .int .i64 0]) (by simp [results, Tryz.results208, go_sem]) rfl ⟨rfl, ?_⟩
      exact ((below_drewN (alloc_below w _) _).setCell (Nat.le_refl _) _).setCell (Nat.le_refl _) _
    · simp only [if_true]
      go_enter Tryz.func208, Tryz.ntmps208
      go_wp2_with fail
      go_quiet (fail)
      rw [HG.out]
      go_wp2_with fail
      refine (isElement_c _ _).mono ?_
      rintro e w' ⟨rfl, hw⟩
      subst hw
      rw [h1]
      go_wp2
      refine bodyPost_ret (v := .agg #[.int .i64 0, .int .i64 (g : Int)]) (by simp [results, Tryz.results208, go_sem]) rfl ⟨rfl, ?_⟩
      exact ((below_drewN (alloc_below w _) _).setCell (Nat.le_refl _) _).setCell (Nat.le_refl _) _
  · have d1 : ((d.length : Int) != 2) = true := by rw [bne_iff_ne]; omega
    rw [show bsC d = 5 by simp [bsC, h], show bsV d = 0 by simp [bsV, bsC, h]]
    clear h
    go_enter Tryz.func208, Tryz.ntmps208
    go_wp2
    exact bodyPost_ret (v := .agg #[.int .i64 5, .int .i64 0]) (by simp [results, Tryz.results208, go_sem]) rfl ⟨rfl, alloc_below _ _⟩
end Go.Proofs.YtiabacnmmojfjaaGreatDoor
/- The contract of the laws' count of bytes: szByteS. -/
namespace Go.Proofs.YtiabacnmmojfjaaGreatDoor
open Go.ChangeShapes Go.WideShapes Go.ChangeAt Go.RowKit
set_option maxRecDepth 4000 in
set_option maxHeartbeats 400000 in
theorem szByteS_c (p : Option Addr) (q n : Nat) (left : Int) (w : World) (hn : n ≤ q) (hq : q ≤ 2 ^ 63 - 1) (h0 : 0 ≤ left) (h1 : left ≤ 1048576) :
    Calls Tryz.prog 86 #[.slice p n q, .int .i64 left] w fun e w' => e = .returned (.int .i64 (szR n left)) ∧ w' = w := by
  have hw : wrap64 (left - (n : Int)) = left - n := by unfold wrap64; omega
  by_cases h : (n : Int) ≤ left
  · rw [show szR n left = left - n by rw [szR, if_pos h]]
    have h2 : ¬ (left - (n : Int) < 0) := by omega
    go_enter Tryz.func86, Tryz.ntmps86
    go_wp2
    go_ret
    exact ⟨rfl, rfl⟩
  · rw [show szR n left = -1 by rw [szR, if_neg h]]
    have h2 : left - (n : Int) < 0 := by omega
    go_enter Tryz.func86, Tryz.ntmps86
    go_wp2
    go_ret
    exact ⟨rfl, rfl⟩
end Go.Proofs.YtiabacnmmojfjaaGreatDoor
/- The laws' helpers on bytes, said of data that lies in memory ('Cod'): toByteS, szByteS, markByteS, heldByteS; what a call that writes in just these blocks leaves of an array. -/
namespace Go.Proofs.YtiabacnmmojfjaaGreatDoor
open Go.ChangeShapes Go.WideShapes Go.ChangeAt Go.RowKit
theorem Arr.only {w w' : World} {g : Nat} {t : TypeId} {vs : List Value} {fp : List Nat} (h : Arr w g t vs) (ho : Only fp w w') (hn : g ∉ fp) : Arr w' g t vs := (ho.block g h.lt hn).trans h
theorem Only.trans_sub {fp f : List Nat} {a b c : World} (h : Only fp a b) (k : Only f b c) (hs : ∀ x, x ∈ f → x ∈ fp) : Only fp a c := h.trans (k.more hs)
theorem nodup_apart {f g : List Nat} (h : (f ++ g).Nodup) : ∀ k, k ∈ f → k ∉ g := fun k h1 h2 => (List.nodup_append.1 h).2.2 k h1 k h2 rfl
theorem Cod.set {α : Type} (c : Cod α) {w : World} {B : Nat} {a : α} {us : List Value} {fp : List Nat} (h : c.own w B a us fp) {p : Addr} (hp : p.block < B) (u : Value) : c.own (w.setCell p u) B a us fp :=
  c.fr h fun k hk => heap_setCell_other _ _ k _ (by have := (c.ins h k hk).1; omega)
theorem own_int {w : World} {B : Nat} {z : Int} {k : IntKind} : (intC k).own w B z [.int k z] [] := ⟨rfl, rfl⟩
theorem lt_nil {m : Nat} : ∀ k, k ∈ ([] : List Nat) → k < m := fun _ h => by cases h
theorem ge_nil {m : Nat} : ∀ k, k ∈ ([] : List Nat) → m ≤ k := fun _ h => by cases h
theorem ge_app {f g : List Nat} {m : Nat} (h1 : ∀ k, k ∈ f → m ≤ k) (h2 : ∀ k, k ∈ g → m ≤ k) : ∀ k, k ∈ f ++ g → m ≤ k := fun k hk => (List.mem_append.1 hk).elim (h1 k) (h2 k)
theorem byt_own {w : World} {B : Nat} {u : Value} {bs : List UInt8} (h : Own w B u bs) : bytC.own w B bs [u] u.ownBlock.toList := ⟨u, rfl, h, rfl⟩
theorem own_pair {α β : Type} {c : Cod α} {d : Cod β} {w : World} {B : Nat} {a : α × β} {us ts : List Value} {f g : List Nat} (m : Nat) (h1 : c.own w B a.1 us f) (h2 : d.own w B a.2 ts g) (hf : ∀ k, k ∈ f → k < m) (hg : ∀ k, k ∈ g → m ≤ k) : (prodC c d).own w B a (us ++ ts) (f ++ g) :=
  ⟨us, ts, f, g, rfl, rfl, List.nodup_append.2 ⟨c.nd h1, d.nd h2, fun x hx y hy e => by subst e; have := hf x hx; have := hg x hy; omega⟩, h1, h2⟩
theorem toByteS_k (a : List UInt8) (u : Value) (w : World) (h : bytC.rep w a [u]) (hl : a.length ≤ 1048576) :
    Calls Tryz.prog 87 #[u] w fun e w' => ∃ v fp, e = .returned v ∧ bytC.own w' w.heap.size a [v] fp ∧ Below w.heap.size w w' := by
  obtain ⟨p, q, e1, r⟩ := h
  simp only [List.cons.injEq, and_true] at e1
  subst e1
  refine (toByteS_c p q a w r hl).mono ?_
  rintro e w' ⟨v, rfl, o, hb⟩
  exact ⟨v, _, rfl, ⟨v, rfl, o, rfl⟩, hb⟩
theorem szByteS_k (a : List UInt8) (u : Value) (left : Int) (w : World) (h : bytC.rep w a [u]) (h0 : 0 ≤ left) (h1 : left ≤ 1048576) :
    Calls Tryz.prog 86 #[u, .int .i64 left] w fun e w' => e = .returned (.int .i64 (szR a.length left)) ∧ Below w.heap.size w w' := by
  obtain ⟨p, q, e1, r⟩ := h
  simp only [List.cons.injEq, and_true] at e1
  subst e1
  refine (szByteS_c p q a.length left w r.1 r.2.1 h0 h1).mono ?_
  rintro e w' ⟨rfl, rfl⟩
  exact ⟨rfl, Below.refl _ _⟩
theorem markByteS_k (a : List UInt8) (v : Value) (fp : List Nat) (B m : Nat) (mi : Int) (hmi : mi = (m : Int)) (w : World) (h : bytC.own w B a [v] fp) (hm : m + a.length ≤ 1000000000000) :
    Calls Tryz.prog 91 #[v, .int .i64 mi] w fun e w' => e = .returned (.int .i64 (mi + (a.length : Int))) ∧ bytC.own w' B (marks m a.length) [v] fp ∧ Only fp w w' := by
  subst hmi
  obtain ⟨u, e1, o, rfl⟩ := h
  simp only [List.cons.injEq, and_true] at e1
  subst e1
  refine (markByteS_c B v a m w o hm).mono ?_
  rintro e w' ⟨rfl, o1, hg⟩
  exact ⟨rfl, ⟨v, rfl, o1, rfl⟩, Only.grown hg⟩
theorem heldByteS_k (bs : List UInt8) (p : Option Addr) (q n m : Nat) (hb : bs = marks m n) (mi : Int) (hmi : mi = (m : Int)) (w : World) (hr : Rd w p q bs) (hm : m + n ≤ 1048577) :
    Calls Tryz.prog 141 #[.slice p bs.length q, .int .i64 mi] w fun e w' => e = .returned (.int .i64 (mi + (n : Int))) ∧ w' = w := by
  subst hmi hb
  rw [marks_len]
  exact heldByteS_c p q n m w hr hm
end Go.Proofs.YtiabacnmmojfjaaGreatDoor
/- How Hello lies in memory, and the contracts of the laws' helpers on it (written by tools/codgen.py). -/
namespace Go.Proofs.YtiabacnmmojfjaaGreatDoor
open Go.ChangeShapes Go.WideShapes Go.ChangeAt Go.RowKit
abbrev HelloD := List UInt8 × Int × Int
def helloC : Cod HelloD := prodC bytC (prodC (intC .i64) ((intC .i64)))
theorem hello_rep {w : World} {a : HelloD} {vs : List Value} (h : helloC.rep w a vs) : ∃ p1 q1, vs = [.slice p1 a.1.length q1, .int .i64 a.2.1, .int .i64 a.2.2] ∧ Rd w p1 q1 a.1 := by
  obtain ⟨us0, ts0, rfl, h0, us1, ts1, rfl, h1, h2⟩ := h
  obtain ⟨p1, q1, rfl, r1⟩ := h0
  have e1 : us1 = [Value.int .i64 _] := h1
  subst e1
  have e2 : _ = [Value.int .i64 _] := h2
  subst e2
  exact ⟨p1, q1, rfl, r1⟩
theorem hello_mk {w : World} {a : HelloD} {p1 : Option Addr} {q1 : Nat} (r1 : Rd w p1 q1 a.1) : helloC.rep w a [.slice p1 a.1.length q1, .int .i64 a.2.1, .int .i64 a.2.2] := ⟨[.slice p1 a.1.length q1], _, rfl, ⟨p1, q1, rfl, r1⟩, ⟨[.int .i64 a.2.1], _, rfl, rfl, rfl⟩⟩
end Go.Proofs.YtiabacnmmojfjaaGreatDoor
/- How HelloResult lies in memory, and the contracts of the laws' helpers on it (written by tools/codgen.py). -/
namespace Go.Proofs.YtiabacnmmojfjaaGreatDoor
open Go.ChangeShapes Go.WideShapes Go.ChangeAt Go.RowKit
abbrev HelloResultD := Int × HelloD
def helloResultC : Cod HelloResultD := prodC (intC .i64) helloC
theorem helloResult_rep {w : World} {a : HelloResultD} {vs : List Value} (h : helloResultC.rep w a vs) : ∃ p2_1 q2_1, vs = [.int .i64 a.1, .slice p2_1 a.2.1.length q2_1, .int .i64 a.2.2.1, .int .i64 a.2.2.2] ∧ Rd w p2_1 q2_1 a.2.1 := by
  obtain ⟨us0, ts0, rfl, h0, h1⟩ := h
  have e0 : us0 = [Value.int .i64 _] := h0
  subst e0
  obtain ⟨p2_1, q2_1, rfl, r2_1⟩ := hello_rep h1
  exact ⟨p2_1, q2_1, rfl, r2_1⟩
end Go.Proofs.YtiabacnmmojfjaaGreatDoor
/- The contracts of the laws' helpers on messages, on lists of these, and on answers that hold such a list: toMsg, szMsg, eqMsg, markMsg; toMsgS, szMsgS, eqMsgS, markMsgS, heldMsgS; eqMsgsResult, markMsgsResult, heldMsgsResult. -/
namespace Go.Proofs.YtiabacnmmojfjaaGreatDoor
open Go.ChangeShapes Go.WideShapes Go.ChangeAt Go.RowKit
abbrev MsgD := Int × List UInt8
def msgC : Cod MsgD := prodC (intC .i64) bytC
theorem msg_rep {w : World} {a : MsgD} {vs : List Value} (h : msgC.rep w a vs) : ∃ p q, vs = [.int .i64 a.1, .slice p a.2.length q] ∧ Rd w p q a.2 := by
  obtain ⟨us, ts, rfl, h1, p, q, rfl, r⟩ := h
  exact ⟨p, q, by rw [h1]; rfl, r⟩
theorem msg_mk {w : World} {a : MsgD} {p : Option Addr} {q : Nat} (r : Rd w p q a.2) : msgC.rep w a [.int .i64 a.1, .slice p a.2.length q] := ⟨[_], [_], rfl, rfl, p, q, rfl, r⟩
theorem msg_own {w : World} {B : Nat} {a : MsgD} {vs : List Value} {fp : List Nat} (h : msgC.own w B a vs fp) : ∃ v, vs = [.int .i64 a.1, v] ∧ Own w B v a.2 ∧ fp = v.ownBlock.toList := by
  obtain ⟨us, ts, f, g, rfl, rfl, _, ⟨rfl, rfl⟩, v, rfl, o, rfl⟩ := h
  exact ⟨v, rfl, o, rfl⟩
theorem msg_own_mk {w : World} {B : Nat} {a : MsgD} {v : Value} (o : Own w B v a.2) : msgC.own w B a [.int .i64 a.1, v] v.ownBlock.toList :=
  ⟨[_], [_], [], _, rfl, rfl, nodup_opt _, ⟨rfl, rfl⟩, v, rfl, o, rfl⟩
theorem infoMsg : (Tryz.prog.info? 46).map (fun i => (i.zero, i.size, i.bytes)) = some (some (.agg #[.int .i64 0, .slice none 0 0]), 2, 32) := by kernel_rfl
def bulkM (l : List MsgD) : Nat := (l.map (fun a => a.2.length)).sum + l.length
theorem bulkM_at {l : List MsgD} {i : Nat} {a : MsgD} (h : l[i]? = some a) : a.2.length ≤ bulkM l := by
  have hm := List.mem_of_getElem? h
  have h2 : ∀ l : List MsgD, a ∈ l → a.2.length ≤ (l.map (fun a : MsgD => a.2.length)).sum := fun l => by
    induction l with
    | nil => intro h; cases h
    | cons b l ih =>
      intro h
      rw [List.map_cons, List.sum_cons]
      rcases List.mem_cons.1 h with rfl | h
      · omega
      · have := ih h; omega
  have := h2 l hm
  unfold bulkM; omega
set_option maxRecDepth 4000 in
set_option maxHeartbeats 400000 in
theorem eqMsg_c (a : MsgD) (p p2 : Option Addr) (q q2 : Nat) (w : World) (h1 : Rd w p q a.2) (h2 : Rd w p2 q2 a.2) :
    Calls Tryz.prog 29 #[.agg #[.int .i64 a.1, .slice p a.2.length q], .agg #[.int .i64 a.1, .slice p2 a.2.length q2]] w fun e w' => e = .returned (.bool true) ∧ Below w.heap.size w w' := by
  have B2 := fun o1 o2 => Below.mk (alloc_below w o1) o2
  go_enter Tryz.func29, Tryz.ntmps29
  go_wp2_with fail
  refine (eqByteS_c _ _ _ _ a.2 _ (h1.keep (B2 _ _)) (h2.keep (B2 _ _))).mono ?_
  rintro e w1 ⟨rfl, hb1⟩
  go_wp2
  go_ret
  exact ⟨rfl, Below.step (B2 _ _) hb1⟩
set_option maxRecDepth 4000 in
set_option maxHeartbeats 1000000 in
theorem eqMsgS_c (l : List MsgD) (p p2 : Option Addr) (q q2 : Nat) (w : World) (h1 : RdL msgC w p q l) (h2 : RdL msgC w p2 q2 l) :
    Calls Tryz.prog 89 #[.slice p l.length q, .slice p2 l.length q2] w fun e w' => e = .returned (.bool true) ∧ Below w.heap.size w w' := by
  have HR : Hid (RdL msgC w p q l) := h1
  have HR2 : Hid (RdL msgC w p2 q2 l) := h2
  have hq1 : l.length ≤ q := h1.1
  have hq2 : q ≤ 2 ^ 63 - 1 := h1.2.1
  clear h1 h2
  go_enter Tryz.func89, Tryz.ntmps89
  go_wp2_with fail
  go_loopw [5] (fun i wr => ∃ k : Nat, k ≤ l.length ∧ i = .int .i64 k ∧ Below w.heap.size w wr)
    (fun i _ => l.length - (intOf i).toNat)
  case atStart => exact ⟨0, Nat.zero_le _, rfl, Below.refl _ _⟩
  case round =>
    obtain ⟨k, hk, rfl, BW⟩ := hrel
    by_cases hlt : k < l.length
    · have hkI : (k : Int) < (l.length : Int) := by omega
      obtain ⟨b, o, e1, hc⟩ := (HR.out.keep BW).2.2.2 (by omega)
      subst e1
      obtain ⟨b2, o2, e2, hc2⟩ := (HR2.out.keep BW).2.2.2 (by omega)
      subst e2
      obtain ⟨a, ha⟩ : ∃ a, l[k]? = some a := ⟨l[k], by simp [hlt]⟩
      obtain ⟨us, hrep, hcell⟩ := hc k a ha
      obtain ⟨pa, qa, rfl, ra⟩ := msg_rep hrep
      obtain ⟨us2, hrep2, hcell2⟩ := hc2 k a ha
      obtain ⟨pb, qb, rfl, rb⟩ := msg_rep hrep2
      have c0 := hcell 0 _ rfl
      have c1 := hcell 1 _ rfl
      have d0 := hcell2 0 _ rfl
      have d1 := hcell2 1 _ rfl
      rw [show msgC.n = 2 from rfl] at c0 c1 d0 d1
      rw [Nat.add_zero] at c0 d0
      clear hc hcell hrep hc2 hcell2 hrep2
      go_wp2_with fail
      replace c0 := HW.at c0
      replace c1 := HW.at c1
      replace d0 := HW.at d0
      replace d1 := HW.at d1
      have hne := HW.some wr
      refine wp_region_class rfl (by kernel_rfl) ?_
      repeat (go_big_quiet_step ((go_at_call 29; exact Calls.stay (eqMsg_c a pa pb qa qb _ (ra.keep (HW.h _)) (rb.keep (HW.h _))))))
      refine wpQuiet_nil ?_
      intro w' hw'
      have BW2 := Below.step BW (HW.out hw')
      clear c0 c1 d0 d1 hne hw' BW
      go_wp2_with fail
      go_roundw
      case rel => exact ⟨k + 1, by omega, by go_num, BW2⟩
      case measure => simp [intOf]; omega
    · go_wp2_with fail
      go_ret
      exact ⟨rfl, BW⟩
def mkM : List MsgD → Nat → List MsgD
  | [], _ => []
  | a :: l, m => ((m : Int), marks (m + 1) a.2.length) :: mkM l (m + 1 + a.2.length)
theorem bulkM_cons (a : MsgD) (l : List MsgD) : bulkM (a :: l) = a.2.length + 1 + bulkM l := by simp [bulkM]; omega
theorem bulkM_append (l r : List MsgD) : bulkM (l ++ r) = bulkM l + bulkM r := by simp [bulkM]; omega
theorem mkM_append : ∀ (l r : List MsgD) (m : Nat), mkM (l ++ r) m = mkM l m ++ mkM r (m + bulkM l)
  | [], r, m => by simp [mkM, bulkM]
  | a :: l, r, m => by
    rw [List.cons_append, mkM, mkM, mkM_append l r, bulkM_cons, List.cons_append, show m + 1 + a.2.length + bulkM l = m + (a.2.length + 1 + bulkM l) by omega]
theorem mkM_len : ∀ (l : List MsgD) (m : Nat), (mkM l m).length = l.length
  | [], _ => rfl
  | a :: l, m => by rw [mkM, List.length_cons, mkM_len l, List.length_cons]
theorem mkM_take {l : List MsgD} {k : Nat} {a : MsgD} (h : l[k]? = some a) (m : Nat) : mkM (l.take (k + 1)) m = mkM (l.take k) m ++ [(((m + bulkM (l.take k) : Nat) : Int), marks (m + bulkM (l.take k) + 1) a.2.length)] := by
  rw [List.take_add_one, h, mkM_append]; rfl
theorem bulkM_take {l : List MsgD} {k : Nat} {a : MsgD} (h : l[k]? = some a) : bulkM (l.take (k + 1)) = bulkM (l.take k) + a.2.length + 1 := by
  rw [List.take_add_one, h, bulkM_append]; simp [bulkM]; omega
theorem bulkM_le (l : List MsgD) (k : Nat) : bulkM (l.take k) ≤ bulkM l := by
  conv => rhs; rw [← List.take_append_drop k l, bulkM_append]
  omega
set_option maxRecDepth 4000 in
set_option maxHeartbeats 1000000 in
theorem markMsgS_c (e0 : TypeId) (l : List MsgD) (B : Nat) (v : Value) (xs : List Value) (fp : List Nat) (m : Nat) (w : World) (ho : OwnL e0 msgC w B v l xs fp) (hm : m + bulkM l ≤ 1000000000) (hbl : bulkM l ≤ 1000000000) :
    Calls Tryz.prog 93 #[v, .int .i64 m] w fun e w' => e = .returned (.int .i64 ((m + bulkM l : Nat) : Int)) ∧ (∃ ys, OwnL e0 msgC w' B v (mkM l m) ys fp) ∧ Only (v.ownBlock.toList ++ fp) w w' := by
  obtain ⟨p, q, rfl, hrd⟩ := ho.rd
  have hq1 : l.length ≤ q := hrd.1
  have hq2 : q ≤ 2 ^ 63 - 1 := hrd.2.1
  have HM : Hid (m + bulkM l ≤ 1000000000) := hm
  have HBL : Hid (bulkM l ≤ 1000000000) := hbl
  clear hm hrd hbl
  go_enter Tryz.func93, Tryz.ntmps93
  go_wp2_with fail
  go_loopw [1, 5] (fun c i wr => ∃ (k : Nat) (ys : List Value), k ≤ l.length ∧ i = .int .i64 k ∧ c = .int .i64 ((m + bulkM (l.take k) : Nat) : Int) ∧ OwnL e0 msgC wr B (.slice p l.length q) (mkM (l.take k) m ++ l.drop k) ys fp ∧ Only ((Value.slice p l.length q).ownBlock.toList ++ fp) w wr)
    (fun _ i _ => l.length - (intOf i).toNat)
  case atStart => exact ⟨0, xs, Nat.zero_le _, rfl, by simp [bulkM], by simpa [mkM] using ho, Only.refl _ _⟩
  case round =>
    clear ho xs
    obtain ⟨k, ys, hk, rfl, rfl, ho, hon⟩ := hrel
    by_cases hlt : k < l.length
    · have hkI : (k : Int) < (l.length : Int) := by omega
      obtain ⟨a, ha⟩ : ∃ a, l[k]? = some a := ⟨l[k], by simp [hlt]⟩
      have HLn : Hid ((mkM (l.take k) m).length = k) := by show _ = _; rw [mkM_len, List.length_take, Nat.min_eq_left hk]
      have HBt := bulkM_take ha
      have HBl : Hid (bulkM (l.take (k + 1)) ≤ bulkM l) := bulkM_le l (k + 1)
      have HT := mkM_take ha m
      rw [drop_at ha] at ho
      have hgf : ∃ g, p = some ⟨g, 0, none⟩ := by
        rcases ho.row.2 with ⟨h1, h2⟩ | ⟨g, c, cur, h1, -⟩
        · simp at h2
        · simp at h1; exact ⟨g, h1.1⟩
      obtain ⟨g, rfl⟩ := hgf
      have hinsL := ho.ins
      obtain ⟨x1, us, x2, f1, f, f2, rfl, rfl, hx1, hof, hdis, hdis2, hback⟩ := ho.focus
      obtain ⟨vb, rfl, ob, rfl⟩ := msg_own hof
      have HX1 : Hid (x1.length = k * 2) := by show _ = _; rw [hx1, HLn.out]; rfl
      have HLL : Hid ((mkM (l.take k) m ++ a :: l.drop (k + 1)).length = l.length) := by show _ = _; rw [List.length_append, HLn.out, List.length_cons, List.length_drop]; omega
      have hrow := ho.row
      rw [HLL.out, show msgC.n = 2 from rfl] at hrow
      have c0 : wr.cell? ⟨g, k * 2, none⟩ = some (.int .i64 a.1) := by
        rw [World.ownsRow.cellAt hrow (k * 2) (by omega), List.append_assoc, List.getElem?_append_right (by rw [HX1.out]; exact Nat.le_refl _), HX1.out, Nat.sub_self]; rfl
      have c1 : wr.cell? ⟨g, k * 2 + 1, none⟩ = some vb := by
        rw [World.ownsRow.cellAt hrow (k * 2 + 1) (by omega), List.append_assoc, List.getElem?_append_right (by rw [HX1.out]; omega), HX1.out, show k * 2 + 1 - k * 2 = 1 by omega]; rfl
      have fz := World.ownsRow.frozenAt hrow
      have R1 := World.ownsRow.stored hrow (k * 2) (.int .i64 ((m + bulkM (l.take k) : Nat) : Int))
      have hset : (x1 ++ [.int .i64 a.1, vb] ++ x2).set (k * 2) (.int .i64 ((m + bulkM (l.take k) : Nat) : Int)) = x1 ++ [.int .i64 ((m + bulkM (l.take k) : Nat) : Int), vb] ++ x2 := by
        rw [List.append_assoc, List.set_append_right _ _ (by rw [HX1.out]; exact Nat.le_refl _), HX1.out, Nat.sub_self, List.append_assoc]; rfl
      rw [hset] at R1
      have HG : Hid (∀ j, vb.ownBlock = some j → j ≠ g) := fun j hj e => by
        have h1 := (hdis j (mem_opt.2 hj)).2.2
        rw [e] at h1
        exact h1 rfl
      have hSome : Hid (g < wr.heap.size) := (World.ownsRow.lt hrow g rfl).2
      have ob1 : Own (wr.setCell ⟨g, k * 2, none⟩ (.int .i64 ((m + bulkM (l.take k) : Nat) : Int))) B vb a.2 := ob.other R1.2 (fun j hj e => by simp at e; exact HG.out j hj e.symm)
      generalize hMk : m + bulkM (l.take k) = mk at *
      have HMk : Hid (m + bulkM (l.take k) = mk) := hMk
      have hmkI : (mk : Int) ≤ 1000000000 := by have := HM.out; have := HBl.out; omega
      clear hMk ho hof
      go_wp2_with fail
      refine (markByteS_cn ((mk : Int) + 1) B vb a.2 _ ob1 (by omega) (by omega) (by have := HBL.out; have := HBl.out; omega)).mono ?_
      rintro e w2 ⟨rfl, ob2, hg2⟩
      rw [show ((mk : Int) + 1).toNat = mk + 1 by omega] at ob2
      have row2 := ownsRow_fr (w' := w2) R1.1 (fun j hj => by
        simp [Value.ownBlock] at hj
        subst hj
        exact hg2.block _ (by rw [World.size_setCell]; exact hSome.out) (fun e => HG.out _ e.symm rfl))
      have hO := hback w2 ((mk : Int), marks (mk + 1) a.2.length) [.int .i64 (mk : Int), vb] (msg_own_mk (a := ((mk : Int), marks (mk + 1) a.2.length)) ob2) (by rw [show (mkM (l.take k) m ++ ((mk : Int), marks (mk + 1) a.2.length) :: l.drop (k + 1)).length = l.length by rw [List.length_append, HLn.out, List.length_cons, List.length_drop]; omega]; exact row2) (fun j hj => by
        have h1 : vb.ownBlock ≠ some j := fun e => by
          have h2 := hdis j (mem_opt.2 e)
          rcases List.mem_append.1 hj with h3 | h3
          · exact h2.1 h3
          · exact h2.2.1 h3
        have h2 : j ≠ g := fun e => hdis2 j hj (by rw [e]; rfl)
        have hlt2 := (hinsL j (List.mem_append_right _ (by rcases List.mem_append.1 hj with h3 | h3; exact List.mem_append_left _ (List.mem_append_left _ h3); exact List.mem_append_right _ h3))).2
        rw [hg2.block j (by rw [World.size_setCell]; exact hlt2) (fun e => h1 e.symm), heap_setCell_other _ _ j _ h2])
      have hon2 : Only ((Value.slice (some ⟨g, 0, none⟩) l.length q).ownBlock.toList ++ (f1 ++ vb.ownBlock.toList ++ f2)) w w2 :=
        hon.trans (((Only.grown R1.2).more (fun j hj => List.mem_append_left _ (by simpa [Value.ownBlock] using hj))).trans ((Only.grown hg2).more (fun j hj => List.mem_append_right _ (List.mem_append_left _ (List.mem_append_right _ hj)))))
      have HT2 : Hid (mkM (l.take (k + 1)) m ++ l.drop (k + 1) = mkM (l.take k) m ++ ((mk : Int), marks (mk + 1) a.2.length) :: l.drop (k + 1)) := by show _ = _; rw [HT, List.append_assoc]; rfl
      have HE : Hid ((mk : Int) + 1 + (a.2.length : Int) = ((m + bulkM (l.take (k + 1)) : Nat) : Int)) := by show _ = _; have := HMk.out; rw [HBt]; omega
      rw [← HT2.out] at hO
      clear hon c0 c1 fz R1 row2 ob ob1 ob2 hg2 hback hdis hdis2 hrow hset HT HBt hinsL
      go_wp2_with fail
      go_roundw
      case rel => exact ⟨k + 1, _, by omega, by go_num, by rw [← HE.out], hO, hon2⟩
      case measure => simp [intOf]; omega
    · have e : k = l.length := by omega
      subst e
      rw [List.take_length, List.drop_length, List.append_nil] at ho
      rw [List.take_length]
      go_wp2_with fail
      go_ret
      exact ⟨rfl, ⟨_, ho⟩, hon⟩
theorem mkM_at {l : List MsgD} {k : Nat} {a : MsgD} (h : l[k]? = some a) (m : Nat) : (mkM l m)[k]? = some (((m + bulkM (l.take k) : Nat) : Int), marks (m + bulkM (l.take k) + 1) a.2.length) := by
  have hk := (List.getElem?_eq_some_iff.1 h).1
  conv => lhs; rw [← List.take_append_drop k l, drop_at h, mkM_append]
  rw [List.getElem?_append_right (by rw [mkM_len, List.length_take]; omega), mkM_len, List.length_take, Nat.min_eq_left (by omega), Nat.sub_self]
  rfl
set_option maxRecDepth 4000 in
set_option maxHeartbeats 1000000 in
theorem heldMsgS_c (l : List MsgD) (p : Option Addr) (q m : Nat) (w : World) (hr : RdL msgC w p q (mkM l m)) (hm : m + bulkM l ≤ 1048577) :
    Calls Tryz.prog 95 #[.slice p l.length q, .int .i64 m] w fun e w' => e = .returned (.int .i64 ((m + bulkM l : Nat) : Int)) ∧ Below w.heap.size w w' := by
  have HR : Hid (RdL msgC w p q (mkM l m)) := hr
  have hq1 : l.length ≤ q := by have := hr.1; rw [mkM_len] at this; exact this
  have hq2 : q ≤ 2 ^ 63 - 1 := hr.2.1
  have HM : Hid (m + bulkM l ≤ 1048577) := hm
  clear hr hm
  go_enter Tryz.func95, Tryz.ntmps95
  go_wp2_with fail
  go_loopw [1, 5] (fun c i wr => ∃ k : Nat, k ≤ l.length ∧ i = .int .i64 k ∧ c = .int .i64 ((m + bulkM (l.take k) : Nat) : Int) ∧ Below w.heap.size w wr)
    (fun _ i _ => l.length - (intOf i).toNat)
  case atStart => exact ⟨0, Nat.zero_le _, rfl, by simp [bulkM], Below.refl _ _⟩
  case round =>
    obtain ⟨k, hk, rfl, rfl, BW⟩ := hrel
    by_cases hlt : k < l.length
    · have hkI : (k : Int) < (l.length : Int) := by omega
      obtain ⟨b, o, e1, hc⟩ := (HR.out.keep BW).2.2.2 (by rw [mkM_len]; omega)
      subst e1
      obtain ⟨a, ha⟩ : ∃ a, l[k]? = some a := ⟨l[k], by simp [hlt]⟩
      have HBt := bulkM_take ha
      have HBl : Hid (bulkM (l.take (k + 1)) ≤ bulkM l) := bulkM_le l (k + 1)
      obtain ⟨us, hrep, hcell⟩ := hc k _ (mkM_at ha m)
      obtain ⟨pa, qa, rfl, ra⟩ := msg_rep hrep
      have c0 := hcell 0 _ rfl
      have c1 := hcell 1 _ rfl
      rw [show msgC.n = 2 from rfl] at c0 c1
      rw [Nat.add_zero] at c0
      simp only [marks_len] at c1
      have HE : Hid (((m + bulkM (l.take k) : Nat) : Int) + 1 + (a.2.length : Int) = ((m + bulkM (l.take (k + 1)) : Nat) : Int)) := by show _ = _; rw [HBt]; omega
      have hb1 : Hid (m + bulkM (l.take k) + 1 + a.2.length ≤ 1048577) := by show _ ≤ _; have := HM.out; have := HBl.out; omega
      generalize m + bulkM (l.take k) = mk at *
      have hmkI : (mk : Int) ≤ 1048577 := by have := hb1.out; omega
      have K : Hid (Calls Tryz.prog 141 #[.slice pa a.2.length qa, .int .i64 ((mk : Int) + 1)] wr fun e w' => e = .returned (.int .i64 ((mk : Int) + 1 + (a.2.length : Int))) ∧ w' = wr) := by
        have h := heldByteS_c pa qa a.2.length (mk + 1) wr ra hb1.out
        rw [show (((mk + 1 : Nat)) : Int) = (mk : Int) + 1 by omega] at h
        exact h
      have hnn : ¬ ((mk : Int) + 1 + (a.2.length : Int) < 0) := by omega
      clear hc hcell hrep HBt
      go_wp2_with fail
      refine K.out.mono ?_
      rintro e w2 ⟨rfl, rfl⟩
      go_wp2_with fail
      go_roundw
      case rel => exact ⟨k + 1, by omega, by go_num, by rw [← HE.out], BW⟩
      case measure => simp [intOf]; omega
    · have e : k = l.length := by omega
      subst e
      rw [List.take_length]
      go_wp2_with fail
      go_ret
      exact ⟨rfl, BW⟩
end Go.Proofs.YtiabacnmmojfjaaGreatDoor
