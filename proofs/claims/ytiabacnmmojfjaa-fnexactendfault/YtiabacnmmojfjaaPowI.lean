/- The contracts of chapter 8's functions in the program, at every argument: code and number, or bytes. What was there stays. -/
import Derived.Test.YtiabacnmmojfjaaPowS
import Derived.Test.YtiabacnmmojfjaaArr
import Derived.BigQuiet
namespace Go.Proofs.Ytiabacnmmojfjaa
open Go.ChangeShapes Go.WideShapes Go.ChangeAt Go.RowKit

theorem and1_u64 (a : Nat) (h : a < 18446744073709551616) : bits .and .u64 (a : Int) 1 = (a : Int) % 2 := by
  have e : ∀ n : Nat, n < 18446744073709551616 → (BitVec.ofInt 64 (n : Int)).toNat = n := fun n hn => by rw [BitVec.toNat_ofInt]; omega
  show IntKind.u64.wrap ((BitVec.ofInt 64 (a : Int) &&& BitVec.ofInt 64 ((1 : Nat) : Int)).toNat : Int) = _
  rw [BitVec.toNat_and, e a h, e 1 (by decide), Nat.and_one_is_mod, IntKind.wrap_u64]
  omega
theorem or_i64 (m b : Nat) (hm : m < 256) (h1 : b < 256) : bits .or .i64 ((m : Int) * 256) (b : Int) = ((m * 256 + b : Nat) : Int) := by
  have e : ∀ n : Nat, n < 18446744073709551616 → (BitVec.ofInt 64 (n : Int)).toNat = n := fun n hn => by rw [BitVec.toNat_ofInt]; omega
  have h2 : b < 2 ^ 8 := by omega
  rw [show ((m : Int) * 256) = ((m * 256 : Nat) : Int) by omega]
  show IntKind.i64.wrap ((BitVec.ofInt 64 ((m * 256 : Nat) : Int) ||| BitVec.ofInt 64 (b : Int)).toNat : Int) = _
  rw [BitVec.toNat_or, e _ (by omega), e b (by omega), show m * 256 = m <<< 8 by rw [Nat.shiftLeft_eq], ← Nat.shiftLeft_add_eq_or_of_lt h2, Nat.shiftLeft_eq, IntKind.wrap_i64]
  omega

theorem isElement_c (v : Int) (w : World) : Calls Try.prog 86 #[.int .i64 v] w fun e w' => e = .returned (.bool (inB v 1 65520)) ∧ w' = w := by
  by_cases h1 : 1 ≤ v
  · by_cases h2 : v ≤ 65520
    · rw [show inB v 1 65520 = true by simp [inB, h1, h2]]
      go_enter Try.func86, Try.ntmps86
      go_wp2
      go_ret
      exact ⟨rfl, rfl⟩
    · rw [show inB v 1 65520 = false by simp [inB, h2]]
      go_enter Try.func86, Try.ntmps86
      go_wp2
      go_ret
      exact ⟨rfl, rfl⟩
  · rw [show inB v 1 65520 = false by simp [inB, h1]]
    go_enter Try.func86, Try.ntmps86
    go_wp2
    go_ret
    exact ⟨rfl, rfl⟩
theorem isGroupSecret_c (v : Int) (w : World) : Calls Try.prog 25 #[.int .i64 v] w fun e w' => e = .returned (.bool (inB v 1 65519)) ∧ w' = w := by
  by_cases h1 : 1 ≤ v
  · by_cases h2 : v ≤ 65519
    · rw [show inB v 1 65519 = true by simp [inB, h1, h2]]
      go_enter Try.func25, Try.ntmps25
      go_wp2
      go_ret
      exact ⟨rfl, rfl⟩
    · rw [show inB v 1 65519 = false by simp [inB, h2]]
      go_enter Try.func25, Try.ntmps25
      go_wp2
      go_ret
      exact ⟨rfl, rfl⟩
  · rw [show inB v 1 65519 = false by simp [inB, h1]]
    go_enter Try.func25, Try.ntmps25
    go_wp2
    go_ret
    exact ⟨rfl, rfl⟩
set_option maxRecDepth 4000 in
set_option maxHeartbeats 1000000 in
theorem times_c (x y : Nat) (w : World) (hx : x ≤ 65520) (hy : y ≤ 65520) :
    Calls Try.prog 92 #[.agg #[.int .u64 (x : Int)], .agg #[.int .u64 (y : Int)]] w fun e w' => e = .returned (.agg #[.int .u64 ((x * y % 65521 : Nat) : Int)]) ∧ Below w.heap.size w w' := by
  have hxy : x * y ≤ 65520 * 65520 := Nat.mul_le_mul hx hy
  have exy : ((x * y : Nat) : Int) = (x : Int) * (y : Int) := Int.natCast_mul x y
  have h1 : (x : Int) * (y : Int) ≤ 4292870400 := by rw [← exy]; omega
  have h0 : 0 ≤ (x : Int) * (y : Int) := by rw [← exy]; omega
  have E1 : Hid ((x : Int) * (y : Int) % 65521 = ((x * y % 65521 : Nat) : Int)) := by show _ = _; rw [Int.natCast_emod, exy]; rfl
  clear hxy exy
  go_enter Try.func92, Try.ntmps92
  go_wp2
  exact bodyPost_ret (v := .agg #[.int .u64 ((x : Int) * (y : Int) % 65521)]) (by simp [results, Try.results92, go_sem]) rfl ⟨by rw [E1.out], ((alloc_below _ _).alloc (by simp) _).alloc (by simp; omega) _⟩
set_option maxRecDepth 4000 in
set_option maxHeartbeats 1000000 in
theorem power_c (b e : Nat) (w : World) (hb : b ≤ 65520) (he : e ≤ 65521) :
    Calls Try.prog 87 #[.agg #[.int .u64 (b : Int)], .int .u64 (e : Int)] w fun x w' => x = .returned (.agg #[.int .u64 ((powN b e : Nat) : Int)]) ∧ Below w.heap.size w w' := by
  obtain ⟨R, HR⟩ : ∃ R, Hid (R = powN b e) := ⟨_, rfl⟩
  rw [← HR.out]
  obtain ⟨H, HH⟩ : ∃ H, Hid (H = w.heap.size) := ⟨_, rfl⟩
  go_enter Try.func87, Try.ntmps87
  go_wp2
  have HI : Hid (1 * b ^ e % 65521 = R) := by show _ = _; rw [HR.out, Nat.one_mul]; rfl
  go_loopw [7] (fun y wr => ∃ b' e' o : Nat, y = .int .u64 e' ∧ b' ≤ 65520 ∧ e' ≤ 65521 ∧ o ≤ 65520 ∧ o * b' ^ e' % 65521 = R ∧ Arr wr (w.heap.size + 1) 124 [.int .u64 0] ∧ Arr wr (w.heap.size + 1 + 1) 124 [.int .u64 o] ∧ Arr wr (w.heap.size + 1 + 1 + 1) 124 [.int .u64 b'] ∧ Below w.heap.size w wr)
    (fun y _ => (intOf y).toNat)
  case atStart =>
    have a0 := alloc_below w (.cells #[.int .u64 (b : Int)] 124)
    have A1 : Arr _ _ _ _ := Arr.new (w.alloc (.cells #[.int .u64 (b : Int)] 124)) [.int .u64 0] 124
    have A2 := Arr.new ((w.alloc (.cells #[.int .u64 (b : Int)] 124)).alloc (.cells #[.int .u64 0] 124)) [.int .u64 1] 124
    have A3 := Arr.new (((w.alloc (.cells #[.int .u64 (b : Int)] 124)).alloc (.cells #[.int .u64 0] 124)).alloc (.cells #[.int .u64 1] 124)) [.int .u64 (b : Int)] 124
    simp only [size_alloc] at A1 A2 A3
    exact ⟨b, e, 1, rfl, hb, he, by decide, HI.out, Arr.old _ _ (Arr.old _ _ A1), Arr.old _ _ A2, A3, ((a0.alloc (by simp) _).alloc (by simp; omega) _).alloc (by simp; omega) _⟩
  case round =>
    obtain ⟨x, y, o, rfl, hx, hy, ho, hinv, A1, A2, A3, BW⟩ := hrel
    have HV : Hid (o * x ^ y % 65521 = R) := hinv
    clear hinv hb he HI HR
    have M1 := Nat.mod_lt (x * x) (show 0 < 65521 by decide)
    have M2 := Nat.mod_lt (o * x) (show 0 < 65521 by decide)
    have c1 := (A1.cell 0).trans (show _ = some _ from rfl)
    have c2 := (A2.cell 0).trans (show _ = some _ from rfl)
    have c3 := (A3.cell 0).trans (show _ = some _ from rfl)
    have f1 := A1.frozen
    have f2 := A2.frozen
    have f3 := A3.frozen
    by_cases h0 : 0 < y
    · have h0I : (0 : Int) < (y : Int) := by omega
      by_cases h1 : y % 2 = 1
      · have h1I : (bits BinOp.and IntKind.u64 (y : Int) 1 == 1) = true := by rw [and1_u64 y (by omega), beq_iff_eq]; omega
        have HS : Hid ((o * x % 65521) * (x * x % 65521) ^ (y / 2) % 65521 = R) := by show _ = _; rw [pow_odd o x y h1]; exact HV.out
        clear h1
        go_wp2_with fail
        refine (times_c o x wr ho hx).mono ?_
        rintro e w1 ⟨rfl, hb1⟩
        have B1 := Below.step BW hb1
        obtain ⟨o2, HO2⟩ : ∃ n, Hid (n = o * x % 65521) := ⟨_, rfl⟩
        rw [← HO2.out]
        have A1 := A1.stay hb1
        have A2 := A2.stay hb1
        have A3 := A3.stay hb1
        have c1 := (A1.cell 0).trans (show _ = some _ from rfl)
        have c2 := (A2.cell 0).trans (show _ = some _ from rfl)
        have c3 := (A3.cell 0).trans (show _ = some _ from rfl)
        have f1 := A1.frozen
        have f2 := A2.frozen
        have f3 := A3.frozen
        go_wp2_with fail
        have A1 := A1.setOther (a := ⟨w.heap.size + 1 + 1, 0, none⟩) (by simp) (.int .u64 (o2 : Int))
        have A2 := A2.set 0 (.int .u64 (o2 : Int))
        have A3 := A3.setOther (a := ⟨w.heap.size + 1 + 1, 0, none⟩) (by simp) (.int .u64 (o2 : Int))
        have B1 : Below w.heap.size w (w1.setCell ⟨w.heap.size + 1 + 1, 0, none⟩ (.int .u64 (o2 : Int))) := B1.setCell (by simp; omega) _
        generalize w1.setCell ⟨w.heap.size + 1 + 1, 0, none⟩ (.int .u64 (o2 : Int)) = w2 at *
        refine (times_c x x _ hx hx).mono ?_
        rintro e w3 ⟨rfl, hb3⟩
        have B3 := Below.step B1 hb3
        obtain ⟨x2, HX2⟩ : ∃ n, Hid (n = x * x % 65521) := ⟨_, rfl⟩
        rw [← HX2.out]
        have A1 := A1.stay hb3
        have A2 := A2.stay hb3
        have A3 := A3.stay hb3
        have c1 := (A1.cell 0).trans (show _ = some _ from rfl)
        have c2 := (A2.cell 0).trans (show _ = some _ from rfl)
        have c3 := (A3.cell 0).trans (show _ = some _ from rfl)
        have f1 := A1.frozen
        have f2 := A2.frozen
        have f3 := A3.frozen
        go_wp2_with fail
        refine ⟨⟨x2, y / 2, o2, by rw [Int.natCast_ediv]; rfl, by rw [HX2.out]; omega, by omega, by rw [HO2.out]; omega, by rw [HX2.out, HO2.out]; exact HS.out, A1.setOther (by simp) _, A2.setOther (by simp) _, A3.set 0 _, B3.setCell (by simp; omega) _⟩, by simp [intOf]; omega⟩
      · have h1I : (bits BinOp.and IntKind.u64 (y : Int) 1 == 1) = false := by rw [and1_u64 y (by omega), beq_eq_false_iff_ne]; omega
        have HS : Hid (o * (x * x % 65521) ^ (y / 2) % 65521 = R) := by show _ = _; rw [pow_even o x y (by omega)]; exact HV.out
        clear h1
        go_wp2_with fail
        refine (times_c x x _ hx hx).mono ?_
        rintro e w3 ⟨rfl, hb3⟩
        have B3 := Below.step BW hb3
        obtain ⟨x2, HX2⟩ : ∃ n, Hid (n = x * x % 65521) := ⟨_, rfl⟩
        rw [← HX2.out]
        have A1 := A1.stay hb3
        have A2 := A2.stay hb3
        have A3 := A3.stay hb3
        have c1 := (A1.cell 0).trans (show _ = some _ from rfl)
        have c2 := (A2.cell 0).trans (show _ = some _ from rfl)
        have c3 := (A3.cell 0).trans (show _ = some _ from rfl)
        have f1 := A1.frozen
        have f2 := A2.frozen
        have f3 := A3.frozen
        go_wp2_with fail
        refine ⟨⟨x2, y / 2, o, by rw [Int.natCast_ediv]; rfl, by rw [HX2.out]; omega, by omega, ho, by rw [HX2.out]; exact HS.out, A1.setOther (by simp) _, A2.setOther (by simp) _, A3.set 0 _, B3.setCell (by simp; omega) _⟩, by simp [intOf]; omega⟩
    · have e0 : y = 0 := by omega
      subst e0
      have hR : R = o := by rw [← HV.out, Nat.pow_zero, Nat.mul_one, Nat.mod_eq_of_lt (by omega)]
      go_wp2_with fail
      exact bodyPost_ret (v := .agg #[.int .u64 (o : Int)]) (by simp [results, Try.results87, go_sem, c1]) rfl ⟨by rw [hR], BW.setCell (by simp) _⟩
set_option maxRecDepth 4000 in
set_option maxHeartbeats 1000000 in
theorem implPo_c (b e : Int) (w : World) :
    Calls Try.prog 80 #[.int .i64 b, .int .i64 e] w fun x w' => x = .returned (.agg #[.int .i64 (poC b e), .int .i64 (poV b e)]) ∧ Below w.heap.size w w' := by
  cases h1 : inB b 1 65520
  · rw [show poC b e = 3 by simp [poC, h1], show poV b e = 0 by simp [poV, poC, h1]]
    go_enter Try.func80, Try.ntmps80
    go_wp2_with fail
    refine (isElement_c b _).mono ?_
    rintro e w' ⟨rfl, rfl⟩
    rw [h1]
    go_wp2
    exact bodyPost_ret (v := .agg #[.int .i64 3, .int .i64 0]) (by simp [results, Try.results80, go_sem]) rfl ⟨rfl, alloc_below _ _⟩
  · by_cases h2 : e < 0
    · have h2' : inB e 0 65521 = false := by simp [inB]; omega
      rw [show poC b e = 3 by simp [poC, h1, h2'], show poV b e = 0 by simp [poV, poC, h1, h2']]
      go_enter Try.func80, Try.ntmps80
      go_wp2_with fail
      refine (isElement_c b _).mono ?_
      rintro e w' ⟨rfl, rfl⟩
      rw [h1]
      go_wp2
      exact bodyPost_ret (v := .agg #[.int .i64 3, .int .i64 0]) (by simp [results, Try.results80, go_sem]) rfl ⟨rfl, alloc_below _ _⟩
    · by_cases h3 : 65521 < e
      · have h2' : inB e 0 65521 = false := by simp [inB]; omega
        rw [show poC b e = 3 by simp [poC, h1, h2'], show poV b e = 0 by simp [poV, poC, h1, h2']]
        go_enter Try.func80, Try.ntmps80
        go_wp2_with fail
        refine (isElement_c b _).mono ?_
        rintro e w' ⟨rfl, rfl⟩
        rw [h1]
        go_wp2
        exact bodyPost_ret (v := .agg #[.int .i64 3, .int .i64 0]) (by simp [results, Try.results80, go_sem]) rfl ⟨rfl, alloc_below _ _⟩
      · have h2' : inB e 0 65521 = true := by simp [inB]; omega
        obtain ⟨bn, rfl, hb1, hb2⟩ := nat_of_in h1 (by decide)
        obtain ⟨en, rfl, -, he2⟩ := nat_of_in h2' (by decide)
        rw [show poC (bn : Int) (en : Int) = 0 by simp [poC, h1, h2'], show poV (bn : Int) (en : Int) = (powN bn en : Nat) by simp [poV, poC, h1, h2']]
        have K : Hid (∀ w, Calls Try.prog 87 #[.agg #[.int .u64 (bn : Int)], .int .u64 (en : Int)] w fun x w' => x = .returned (.agg #[.int .u64 ((powN bn en : Nat) : Int)]) ∧ Below w.heap.size w w') := fun w => power_c bn en w (by omega) (by omega)
        have hR := powN_lt bn en
        generalize powN bn en = R at *
        go_enter Try.func80, Try.ntmps80
        go_wp2_with fail
        refine (isElement_c _ _).mono ?_
        rintro e w' ⟨rfl, hw⟩
        subst hw
        rw [h1]
        go_wp2_with fail
        have A0 := Arr.new w [.int .i64 0, .int .i64 0] 109
        have B0 := alloc_below w (.cells #[.int .i64 0, .int .i64 0] 109)
        refine (K.out _).mono ?_
        rintro e w1 ⟨rfl, hb⟩
        have A1 := A0.stay hb
        have B1 := Below.step B0 hb
        have c0 := (A1.cell 0).trans (show _ = some _ from rfl)
        have c1 := (A1.cell 1).trans (show _ = some _ from rfl)
        have fz := A1.frozen
        have hlt := A1.lt
        have A2 := Arr.old _ (Obj.cells #[.int .u64 (R : Int)] 124) ((A1.set 0 (.int .i64 0)).set 1 (.int .i64 (R : Int)))
        have d0 := (A2.cell 0).trans (show _ = some (.int .i64 0) from rfl)
        have d1 := (A2.cell 1).trans (show _ = some (.int .i64 (R : Int)) from rfl)
        clear A0 B0 K hb A1 A2
        go_wp2_with fail
        refine bodyPost_ret (v := .agg #[.int .i64 0, .int .i64 (R : Int)]) (by simp [results, Try.results80, go_sem, d0, d1]) rfl ⟨rfl, ?_⟩
        exact ((B1.setCell (Nat.le_refl _) _).setCell (Nat.le_refl _) _).alloc (by simpa using B1.size) _
set_option maxRecDepth 4000 in
set_option maxHeartbeats 1000000 in
theorem implSh_c (s : Int) (w : World) :
    Calls Try.prog 73 #[.int .i64 s] w fun x w' => x = .returned (.agg #[.int .i64 (shC s), .int .i64 (shV s)]) ∧ Below w.heap.size w w' := by
  cases h1 : inB s 1 65519
  · rw [show shC s = 3 by simp [shC, h1], show shV s = 0 by simp [shV, shC, h1]]
    go_enter Try.func73, Try.ntmps73
    go_wp2_with fail
    refine (isGroupSecret_c s _).mono ?_
    rintro e w' ⟨rfl, rfl⟩
    rw [h1]
    go_wp2
    exact bodyPost_ret (v := .agg #[.int .i64 3, .int .i64 0]) (by simp [results, Try.results73, go_sem]) rfl ⟨rfl, alloc_below _ _⟩
  · have h2 : 1 ≤ s ∧ s ≤ 65519 := by simpa [inB] using h1
    have h3 : inB s 0 65521 = true := by simp [inB]; omega
    have e1 : poC 17 s = 0 := by simp [poC, h3, show inB 17 1 65520 = true by decide]
    have K : Hid (∀ w, Calls Try.prog 80 #[.int .i64 17, .int .i64 s] w fun x w' => x = .returned (.agg #[.int .i64 0, .int .i64 (shV s)]) ∧ Below w.heap.size w w') := fun w => by
      have h := implPo_c 17 s w
      rw [e1, show poV 17 s = shV s by simp [poV, e1, shV, shC, h1]] at h
      exact h
    rw [show shC s = 0 by simp [shC, h1]]
    clear h2 h3 e1
    generalize shV s = V at *
    have A0 := Arr.new w [.int .i64 0, .int .i64 0] 109
    have B0 := alloc_below w (.cells #[.int .i64 0, .int .i64 0] 109)
    go_enter Try.func73, Try.ntmps73
    go_wp2_with fail
    refine (isGroupSecret_c _ _).mono ?_
    rintro e w' ⟨rfl, hw⟩
    subst hw
    rw [h1]
    go_wp2_with fail
    refine (K.out _).mono ?_
    rintro e w1 ⟨rfl, hb⟩
    have A1 := A0.stay hb
    have B1 := Below.step B0 hb
    have c0 := (A1.cell 0).trans (show _ = some _ from rfl)
    have c1 := (A1.cell 1).trans (show _ = some _ from rfl)
    have fz := A1.frozen
    clear A0 B0 K hb A1
    go_wp2_with fail
    refine bodyPost_ret (v := .agg #[.int .i64 0, .int .i64 V]) (by simp [results, Try.results73, go_sem, c0, c1]) rfl ⟨rfl, ?_⟩
    exact (B1.setCell (Nat.le_refl _) _).setCell (Nat.le_refl _) _
set_option maxRecDepth 4000 in
set_option maxHeartbeats 1000000 in
theorem implSb_c (v : Int) (w : World) :
    Calls Try.prog 90 #[.int .i64 v] w fun e w' => ∃ u, e = .returned (.agg #[.int .i64 (shbC v), u]) ∧ Own w' w.heap.size u (shbL v) ∧ Below w.heap.size w w' := by
  cases h1 : inB v 1 65520
  · rw [show shbC v = 3 by simp [shbC, h1], show shbL v = [] by simp [shbL, shbC, h1]]
    go_enter Try.func90, Try.ntmps90
    go_wp2_with fail
    refine (isElement_c v _).mono ?_
    rintro e w' ⟨rfl, rfl⟩
    rw [h1]
    go_wp2
    exact bodyPost_ret (v := .agg #[.int .i64 3, .slice none 0 0]) (by simp [results, Try.results90, go_sem]) rfl ⟨_, rfl, Own_nil _ _, alloc_below _ _⟩
  · obtain ⟨vn, rfl, -, hb2⟩ := nat_of_in h1 (by decide)
    rw [show shbC (vn : Int) = 0 by simp [shbC, h1], show shbL (vn : Int) = putB vn 2 by simp [shbL, shbC, h1]]
    have hl : (0 : Int) ≤ (vn : Int) / 256 := by omega
    have hh : (vn : Int) / 256 ≤ 255 := by omega
    go_enter Try.func90, Try.ntmps90
    go_wp2_with fail
    refine (isElement_c _ _).mono ?_
    rintro e w' ⟨rfl, hw⟩
    subst hw
    rw [h1]
    go_wp2_with fail
    refine bodyPost_ret (v := .agg #[.int .i64 0, .slice (some ⟨w.heap.size + 1, 0, none⟩) 2 2]) (by simp [results, Try.results90, go_sem]) rfl ⟨_, rfl, ?_, (alloc_below _ _).alloc (by simp) _⟩
    have h := World.ownsRow_lit (base := w.heap.size) (e := 5) (size := 1) (w.alloc (Obj.cells #[Value.int IntKind.i64 0, Value.slice (some { block := w.heap.size + 1, off := 0 }) 2 2] 128)) #[Value.int IntKind.u8 ((vn : Int) / 256), Value.int IntKind.u8 ((vn : Int) % 256)] 2 (by rw [size_alloc]; omega) (by unfold maxLen; decide) (by simp)
    rw [size_alloc] at h
    have e : (putB vn 2).map u8v = [Value.int IntKind.u8 ((vn : Int) / 256), Value.int IntKind.u8 ((vn : Int) % 256)] := by
      have e1 : (((vn / 256 ^ 1 % 256) % 256 : Nat) : Int) = (vn : Int) / 256 := by rw [Nat.pow_one]; omega
      have e2 : (((vn / 256 ^ 0 % 256) % 256 : Nat) : Int) = (vn : Int) % 256 := by rw [Nat.pow_zero, Nat.div_one]; omega
      simp only [putB, List.map_cons, List.map_nil, u8v, UInt8.toNat_ofNat']
      rw [← e1, ← e2]
    unfold Own
    rw [putB_len, e]
    exact h
end Go.Proofs.Ytiabacnmmojfjaa

