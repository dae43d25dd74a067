/- The contracts of chapter 8's functions in the specification, at every argument: code and number, or bytes. -/
import Derived.Test.YtdolhafkihkocaaPow
import Derived.Test.YtdolhafkihkocaaCopy
import Derived.Test.YtdolhafkihkocaaWords
import Derived.Test.YtdolhafkihkocaaWordB
namespace Go.Proofs.Ytdolhafkihkocaa
open Go.ChangeShapes Go.WideShapes Go.ChangeAt Go.RowKit

def poC (b e : Int) : Int := if inB b 1 65520 && inB e 0 65521 then 0 else 3
def poV (b e : Int) : Int := if poC b e = 0 then (powN b.toNat e.toNat : Nat) else 0
def shC (s : Int) : Int := if inB s 1 65519 then 0 else 3
def shV (s : Int) : Int := if shC s = 0 then (powN 17 s.toNat : Nat) else 0
def sdC (s b : Int) : Int := if inB s 1 65519 && inB b 1 65520 then 0 else 3
def sdV (s b : Int) : Int := if sdC s b = 0 then (powN b.toNat s.toNat : Nat) else 0
def shbC (v : Int) : Int := if inB v 1 65520 then 0 else 3
def shbL (v : Int) : List UInt8 := if shbC v = 0 then putB v.toNat 2 else []
def bsC (d : List UInt8) : Int := if d.length = 2 then (if inB (getB d : Nat) 1 65520 then 0 else 3) else 5
def bsV (d : List UInt8) : Int := if bsC d = 0 then (getB d : Nat) else 0
theorem shbL_len (v : Int) : (shbL v).length ≤ 1048576 := by unfold shbL; split; rw [putB_len]; decide; simp
theorem nat_of_in {v lo hi : Int} (h : inB v lo hi = true) (hl : 0 ≤ lo) : ∃ n : Nat, v = n ∧ lo ≤ n ∧ (n : Int) ≤ hi := by
  have h2 : lo ≤ v ∧ v ≤ hi := by simpa [inB] using h
  exact ⟨v.toNat, by omega, by omega, by omega⟩

theorem l8Element_c (v : Int) (w : World) : Calls Try.prog 32 #[.int .i64 v] w fun e w' => e = .returned (.bool (inB v 1 65520)) ∧ w' = w := by
  go_enter Try.func32, Try.ntmps32
  go_wp2_with fail
  refine (l1In_c v 1 65520 _).mono ?_
  rintro e w1 ⟨rfl, rfl⟩
  go_wp2
  go_ret
  exact ⟨rfl, rfl⟩
theorem l8Secret_c (v : Int) (w : World) : Calls Try.prog 29 #[.int .i64 v] w fun e w' => e = .returned (.bool (inB v 1 65519)) ∧ w' = w := by
  go_enter Try.func29, Try.ntmps29
  go_wp2_with fail
  refine (l1In_c v 1 65519 _).mono ?_
  rintro e w1 ⟨rfl, rfl⟩
  go_wp2
  go_ret
  exact ⟨rfl, rfl⟩
set_option maxRecDepth 4000 in
set_option maxHeartbeats 1000000 in
theorem l8Power_c (b e : Nat) (w : World) (hb : b ≤ 65520) (he : e ≤ 65521) :
    Calls Try.prog 30 #[.int .i64 (b : Int), .int .i64 (e : Int)] w fun x w' => x = .returned (.int .i64 ((powN b e : Nat) : Int)) ∧ w' = w := by
  obtain ⟨R, HR⟩ : ∃ R, Hid (R = powN b e) := ⟨_, rfl⟩
  rw [← HR.out]
  go_enter Try.func30, Try.ntmps30
  go_wp2
  have HI : Hid (1 * b ^ e % 65521 = R) := by show _ = _; rw [HR.out, Nat.one_mul]; rfl
  go_loop [0, 1, 5] (fun x y z => ∃ b' e' o : Nat, x = .int .i64 b' ∧ y = .int .i64 e' ∧ z = .int .i64 o ∧ b' ≤ 65520 ∧ e' ≤ 65521 ∧ o ≤ 65520 ∧ o * b' ^ e' % 65521 = R)
    (fun _ y _ => (intOf y).toNat)
  case atStart => exact ⟨b, e, 1, rfl, rfl, rfl, hb, he, by decide, HI.out⟩
  case round =>
    obtain ⟨x, y, o, rfl, rfl, rfl, hx, hy, ho, hinv⟩ := hrel
    have HV : Hid (o * x ^ y % 65521 = R) := hinv
    clear hinv hb he HI HR
    have hxx : x * x ≤ 65520 * 65520 := Nat.mul_le_mul hx hx
    have hox : o * x ≤ 65520 * 65520 := Nat.mul_le_mul ho hx
    have exx : ((x * x : Nat) : Int) = (x : Int) * (x : Int) := Int.natCast_mul x x
    have eox : ((o * x : Nat) : Int) = (o : Int) * (x : Int) := Int.natCast_mul o x
    have hxxI : (x : Int) * (x : Int) ≤ 4292870400 := by rw [← exx]; omega
    have hoxI : (o : Int) * (x : Int) ≤ 4292870400 := by rw [← eox]; omega
    have hxx0 : 0 ≤ (x : Int) * (x : Int) := by rw [← exx]; omega
    have hox0 : 0 ≤ (o : Int) * (x : Int) := by rw [← eox]; omega
    have E1 : Hid ((x : Int) * (x : Int) % 65521 = ((x * x % 65521 : Nat) : Int)) := by show _ = _; rw [Int.natCast_emod, exx]; rfl
    have E2 : Hid ((o : Int) * (x : Int) % 65521 = ((o * x % 65521 : Nat) : Int)) := by show _ = _; rw [Int.natCast_emod, eox]; rfl
    clear hxx hox exx eox
    by_cases h0 : 0 < y
    · have h0I : (0 : Int) < (y : Int) := by omega
      by_cases h1 : y % 2 = 1
      · have h1I : ((y : Int) % 2 == 1) = true := by rw [beq_iff_eq]; omega
        have HS : Hid ((o * x % 65521) * (x * x % 65521) ^ (y / 2) % 65521 = R) := by show _ = _; rw [pow_odd o x y h1]; exact HV.out
        go_wp2
        exact ⟨⟨x * x % 65521, y / 2, o * x % 65521, by rw [E1.out], by rw [Int.natCast_ediv]; rfl, by rw [E2.out], by have := Nat.mod_lt (x * x) (show 0 < 65521 by decide); omega, by omega, by have := Nat.mod_lt (o * x) (show 0 < 65521 by decide); omega, HS.out⟩, by simp [intOf]; omega⟩
      · have h1I : ((y : Int) % 2 == 1) = false := by rw [beq_eq_false_iff_ne]; omega
        have HS : Hid (o * (x * x % 65521) ^ (y / 2) % 65521 = R) := by show _ = _; rw [pow_even o x y (by omega)]; exact HV.out
        go_wp2
        exact ⟨⟨x * x % 65521, y / 2, o, by rw [E1.out], by rw [Int.natCast_ediv]; rfl, rfl, by have := Nat.mod_lt (x * x) (show 0 < 65521 by decide); omega, by omega, ho, HS.out⟩, by simp [intOf]; omega⟩
    · have e0 : y = 0 := by omega
      subst e0
      go_wp2
      go_ret
      have hR : R = o := by rw [← HV.out, Nat.pow_zero, Nat.mul_one, Nat.mod_eq_of_lt (by omega)]
      exact ⟨by rw [hR]; rfl, rfl⟩

set_option maxRecDepth 4000 in
set_option maxHeartbeats 1000000 in
theorem specPo_c (b e : Int) (w : World) :
    Calls Try.prog 19 #[.int .i64 b, .int .i64 e] w fun x w' => x = .returned (.agg #[.int .i64 (poC b e), .int .i64 (poV b e)]) ∧ Below w.heap.size w w' := by
  cases h1 : inB b 1 65520
  · rw [show poC b e = 3 by simp [poC, h1], show poV b e = 0 by simp [poV, poC, h1]]
    go_enter Try.func19, Try.ntmps19
    go_wp2_with fail
    refine (l8Element_c b _).mono ?_
    rintro e w' ⟨rfl, rfl⟩
    rw [h1]
    go_wp2
    exact bodyPost_ret (v := .agg #[.int .i64 3, .int .i64 0]) (by simp [results, Try.results19, go_sem]) rfl ⟨rfl, alloc_below _ _⟩
  · cases h2 : inB e 0 65521
    · rw [show poC b e = 3 by simp [poC, h1, h2], show poV b e = 0 by simp [poV, poC, h1, h2]]
      go_enter Try.func19, Try.ntmps19
      go_wp2_with fail
      refine (l8Element_c b _).mono ?_
      rintro e w' ⟨rfl, rfl⟩
      rw [h1]
      go_wp2_with fail
      refine (l1In_c e 0 65521 _).mono ?_
      rintro e w' ⟨rfl, rfl⟩
      rw [h2]
      go_wp2
      exact bodyPost_ret (v := .agg #[.int .i64 3, .int .i64 0]) (by simp [results, Try.results19, go_sem]) rfl ⟨rfl, alloc_below _ _⟩
    · obtain ⟨bn, rfl, hb1, hb2⟩ := nat_of_in h1 (by decide)
      obtain ⟨en, rfl, -, he2⟩ := nat_of_in h2 (by decide)
      rw [show poC (bn : Int) (en : Int) = 0 by simp [poC, h1, h2], show poV (bn : Int) (en : Int) = (powN bn en : Nat) by simp [poV, poC, h1, h2]]
      have K : Hid (∀ w, Calls Try.prog 30 #[.int .i64 (bn : Int), .int .i64 (en : Int)] w fun x w' => x = .returned (.int .i64 ((powN bn en : Nat) : Int)) ∧ w' = w) := fun w => l8Power_c bn en w (by omega) (by omega)
      clear hb1 hb2 he2
      generalize powN bn en = R at *
      go_enter Try.func19, Try.ntmps19
      go_wp2_with fail
      refine (l8Element_c _ _).mono ?_
      rintro e w' ⟨rfl, hw⟩
      subst hw
      rw [h1]
      go_wp2_with fail
      refine (l1In_c _ 0 65521 _).mono ?_
      rintro e w' ⟨rfl, hw⟩
      subst hw
      rw [h2]
      go_wp2_with fail
      refine (K.out _).mono ?_
      rintro e w' ⟨rfl, hw⟩
      subst hw
      go_wp2
      refine bodyPost_ret (v := .agg #[.int .i64 0, .int .i64 (R : Int)]) (by simp [results, Try.results19, go_sem]) rfl ⟨rfl, ?_⟩
      exact alloc_below _ _

set_option maxRecDepth 4000 in
set_option maxHeartbeats 1000000 in
theorem specSh_c (s : Int) (w : World) :
    Calls Try.prog 12 #[.int .i64 s] w fun x w' => x = .returned (.agg #[.int .i64 (shC s), .int .i64 (shV s)]) ∧ Below w.heap.size w w' := by
  cases h1 : inB s 1 65519
  · rw [show shC s = 3 by simp [shC, h1], show shV s = 0 by simp [shV, shC, h1]]
    go_enter Try.func12, Try.ntmps12
    go_wp2_with fail
    refine (l8Secret_c s _).mono ?_
    rintro e w' ⟨rfl, rfl⟩
    rw [h1]
    go_wp2
    exact bodyPost_ret (v := .agg #[.int .i64 3, .int .i64 0]) (by simp [results, Try.results12, go_sem]) rfl ⟨rfl, alloc_below _ _⟩
  · obtain ⟨sn, rfl, hb1, hb2⟩ := nat_of_in h1 (by decide)
    rw [show shC (sn : Int) = 0 by simp [shC, h1], show shV (sn : Int) = (powN 17 sn : Nat) by simp [shV, shC, h1]]
    have K : Hid (∀ w, Calls Try.prog 30 #[.int .i64 17, .int .i64 (sn : Int)] w fun x w' => x = .returned (.int .i64 ((powN 17 sn : Nat) : Int)) ∧ w' = w) := fun w => l8Power_c 17 sn w (by decide) (by omega)
    clear hb1 hb2
    generalize powN 17 sn = R at *
    go_enter Try.func12, Try.ntmps12
    go_wp2_with fail
    refine (l8Secret_c _ _).mono ?_
    rintro e w' ⟨rfl, hw⟩
    subst hw
    rw [h1]
    go_wp2_with fail
    refine (K.out _).mono ?_
    rintro e w' ⟨rfl, hw⟩
    subst hw
    go_wp2
    refine bodyPost_ret (v := .agg #[.int .i64 0, .int .i64 (R : Int)]) (by simp [results, Try.results12, go_sem]) rfl ⟨rfl, ?_⟩
    exact alloc_below _ _
set_option maxRecDepth 4000 in
set_option maxHeartbeats 1000000 in
theorem specSd_c (s b : Int) (w : World) :
    Calls Try.prog 14 #[.int .i64 s, .int .i64 b] w fun x w' => x = .returned (.agg #[.int .i64 (sdC s b), .int .i64 (sdV s b)]) ∧ Below w.heap.size w w' := by
  cases h1 : inB s 1 65519
  · rw [show sdC s b = 3 by simp [sdC, h1], show sdV s b = 0 by simp [sdV, sdC, h1]]
    go_enter Try.func14, Try.ntmps14
    go_wp2_with fail
    refine (l8Secret_c s _).mono ?_
    rintro e w' ⟨rfl, rfl⟩
    rw [h1]
    go_wp2
    exact bodyPost_ret (v := .agg #[.int .i64 3, .int .i64 0]) (by simp [results, Try.results14, go_sem]) rfl ⟨rfl, alloc_below _ _⟩
  · cases h2 : inB b 1 65520
    · rw [show sdC s b = 3 by simp [sdC, h1, h2], show sdV s b = 0 by simp [sdV, sdC, h1, h2]]
      go_enter Try.func14, Try.ntmps14
      go_wp2_with fail
      refine (l8Secret_c s _).mono ?_
      rintro e w' ⟨rfl, rfl⟩
      rw [h1]
      go_wp2_with fail
      refine (l8Element_c b _).mono ?_
      rintro e w' ⟨rfl, rfl⟩
      rw [h2]
      go_wp2
      exact bodyPost_ret (v := .agg #[.int .i64 3, .int .i64 0]) (by simp [results, Try.results14, go_sem]) rfl ⟨rfl, alloc_below _ _⟩
    · obtain ⟨sn, rfl, -, hs2⟩ := nat_of_in h1 (by decide)
      obtain ⟨bn, rfl, -, hb2⟩ := nat_of_in h2 (by decide)
      rw [show sdC (sn : Int) (bn : Int) = 0 by simp [sdC, h1, h2], show sdV (sn : Int) (bn : Int) = (powN bn sn : Nat) by simp [sdV, sdC, h1, h2]]
      have K : Hid (∀ w, Calls Try.prog 30 #[.int .i64 (bn : Int), .int .i64 (sn : Int)] w fun x w' => x = .returned (.int .i64 ((powN bn sn : Nat) : Int)) ∧ w' = w) := fun w => l8Power_c bn sn w (by omega) (by omega)
      clear hb2 hs2
      generalize powN bn sn = R at *
      go_enter Try.func14, Try.ntmps14
      go_wp2_with fail
      refine (l8Secret_c _ _).mono ?_
      rintro e w' ⟨rfl, hw⟩
      subst hw
      rw [h1]
      go_wp2_with fail
      refine (l8Element_c _ _).mono ?_
      rintro e w' ⟨rfl, hw⟩
      subst hw
      rw [h2]
      go_wp2_with fail
      refine (K.out _).mono ?_
      rintro e w' ⟨rfl, hw⟩
      subst hw
      go_wp2
      refine bodyPost_ret (v := .agg #[.int .i64 0, .int .i64 (R : Int)]) (by simp [results, Try.results14, go_sem]) rfl ⟨rfl, ?_⟩
      exact alloc_below _ _
set_option maxRecDepth 4000 in
set_option maxHeartbeats 1000000 in
theorem specSb_c (v : Int) (w : World) :
    Calls Try.prog 22 #[.int .i64 v] w fun e w' => ∃ u, e = .returned (.agg #[.int .i64 (shbC v), u]) ∧ Own w' w.heap.size u (shbL v) ∧ Below w.heap.size w w' := by
  cases h1 : inB v 1 65520
  · rw [show shbC v = 3 by simp [shbC, h1], show shbL v = [] by simp [shbL, shbC, h1]]
    go_enter Try.func22, Try.ntmps22
    go_wp2_with fail
    refine (l8Element_c v _).mono ?_
    rintro e w' ⟨rfl, rfl⟩
    rw [h1]
    go_wp2
    exact bodyPost_ret (v := .agg #[.int .i64 3, .slice none 0 0]) (by simp [results, Try.results22, go_sem]) rfl ⟨_, rfl, Own_nil _ _, alloc_below _ _⟩
  · obtain ⟨vn, rfl, -, hb2⟩ := nat_of_in h1 (by decide)
    rw [show shbC (vn : Int) = 0 by simp [shbC, h1], show shbL (vn : Int) = putB vn 2 by simp [shbL, shbC, h1]]
    obtain ⟨pv, HPV⟩ : ∃ pv, Hid (pv = putB vn 2) := ⟨_, rfl⟩
    rw [← HPV.out]
    go_enter Try.func22, Try.ntmps22
    go_wp2_with fail
    refine (l8Element_c _ _).mono ?_
    rintro e w' ⟨rfl, hw⟩
    subst hw
    rw [h1]
    go_wp2_with fail
    refine (l1Put_c vn 2 _ (by omega) (by decide)).mono ?_
    rintro e w1 ⟨u, rfl, ho, hb⟩
    rw [← HPV.out] at ho
    obtain ⟨hc, hf⟩ := bcell hb
    rw [size_alloc] at hc hf ho
    obtain ⟨a, cap, rfl, -⟩ := ho.rd
    have hres := Below.res hb
    go_wp2
    refine bodyPost_ret (v := .agg #[.int .i64 0, .slice a pv.length cap]) (by simp [results, Try.results22, go_sem, hc]) rfl ⟨_, rfl, ?_, (hres.setCell (Nat.le_refl _) _).setCell (Nat.le_refl _) _⟩
    exact ((ho.set (Nat.lt_succ_self _) _).set (Nat.lt_succ_self _) _).lower (Nat.le_succ _)
end Go.Proofs.Ytdolhafkihkocaa
