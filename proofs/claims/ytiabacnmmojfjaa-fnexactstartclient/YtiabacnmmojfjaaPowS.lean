/- The contracts of chapter 8's functions in the specification, at every argument: code and number, or bytes. -/
import Derived.Test.YtiabacnmmojfjaaJoint10
import Derived.Test.YtiabacnmmojfjaaCopy
import Derived.Test.YtiabacnmmojfjaaJoint3
import Derived.Test.YtiabacnmmojfjaaJoint5
namespace Go.Proofs.Ytiabacnmmojfjaa
open Go.ChangeShapes Go.WideShapes Go.ChangeAt Go.RowKit

def poC (b e : Int) : Int := if inB b 1 65520 && inB e 0 65521 then 0 else 3
def poV (b e : Int) : Int := if poC b e = 0 then (powN b.toNat e.toNat : Nat) else 0
def shC (s : Int) : Int := if inB s 1 65519 then 0 else 3
def shV (s : Int) : Int := if shC s = 0 then (powN 17 s.toNat : Nat) else 0
def sdC (s b : Int) : Int := if inB s 1 65519 && inB b 1 65520 then 0 else 3
def sdV (s b : Int) : Int := if sdC s b = 0 then (powN b.toNat s.toNat : Nat) else 0
def shbC (v : Int) : Int := if inB v 1 65520 then 0 else 3
def shbL (v : Int) : List UInt8 := if shbC v = 0 then putB v.toNat 2 else []
def bsC (d : List UInt8) : Int := if d.length = 2 then (if inB (getB d : Nat) 1 65520 then 0 else 3) else 5
def bsV (d : List UInt8) : Int := if bsC d = 0 then (getB d : Nat) else 0
theorem shbL_len (v : Int) : (shbL v).length ≤ 1048576 := by unfold shbL; split; rw [putB_len]; decide; simp
theorem nat_of_in {v lo hi : Int} (h : inB v lo hi = true) (hl : 0 ≤ lo) : ∃ n : Nat, v = n ∧ lo ≤ n ∧ (n : Int) ≤ hi := by
  have h2 : lo ≤ v ∧ v ≤ hi := by simpa [inB] using h
  exact ⟨v.toNat, by omega, by omega, by omega⟩

theorem l8Secret_c (v : Int) (w : World) : Calls Try.prog 52 #[.int .i64 v] w fun e w' => e = .returned (.bool (inB v 1 65519)) ∧ w' = w := by
  go_enter Try.func52, Try.ntmps52
  go_wp2_with fail
  refine (l1In_c v 1 65519 _).mono ?_
  rintro e w1 ⟨rfl, rfl⟩
  go_wp2
  go_ret
  exact ⟨rfl, rfl⟩
set_option maxRecDepth 4000 in
set_option maxHeartbeats 1000000 in
theorem l8Power_c (b e : Nat) (w : World) (hb : b ≤ 65520) (he : e ≤ 65521) :
    Calls Try.prog 59 #[.int .i64 (b : Int), .int .i64 (e : Int)] w fun x w' => x = .returned (.int .i64 ((powN b e : Nat) : Int)) ∧ w' = w := by
  obtain ⟨R, HR⟩ : ∃ R, Hid (R = powN b e) := ⟨_, rfl⟩
  rw [← HR.out]
  go_enter Try.func59, Try.ntmps59
  go_wp2
  have HI : Hid (1 * b ^ e % 65521 = R) := by show _ = _; rw [HR.out, Nat.one_mul]; rfl
  go_loop [0, 1, 5] (fun x y z => ∃ b' e' o : Nat, x = .int .i64 b' ∧ y = .int .i64 e' ∧ z = .int .i64 o ∧ b' ≤ 65520 ∧ e' ≤ 65521 ∧ o ≤ 65520 ∧ o * b' ^ e' % 65521 = R)
    (fun _ y _ => (intOf y).toNat)
  case atStart => exact ⟨b, e, 1, rfl, rfl, rfl, hb, he, by decide, HI.out⟩
  case round =>
    obtain ⟨x, y, o, rfl, rfl, rfl, hx, hy, ho, hinv⟩ := hrel
    have HV : Hid (o * x ^ y % 65521 = R) := hinv
    clear hinv hb he HI HR
    have hxx : x * x ≤ 65520 * 65520 := Nat.mul_le_mul hx hx
    have hox : o * x ≤ 65520 * 65520 := Nat.mul_le_mul ho hx
    have exx : ((x * x : Nat) : Int) = (x : Int) * (x : Int) := Int.natCast_mul x x
    have eox : ((o * x : Nat) : Int) = (o : Int) * (x : Int) := Int.natCast_mul o x
    have hxxI : (x : Int) * (x : Int) ≤ 4292870400 := by rw [← exx]; omega
    have hoxI : (o : Int) * (x : Int) ≤ 4292870400 := by rw [← eox]; omega
    have hxx0 : 0 ≤ (x : Int) * (x : Int) := by rw [← exx]; omega
    have hox0 : 0 ≤ (o : Int) * (x : Int) := by rw [← eox]; omega
    have E1 : Hid ((x : Int) * (x : Int) % 65521 = ((x * x % 65521 : Nat) : Int)) := by show _ = _; rw [Int.natCast_emod, exx]; rfl
    have E2 : Hid ((o : Int) * (x : Int) % 65521 = ((o * x % 65521 : Nat) : Int)) := by show _ = _; rw [Int.natCast_emod, eox]; rfl
    clear hxx hox exx eox
    by_cases h0 : 0 < y
    · have h0I : (0 : Int) < (y : Int) := by omega
      by_cases h1 : y % 2 = 1
      · have h1I : ((y : Int) % 2 == 1) = true := by rw [beq_iff_eq]; omega
        have HS : Hid ((o * x % 65521) * (x * x % 65521) ^ (y / 2) % 65521 = R) := by show _ = _; rw [pow_odd o x y h1]; exact HV.out
        go_wp2
        exact ⟨⟨x * x % 65521, y / 2, o * x % 65521, by rw [E1.out], by rw [Int.natCast_ediv]; rfl, by rw [E2.out], by have := Nat.mod_lt (x * x) (show 0 < 65521 by decide); omega, by omega, by have := Nat.mod_lt (o * x) (show 0 < 65521 by decide); omega, HS.out⟩, by simp [intOf]; omega⟩
      · have h1I : ((y : Int) % 2 == 1) = false := by rw [beq_eq_false_iff_ne]; omega
        have HS : Hid (o * (x * x % 65521) ^ (y / 2) % 65521 = R) := by show _ = _; rw [pow_even o x y (by omega)]; exact HV.out
        go_wp2
        exact ⟨⟨x * x % 65521, y / 2, o, by rw [E1.out], by rw [Int.natCast_ediv]; rfl, rfl, by have := Nat.mod_lt (x * x) (show 0 < 65521 by decide); omega, by omega, ho, HS.out⟩, by simp [intOf]; omega⟩
    · have e0 : y = 0 := by omega
      subst e0
      go_wp2
      go_ret
      have hR : R = o := by rw [← HV.out, Nat.pow_zero, Nat.mul_one, Nat.mod_eq_of_lt (by omega)]
      exact ⟨by rw [hR]; rfl, rfl⟩


end Go.Proofs.Ytiabacnmmojfjaa

