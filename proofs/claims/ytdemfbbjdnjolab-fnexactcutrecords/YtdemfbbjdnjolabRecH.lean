/- impl.toldLength, impl.firstRecord of the program, at every argument that they are called at. What was there stays. -/
import Derived.Test.YtdemfbbjdnjolabRecC
import Derived.BigQuiet
namespace Go.Proofs.Ytdemfbbjdnjolab
open Go.ChangeShapes Go.WideShapes Go.ChangeAt Go.RowKit

theorem told_get (bs : List UInt8) (h : 5 ≤ bs.length) : ((getB ((bs.drop 3).take 2) : Nat) : Int) = at8 bs 3 * 256 + at8 bs 4 := by
  rw [List.drop_eq_getElem_cons (by omega), List.drop_eq_getElem_cons (by omega)]
  rw [List.take_succ_cons, List.take_succ_cons, List.take_zero]
  show (((0 * 256 + (bs[3]'(by omega)).toNat) * 256 + (bs[4]'(by omega)).toNat : Nat) : Int) = _
  rw [at8_get (by omega), at8_get (by omega)]
  omega
theorem orI_nat (a b : Nat) (ha : a < 9223372036854775808) (hb : b < 9223372036854775808) : bits .or .i64 (a : Int) (b : Int) = ((a ||| b : Nat) : Int) := by
  have hx : a ||| b < 2 ^ 63 := Nat.or_lt_two_pow (by omega) (by omega)
  show IntKind.i64.wrap ((BitVec.ofInt 64 (a : Int) ||| BitVec.ofInt 64 (b : Int)).toNat : Int) = _
  rw [BitVec.toNat_or, ofInt_i64 a ha, ofInt_i64 b hb, wrap_i64_nat _ (by omega)]
theorem orI_two {x y : Int} (hx : 0 ≤ x) (hx2 : x ≤ 255) (hy : 0 ≤ y) (hy2 : y ≤ 255) : bits .or .i64 (x * 256) y = x * 256 + y := by
  obtain ⟨a, rfl⟩ : ∃ n : Nat, x = (n : Int) := ⟨x.toNat, by omega⟩
  obtain ⟨b, rfl⟩ : ∃ n : Nat, y = (n : Int) := ⟨y.toNat, by omega⟩
  rw [show ((a : Int) * 256) = ((a * 2 ^ 8 : Nat) : Int) by omega, orI_nat _ _ (by omega) (by omega), ← Nat.shiftLeft_eq, ← Nat.shiftLeft_add_eq_or_of_lt (show b < 2 ^ 8 by omega)]
  omega
set_option maxRecDepth 4000 in
set_option maxHeartbeats 400000 in
theorem toldLength_c (p : Option Addr) (q : Nat) (bs : List UInt8) (w : World) (hr : Rd w p q bs) (h5 : 5 ≤ bs.length) :
    Calls Try.prog 22 #[.slice p bs.length q] w fun e w' => e = .returned (.int .i64 (getB ((bs.drop 3).take 2) : Nat)) ∧ Below w.heap.size w w' := by
  obtain ⟨b, o, rfl, hc⟩ := hr.2.2.2 (by omega)
  have c3 := hc 3 (by omega)
  have c4 := hc 4 (by omega)
  have hl3 : (3 : Int) < (bs.length : Int) := by omega
  have hl4 : (4 : Int) < (bs.length : Int) := by omega
  have E : Hid (((getB ((bs.drop 3).take 2) : Nat) : Int) = at8 bs 3 * 256 + at8 bs 4) := told_get bs h5
  have l3 := at8_lo bs 3
  have u3 := at8_hi bs 3
  have l4 := at8_lo bs 4
  have u4 := at8_hi bs 4
  clear hr hc
  go_enter Try.func22, Try.ntmps22
  go_wp2
  go_quiet (fail)
  go_wp2
  rw [orI_two l3 u3 l4 u4, ← E.out]
  go_ret
  exact ⟨rfl, below_drewN (Below.refl _ _) _⟩
/-- What the first piece is told as. -/
def numB (bs : List UInt8) : Nat := getB ((bs.drop 3).take 2)
def codeB (bs : List UInt8) (k : Nat) : Int := if bs.length < 5 then 5 else if 240 < numB bs then 3 else if bs.length < 5 + numB bs then 5 else if k = 8 then 2 else 0
set_option maxRecDepth 4000 in
set_option maxHeartbeats 1000000 in
theorem firstRecord_c (p : Option Addr) (q : Nat) (bs : List UInt8) (k : Nat) (w : World) (hr : Rd w p q bs) (hl : bs.length ≤ 1000) :
    Calls Try.prog 20 #[.slice p bs.length q, .int .i64 k] w fun e w' => ∃ u, e = .returned (.tuple #[u, .int .i64 (codeB bs k)]) ∧ u = (if codeB bs k = 0 then .slice p (5 + numB bs) q else .slice none 0 0) ∧ Below w.heap.size w w' := by
  have hq1 : bs.length ≤ q := hr.1
  have hq2 : q ≤ 2 ^ 63 - 1 := hr.2.1
  by_cases h1 : bs.length < 5
  · have e : codeB bs k = 5 := by rw [codeB, if_pos h1]
    rw [e, if_neg (by decide)]
    clear e
    have h1I : (bs.length : Int) < 5 := by omega
    go_enter Try.func20, Try.ntmps20
    go_wp2
    go_ret2
    exact ⟨_, rfl, rfl, Below.refl _ _⟩
  · have KT := toldLength_c p q bs w hr (by omega)
    have h1I : ¬ (bs.length : Int) < 5 := by omega
    obtain ⟨n, HN⟩ : ∃ n, Hid (n = numB bs) := ⟨_, rfl⟩
    rw [show getB ((bs.drop 3).take 2) = n from HN.out.symm] at KT
    rw [show codeB bs k = if 240 < n then 3 else if bs.length < 5 + n then 5 else if k = 8 then 2 else 0 by rw [codeB, if_neg h1, HN.out], ← HN.out]
    clear HN
    have HK : Hid (Calls Try.prog 22 #[.slice p bs.length q] w fun e w' => e = .returned (.int .i64 (n : Int)) ∧ Below w.heap.size w w') := KT
    clear KT hr
    by_cases h2 : 240 < n
    · rw [if_pos h2, if_neg (by decide)]
      have h2I : (240 : Int) < (n : Int) := by omega
      go_enter Try.func20, Try.ntmps20
      go_wp2_with fail
      refine HK.out.mono ?_
      rintro e w1 ⟨rfl, hb⟩
      go_wp2
      go_ret2
      exact ⟨_, rfl, rfl, hb⟩
    · rw [if_neg h2]
      have h2I : ¬ (240 : Int) < (n : Int) := by omega
      by_cases h3 : bs.length < 5 + n
      · rw [if_pos h3, if_neg (by decide)]
        have h3I : (bs.length : Int) < 5 + (n : Int) := by omega
        go_enter Try.func20, Try.ntmps20
        go_wp2_with fail
        refine HK.out.mono ?_
        rintro e w1 ⟨rfl, hb⟩
        go_wp2
        go_ret2
        exact ⟨_, rfl, rfl, hb⟩
      · rw [if_neg h3]
        have h3I : ¬ (bs.length : Int) < 5 + (n : Int) := by omega
        by_cases h4 : k = 8
        · rw [if_pos h4, if_neg (by decide)]
          have h4I : ((k : Int) == 8) = true := by rw [beq_iff_eq]; omega
          clear h4
          go_enter Try.func20, Try.ntmps20
          go_wp2_with fail
          refine HK.out.mono ?_
          rintro e w1 ⟨rfl, hb⟩
          go_wp2
          go_ret2
          exact ⟨_, rfl, rfl, hb⟩
        · rw [if_neg h4, if_pos rfl]
          have h4I : ((k : Int) == 8) = false := by rw [beq_eq_false_iff_ne]; omega
          clear h4
          go_enter Try.func20, Try.ntmps20
          go_wp2_with fail
          refine HK.out.mono ?_
          rintro e w1 ⟨rfl, hb⟩
          go_wp2
          go_ret2
          exact ⟨_, rfl, rfl, hb⟩
end Go.Proofs.Ytdemfbbjdnjolab
