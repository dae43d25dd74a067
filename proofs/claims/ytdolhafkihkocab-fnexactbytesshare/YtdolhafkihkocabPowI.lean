/- The contracts of chapter 8's functions in the program, at every argument: code and number, or bytes. What was there stays. -/
import Derived.Test.YtdolhafkihkocabPowS
import Derived.Test.YtdolhafkihkocabArr
import Derived.BigQuiet
namespace Go.Proofs.Ytdolhafkihkocab
open Go.ChangeShapes Go.WideShapes Go.ChangeAt Go.RowKit

theorem and1_u64 (a : Nat) (h : a < 18446744073709551616) : bits .and .u64 (a : Int) 1 = (a : Int) % 2 := by
  have e : ∀ n : Nat, n < 18446744073709551616 → (BitVec.ofInt 64 (n : Int)).toNat = n := fun n hn => by rw [BitVec.toNat_ofInt]; omega
  show IntKind.u64.wrap ((BitVec.ofInt 64 (a : Int) &&& BitVec.ofInt 64 ((1 : Nat) : Int)).toNat : Int) = _
  rw [BitVec.toNat_and, e a h, e 1 (by decide), Nat.and_one_is_mod, IntKind.wrap_u64]
  omega
theorem or_i64 (m b : Nat) (hm : m < 256) (h1 : b < 256) : bits .or .i64 ((m : Int) * 256) (b : Int) = ((m * 256 + b : Nat) : Int) := by
  have e : ∀ n : Nat, n < 18446744073709551616 → (BitVec.ofInt 64 (n : Int)).toNat = n := fun n hn => by rw [BitVec.toNat_ofInt]; omega
  have h2 : b < 2 ^ 8 := by omega
  rw [show ((m : Int) * 256) = ((m * 256 : Nat) : Int) by omega]
  show IntKind.i64.wrap ((BitVec.ofInt 64 ((m * 256 : Nat) : Int) ||| BitVec.ofInt 64 (b : Int)).toNat : Int) = _
  rw [BitVec.toNat_or, e _ (by omega), e b (by omega), show m * 256 = m <<< 8 by rw [Nat.shiftLeft_eq], ← Nat.shiftLeft_add_eq_or_of_lt h2, Nat.shiftLeft_eq, IntKind.wrap_i64]
  omega

theorem isElement_c (v : Int) (w : World) : Calls Try.prog 11 #[.int .i64 v] w fun e w' => e = .returned (.bool (inB v 1 65520)) ∧ w' = w := by
  by_cases h1 : 1 ≤ v
  · by_cases h2 : v ≤ 65520
    · rw [show inB v 1 65520 = true by simp [inB, h1, h2]]
      go_enter Try.func11, Try.ntmps11
      go_wp2
      go_ret
      exact ⟨rfl, rfl⟩
    · rw [show inB v 1 65520 = false by simp [inB, h2]]
      go_enter Try.func11, Try.ntmps11
      go_wp2
      go_ret
      exact ⟨rfl, rfl⟩
  · rw [show inB v 1 65520 = false by simp [inB, h1]]
    go_enter Try.func11, Try.ntmps11
    go_wp2
    go_ret
    exact ⟨rfl, rfl⟩
set_option maxRecDepth 4000 in
set_option maxHeartbeats 1000000 in
theorem implBs_c (p : Option Addr) (q : Nat) (d : List UInt8) (w : World) (hr : Rd w p q d) :
    Calls Try.prog 6 #[.slice p d.length q] w fun x w' => x = .returned (.agg #[.int .i64 (bsC d), .int .i64 (bsV d)]) ∧ Below w.heap.size w w' := by
  by_cases h : d.length = 2
  · have d1 : ((d.length : Int) != 2) = false := by rw [bne_eq_false_iff_eq]; omega
    obtain ⟨b, o, rfl, hc⟩ := hr.2.2.2 (by omega)
    have c0 := hc 0 (by omega)
    have c1 := hc 1 (by omega)
    rw [Nat.add_zero] at c0
    have l2 : 2 ≤ d.length := by omega
    have HB : Hid (bsC d = if inB (getB d : Nat) 1 65520 then 0 else 3) := by show _ = _; rw [bsC, if_pos h]
    have HV : Hid (bsV d = if inB (getB d : Nat) 1 65520 then ((getB d : Nat) : Int) else 0) := by
      show _ = _
      rw [bsV, HB.out]
      cases inB ((getB d : Nat) : Int) 1 65520 <;> simp
    have a0 := at8_lo d 0
    have a1 := at8_hi d 0
    have b0 := at8_lo d 1
    have b1 := at8_hi d 1
    have HG : Hid (bits .or .i64 (at8 d 0 * 256) (at8 d 1) = ((getB d : Nat) : Int)) := by
      show _ = _
      match d, h with
      | [x, y], _ =>
        show bits .or .i64 ((x.toNat : Int) * 256) (y.toNat : Int) = _
        rw [or_i64 _ _ x.toNat_lt y.toNat_lt]
        simp [getB]
    rw [HB.out, HV.out]
    clear HB HV h hc hr
    generalize getB d = g at *
    generalize d.length = n at *
    generalize at8 d 0 = x0 at *
    generalize at8 d 1 = x1 at *
    have k0 := cell_keep c0 (alloc_below w (.cells #[.int .i64 0, .int .i64 0] 24))
    have k1 := cell_keep c1 (alloc_below w (.cells #[.int .i64 0, .int .i64 0] 24))
    clear c0 c1
    cases h1 : inB (g : Int) 1 65520
    · simp only [Bool.false_eq_true, if_false]
      go_enter Try.func6, Try.ntmps6
      go_wp2_with fail
      go_quiet (fail)
      rw [HG.out]
      go_wp2_with fail
      refine (isElement_c _ _).mono ?_
      rintro e w' ⟨rfl, hw⟩
      subst hw
      rw [h1]
      go_wp2
      refine bodyPost_ret (v := .agg #[.int .i64 3, .int .i64 0]) (by simp [results, Try.results6, go_sem]) rfl ⟨rfl, ?_⟩
      exact ((below_drewN (alloc_below w _) _).setCell (Nat.le_refl _) _).setCell (Nat.le_refl _) _
    · simp only [if_true]
      go_enter Try.func6, Try.ntmps6
      go_wp2_with fail
      go_quiet (fail)
      rw [HG.out]
      go_wp2_with fail
      refine (isElement_c _ _).mono ?_
      rintro e w' ⟨rfl, hw⟩
      subst hw
      rw [h1]
      go_wp2
      refine bodyPost_ret (v := .agg #[.int .i64 0, .int .i64 (g : Int)]) (by simp [results, Try.results6, go_sem]) rfl ⟨rfl, ?_⟩
      exact ((below_drewN (alloc_below w _) _).setCell (Nat.le_refl _) _).setCell (Nat.le_refl _) _
  · have d1 : ((d.length : Int) != 2) = true := by rw [bne_iff_ne]; omega
    rw [show bsC d = 5 by simp [bsC, h], show bsV d = 0 by simp [bsV, bsC, h]]
    clear h
    go_enter Try.func6, Try.ntmps6
    go_wp2
    exact bodyPost_ret (v := .agg #[.int .i64 5, .int .i64 0]) (by simp [results, Try.results6, go_sem]) rfl ⟨rfl, alloc_below _ _⟩
end Go.Proofs.Ytdolhafkihkocab
