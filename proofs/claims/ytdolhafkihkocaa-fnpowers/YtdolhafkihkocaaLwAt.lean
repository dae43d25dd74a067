/- The contract of the laws' own draw of a number (lwAt): it is below the bound. -/
import Derived.Test.YtdolhafkihkocaaCopy
namespace Go.Proofs.Ytdolhafkihkocaa
open Go.ChangeShapes Go.WideShapes Go.ChangeAt Go.RowKit

theorem emod_nat (v : Int) (n : Nat) (h : 0 < n) : ∃ m : Nat, v % (n : Int) = (m : Int) ∧ m < n := by
  have h1 := Int.emod_nonneg v (show (n : Int) ≠ 0 by omega)
  have h2 := Int.emod_lt_of_pos v (show (0 : Int) < (n : Int) by omega)
  exact ⟨(v % (n : Int)).toNat, by omega, by omega⟩

set_option maxRecDepth 4000 in
set_option maxHeartbeats 2000000 in
theorem lwAt_c (p : Option Addr) (q : Nat) (cs : List UInt8) (i n : Nat) (w : World) (hr : Rd w p q cs) (hl : cs.length ≤ 1048576) (hi : i ≤ 1000) (hn : n ≤ 1000000) :
    Calls Try.prog 20 #[.slice p cs.length q, .int .i64 (i : Int), .int .i64 (n : Int)] w fun e w' => ∃ m : Nat, e = .returned (.int .i64 (m : Int)) ∧ (m = 0 ∨ m < n) ∧ Below w.heap.size w w' := by
  by_cases h1 : n ≤ 1
  · go_enter Try.func20, Try.ntmps20
    go_wp2
    go_ret
    exact ⟨0, rfl, .inl rfl, Below.refl _ _⟩
  · have hn0 : ((n : Int) == 0) = false := by rw [beq_eq_false_iff_ne]; omega
    by_cases h2 : cs.length = 0
    · rw [h2]
      have hq : (((i : Int) * 7) % (n : Int)) = ((i * 7 % n : Nat) : Int) := by push_cast; rfl
      go_enter Try.func20, Try.ntmps20
      go_wp2
      go_ret
      exact ⟨i * 7 % n, by rw [← hq]; rfl, .inr (Nat.mod_lt _ (by omega)), Below.refl _ _⟩
    · have hk0 : ((cs.length : Int) == 0) = false := by rw [beq_eq_false_iff_ne]; omega
      have hd1 : i / cs.length ≤ i := Nat.div_le_self _ _
      have hr1 : i % cs.length < cs.length := Nat.mod_lt _ (by omega)
      have hr2 : (i + 1) % cs.length < cs.length := Nat.mod_lt _ (by omega)
      have e1 : (i : Int) / (cs.length : Int) = ((i / cs.length : Nat) : Int) := by push_cast; rfl
      have e2 : (i : Int) % (cs.length : Int) = ((i % cs.length : Nat) : Int) := by push_cast; rfl
      have e3 : ((i : Int) + 1) % (cs.length : Int) = (((i + 1) % cs.length : Nat) : Int) := by push_cast; rfl
      have et1 : (i : Int).tdiv (cs.length : Int) = ((i / cs.length : Nat) : Int) := by rw [Int.tdiv_eq_ediv_of_nonneg (by omega)]; exact e1
      have et2 : (i : Int).tmod (cs.length : Int) = ((i % cs.length : Nat) : Int) := by rw [Int.tmod_eq_emod_of_nonneg (by omega)]; exact e2
      have et3 : ((i : Int) + 1).tmod (cs.length : Int) = (((i + 1) % cs.length : Nat) : Int) := by rw [Int.tmod_eq_emod_of_nonneg (by omega)]; exact e3
      obtain ⟨b, o, rfl, hc⟩ := hr.2.2.2 (by omega)
      have c1 := hc _ hr1
      have c2 := hc _ hr2
      have h3 := at8_lo cs (i % cs.length)
      have h4 := at8_hi cs (i % cs.length)
      have h5 := at8_lo cs ((i + 1) % cs.length)
      have h6 := at8_hi cs ((i + 1) % cs.length)
      generalize at8 cs (i % cs.length) = x at *
      generalize at8 cs ((i + 1) % cs.length) = y at *
      generalize i / cs.length = d at *
      generalize i % cs.length = r at *
      generalize (i + 1) % cs.length = r2 at *
      have g1 : (r : Int) < (cs.length : Int) := by omega
      have g2 : (r2 : Int) < (cs.length : Int) := by omega
      clear hc hr
      by_cases h7 : 200 < n
      · go_enter Try.func20, Try.ntmps20
        go_wp2
        go_quiet (fail)
        go_wp2
        obtain ⟨m, hm, hlt⟩ := emod_nat ((x + (d : Int) * 3) * 251 + y) n (by omega)
        go_ret
        exact ⟨m, by rw [← hm]; rfl, .inr hlt, below_drewN (Below.refl _ _) _⟩
      · go_enter Try.func20, Try.ntmps20
        go_wp2
        go_quiet (fail)
        go_wp2
        obtain ⟨m, hm, hlt⟩ := emod_nat (x + (d : Int) * 3) n (by omega)
        go_ret
        exact ⟨m, by rw [← hm]; rfl, .inr hlt, below_drewN (Below.refl _ _) _⟩
end Go.Proofs.Ytdolhafkihkocaa
