/- The contracts of HexOf in the specification, and of what it calls. -/
import Derived.Test.YtgjmhlolbjmibaaDoorRows
import Derived.Test.YtgjmhlolbjmibaaDoorHex
import Derived.ProofKit
import Derived.OpenShut
import Derived.Deep.QuietTactic
import Derived.BigQuiet
namespace Go.Proofs.YtgjmhlolbjmibaaDoor
open Go.ChangeShapes Go.WideShapes Go.ChangeAt Go.RowKit

set_option maxHeartbeats 2000000 in
theorem l1Digit_c (v : Int) (w : World) (h0 : 0 ≤ v) (h1 : v ≤ 15) :
    Calls Tryd.prog 50 #[.int .u8 v] w fun e w' => e = .returned (.string (strB [hexD v])) ∧ w' = w := by
  rcases (show v = 0 ∨ v = 1 ∨ v = 2 ∨ v = 3 ∨ v = 4 ∨ v = 5 ∨ v = 6 ∨ v = 7 ∨ v = 8 ∨ v = 9 ∨ v = 10 ∨ v = 11 ∨ v = 12 ∨ v = 13 ∨ v = 14 ∨ v = 15 by omega) with rfl | rfl | rfl | rfl | rfl | rfl | rfl | rfl | rfl | rfl | rfl | rfl | rfl | rfl | rfl | rfl
  all_goals
    clear h0 h1
    go_enter Tryd.func50, Tryd.ntmps50
    go_wp2
    go_ret
    exact ⟨rfl, rfl⟩

set_option maxHeartbeats 2000000 in
theorem l1Hex_c (a : Option Addr) (cap : Nat) (bs : List UInt8) (w : World) (hr : Rd w a cap bs) (hl : bs.length ≤ 1048576) :
    Calls Tryd.prog 37 #[.slice a bs.length cap] w fun e w' => e = .returned (.string (strB (hexL bs))) ∧ Below w.heap.size w w' := by
  go_enter Tryd.func37, Tryd.ntmps37
  go_wp2
  go_loopw [3, 4] (fun q i wr => ∃ k : Nat, k ≤ bs.length ∧ i = .int .i64 k ∧ q = .string (strB (hexL (bs.take k))) ∧ Below w.heap.size w wr)
    (fun _ i _ => bs.length - (intOf i).toNat)
  case atStart => exact ⟨0, Nat.zero_le _, rfl, rfl, Below.refl _ _⟩
  case round =>
    obtain ⟨k, hk, rfl, rfl, hbel⟩ := hrel
    by_cases hlt : k < bs.length
    · obtain ⟨b, o, rfl, hc⟩ := hr.2.2.2 (by omega)
      have hcx : wr.cell? ⟨b, o + k, none⟩ = some (.int .u8 (at8 bs k)) := cell_keep (hc k hlt) hbel
      have hlt' : (k : Int) < (bs.length : Int) := by omega
      have HT : Hid (hexL (bs.take (k + 1)) = hexL (bs.take k) ++ [hexD (at8 bs k / 16)] ++ [hexD (at8 bs k % 16)]) := hexL_take bs k hlt
      have hlen : (hexL (bs.take k)).length ≤ 2097152 := by rw [hexL_len]; have := List.length_take_le k bs; omega
      have h0 := at8_lo bs k
      have h1 := at8_hi bs k
      have ha1 := run_add (P := Tryd.prog) (hexL (bs.take k)) [hexD (at8 bs k / 16)] (by simp; omega)
      have ha2 := run_add (P := Tryd.prog) (hexL (bs.take k) ++ [hexD (at8 bs k / 16)]) [hexD (at8 bs k % 16)] (by simp; omega)
      generalize hexL (bs.take k) = x at *
      generalize at8 bs k = v at *
      clear hc hr hlen
      go_wp2
      go_quiet ((go_at_call 50; exact Calls.quiet_of_same (l1Digit_c _ _ (by omega) (by omega))))
      go_wp2
      go_roundw
      case rel => exact ⟨k + 1, by omega, by go_num, by rw [HT.out, List.append_assoc]; rfl, below_drewN hbel _⟩
      case measure => simp [intOf]; omega
    · have e : k = bs.length := by omega
      subst e
      rw [List.take_length]
      go_wp2
      go_ret
      exact ⟨rfl, hbel⟩

def hexCode (bs : List UInt8) : Int := if bs.length ≤ 600 then 0 else 2
def hexText (bs : List UInt8) : List UInt8 := if bs.length ≤ 600 then hexL bs else []

end Go.Proofs.YtgjmhlolbjmibaaDoor
