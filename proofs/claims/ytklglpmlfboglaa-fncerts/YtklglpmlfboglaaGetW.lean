/- The contracts of BytesWord and of what it calls, in the specification and in the program: both answer gwCode and gwVal, at every argument. -/
import Derived.Test.YtklglpmlfboglaaCopy
import Derived.Test.YtklglpmlfboglaaPut
namespace Go.Proofs.Ytklglpmlfboglaa
open Go.ChangeShapes Go.WideShapes Go.ChangeAt Go.RowKit

def gwCode (bs : List UInt8) : Int := if bs.length = 4 then 0 else 1
def gwVal (bs : List UInt8) : Int := if bs.length = 4 then (getB bs : Nat) else 0

set_option maxHeartbeats 1000000 in
theorem l1Get_c (a : Option Addr) (cap : Nat) (bs : List UInt8) (w : World) (hr : Rd w a cap bs) (hl : bs.length ≤ 7) :
    Calls Try.prog 72 #[.slice a bs.length cap] w fun e w' => e = .returned (.int .i64 (getB bs : Nat)) ∧ w' = w := by
  go_enter Try.func72, Try.ntmps72
  go_wp2
  go_loop [3, 4] (fun q i => ∃ k : Nat, k ≤ bs.length ∧ i = .int .i64 k ∧ q = .int .i64 (getB (bs.take k) : Nat))
    (fun _ i => bs.length - (intOf i).toNat)
  case atStart => exact ⟨0, Nat.zero_le _, rfl, by simp [getB]⟩
  case round =>
    obtain ⟨k, hk, rfl, rfl⟩ := hrel
    by_cases hlt : k < bs.length
    · obtain ⟨b, o, rfl, hc⟩ := hr.2.2.2 (by omega)
      have hcx := hc k hlt
      have HG : Hid (((getB (bs.take (k + 1)) : Nat) : Int) = (getB (bs.take k) : Int) * 256 + at8 bs k) := getB_take bs k hlt
      have hg1 : (getB (bs.take k) : Int) ≤ 281474976710656 := by
        have := Nat.lt_of_lt_of_le (getB_lt (bs.take k)) (Nat.pow_le_pow_right (by decide) (show (bs.take k).length ≤ 6 by have := List.length_take_le k bs; omega))
        omega
      have h0 := at8_lo bs k
      have h1 := at8_hi bs k
      generalize getB (bs.take k) = m at *
      generalize at8 bs k = b8 at *
      clear hc hr
      go_wp2
      go_round
      case rel => exact ⟨k + 1, by omega, by go_num, by rw [HG.out]⟩
      case measure => simp [intOf]; omega
    · have e : k = bs.length := by omega
      subst e
      rw [List.take_length]
      go_wp2
      go_ret
      exact ⟨rfl, rfl⟩

theorem l1Get_n (a : Option Addr) (cap n : Nat) (bs : List UInt8) (w : World) (hr : Rd w a cap bs) (hn : bs.length = n) (hl : n ≤ 7) :
    Calls Try.prog 72 #[.slice a n cap] w fun e w' => e = .returned (.int .i64 (getB bs : Nat)) ∧ w' = w := by
  subst hn; exact l1Get_c a cap bs w hr hl



end Go.Proofs.Ytklglpmlfboglaa
