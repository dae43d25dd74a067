/- The contracts of a digit's value, in the specification and in the program. -/
import Derived.Test.YtgdbbadmfddfbaaRows
import Derived.Test.YtgdbbadmfddfbaaUnhex
import Derived.ProofKit
import Derived.OpenShut
namespace Go.Proofs.Ytgdbbadmfddfbaa
open Go.ChangeShapes Go.WideShapes Go.ChangeAt Go.RowKit

theorem ret_dig {a b : Int} {t : Bool} (h : a = b) : Ending.returned (.tuple #[.int .u8 a, .bool t]) = .returned (.tuple #[.int .u8 b, .bool t]) := by rw [h]
theorem ret_int {k : IntKind} {a b : Int} (h : a = b) : Ending.returned (.int k a) = .returned (.int k b) := by rw [h]

set_option maxHeartbeats 1000000 in
theorem l1Value_c (c : Int) (w : World) (h0 : 0 ≤ c) (h1 : c ≤ 255) :
    Calls Try.prog 34 #[.int .u8 c] w fun e w' => e = .returned (.int .i64 (dv c)) ∧ w' = w := by
  rcases (show (48 ≤ c ∧ c ≤ 57) ∨ (97 ≤ c ∧ c ≤ 102) ∨ (c < 48) ∨ (57 < c ∧ c < 97) ∨ 102 < c by omega) with h | h | h | h | h
  · rw [dv_num h]
    obtain ⟨ha, hb⟩ := h
    go_enter Try.func34, Try.ntmps34
    go_wp2
    go_ret
    exact ⟨ret_int (by omega), rfl⟩
  · rw [dv_let h]
    obtain ⟨ha, hb⟩ := h
    have hx : ¬ c ≤ 57 := by omega
    go_enter Try.func34, Try.ntmps34
    go_wp2
    go_ret
    exact ⟨ret_int (by omega), rfl⟩
  · rw [dv_no (by omega) (by omega)]
    go_enter Try.func34, Try.ntmps34
    go_wp2
    go_ret
    exact ⟨rfl, rfl⟩
  · rw [dv_no (by omega) (by omega)]
    obtain ⟨ha, hb⟩ := h
    go_enter Try.func34, Try.ntmps34
    go_wp2
    go_ret
    exact ⟨rfl, rfl⟩
  · rw [dv_no (by omega) (by omega)]
    go_enter Try.func34, Try.ntmps34
    go_wp2
    go_ret
    exact ⟨rfl, rfl⟩

set_option maxHeartbeats 1000000 in
theorem digitValue_yes (c : Int) (w : World) (h0 : 0 ≤ c) (h1 : c ≤ 255) (hd : 0 ≤ dv c) :
    Calls Try.prog 41 #[.int .u8 c] w fun e w' => e = .returned (.tuple #[.int .u8 (dv c), .bool true]) ∧ w' = w := by
  rcases (show (48 ≤ c ∧ c ≤ 57) ∨ (97 ≤ c ∧ c ≤ 102) ∨ (¬ (48 ≤ c ∧ c ≤ 57) ∧ ¬ (97 ≤ c ∧ c ≤ 102)) by omega) with h | h | ⟨h, h'⟩
  · rw [dv_num h]
    obtain ⟨ha, hb⟩ := h
    go_enter Try.func41, Try.ntmps41
    go_wp2
    go_ret2
    exact ⟨ret_dig (by omega), rfl⟩
  · rw [dv_let h]
    obtain ⟨ha, hb⟩ := h
    have hx : ¬ c ≤ 57 := by omega
    go_enter Try.func41, Try.ntmps41
    go_wp2
    go_ret2
    exact ⟨ret_dig (by omega), rfl⟩
  · rw [dv_no h h'] at hd
    omega
set_option maxHeartbeats 1000000 in
theorem digitValue_no (c : Int) (w : World) (h0 : 0 ≤ c) (h1 : c ≤ 255) (hd : ¬ 0 ≤ dv c) :
    Calls Try.prog 41 #[.int .u8 c] w fun e w' => e = .returned (.tuple #[.int .u8 0, .bool false]) ∧ w' = w := by
  rcases (show (48 ≤ c ∧ c ≤ 57) ∨ (97 ≤ c ∧ c ≤ 102) ∨ (c < 48) ∨ (57 < c ∧ c < 97) ∨ 102 < c by omega) with h | h | h | h | h
  · rw [dv_num h] at hd
    omega
  · rw [dv_let h] at hd
    omega
  · clear hd
    go_enter Try.func41, Try.ntmps41
    go_wp2
    go_ret2
    exact ⟨rfl, rfl⟩
  · clear hd
    obtain ⟨ha, hb⟩ := h
    go_enter Try.func41, Try.ntmps41
    go_wp2
    go_ret2
    exact ⟨rfl, rfl⟩
  · clear hd
    go_enter Try.func41, Try.ntmps41
    go_wp2
    go_ret2
    exact ⟨rfl, rfl⟩
end Go.Proofs.Ytgdbbadmfddfbaa
