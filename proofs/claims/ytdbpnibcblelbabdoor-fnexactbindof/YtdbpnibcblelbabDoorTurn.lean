/- The contracts of TurnWord and of what it calls, in the specification and in the program: both answer turnCode and turnVal, at every argument. -/
import Derived.Test.YtdbpnibcblelbabDoorRows
import Derived.Test.YtdbpnibcblelbabDoorJoint3
import Derived.Test.YtdbpnibcblelbabDoorJoint2
import Derived.ProofKit
import Derived.OpenShut
namespace Go.Proofs.YtdbpnibcblelbabDoor
open Go.ChangeShapes Go.WideShapes Go.ChangeAt Go.RowKit

def turnCode (v n : Int) : Int := if inB v 0 4294967295 && inB n 0 31 then 0 else 3
def turnVal (v n : Int) : Int := if inB v 0 4294967295 && inB n 0 31 then (rotN v.toNat n.toNat : Nat) else 0
theorem turnCode_ok {a b : Int} (ha : inB a 0 4294967295 = true) (hb : inB b 0 31 = true) : turnCode a b = 0 := by simp [turnCode, ha, hb]
theorem turnVal_ok {a b : Int} (ha : inB a 0 4294967295 = true) (hb : inB b 0 31 = true) : turnVal a b = (rotN a.toNat b.toNat : Nat) := by simp [turnVal, ha, hb]
theorem turnCode_no {a b : Int} (h : inB a 0 4294967295 = false ∨ inB b 0 31 = false) : turnCode a b = 3 := by rcases h with h | h <;> simp [turnCode, h]
theorem turnVal_no {a b : Int} (h : inB a 0 4294967295 = false ∨ inB b 0 31 = false) : turnVal a b = 0 := by rcases h with h | h <;> simp [turnVal, h]
theorem i64_of {a b : Int} (h : a = b) : Value.int .i64 a = .int .i64 b := by rw [h]
theorem ret_i64 {a b : Int} (h : a = b) : Ending.returned (Value.int .i64 a) = .returned (.int .i64 b) := by rw [h]
theorem ret_u32 {a b : Int} (h : a = b) : Ending.returned (Value.int .u32 a) = .returned (.int .u32 b) := by rw [h]

set_option maxHeartbeats 400000 in
theorem l1Turn_c (v n : Nat) (w : World) (h2 : v < 4294967296) (h3 : 1 ≤ n) (h4 : n ≤ 31) :
    Calls Tryd.prog 55 #[.int .i64 v, .int .i64 n] w fun e w' => e = .returned (.int .i64 (rotN v n : Nat)) ∧ w' = w := by
  have hw := wrap_ne n h4
  have HS : Hid (wrap64 ((v : Int) / 2 ^ n + wrap64 ((v : Int) % wrap64 (2 ^ n) * 2 ^ (32 - n))) = (rotN v n : Nat)) := rot_spec v n h2 h3 h4
  have hn : (32 - (n : Int)).toNat = 32 - n := by omega
  go_enter Tryd.func55, Tryd.ntmps55
  go_wp2
  go_ret
  exact ⟨ret_i64 HS.out, rfl⟩


set_option maxHeartbeats 400000 in
theorem rot_c (v n : Nat) (w : World) (h2 : v < 4294967296) (h4 : n ≤ 31) :
    Calls Tryd.prog 63 #[.int .u32 v, .int .i64 (-(n : Int))] w fun e w' => e = .returned (.int .u32 (rotN v n : Nat)) ∧ w' = w := by
  by_cases h0 : n = 0
  · subst h0
    have hk : bits .and .u64 0 31 = 0 := by decide
    have HS : Hid (bits BinOp.or IntKind.u32 (v : Int) ((v : Int) / 4294967296) = (rotN v 0 : Nat)) := by
      rw [rotN_zero, show ((v : Int) / 4294967296) = ((0 : Nat) : Int) by omega]
      exact (u32_or_nat v 0 h2 (by decide)).trans (by simp)
    go_enter Tryd.func63, Tryd.ntmps63
    go_wp2
    go_ret
    exact ⟨ret_u32 HS.out, rfl⟩
  · have hk := and31 n h4
    rw [Nat.mod_eq_of_lt (by omega)] at hk
    have HS : Hid (bits .or .u32 ((v : Int) * 2 ^ (32 - n) % 4294967296) ((v : Int) / 2 ^ n) = (rotN v n : Nat)) := rot_or v n h2 (by omega) h4
    have hn : (32 - ((32 - n : Nat) : Int)).toNat = n := by omega
    have hl : ((32 - n : Nat) : Int) ≤ 32 := by omega
    generalize hm : 32 - n = m at *
    go_enter Tryd.func63, Tryd.ntmps63
    go_wp2
    go_ret
    exact ⟨ret_u32 HS.out, rfl⟩

set_option maxHeartbeats 400000 in
theorem turnRight_c (v n : Nat) (w : World) (h2 : v < 4294967296) (h4 : n ≤ 31) :
    Calls Tryd.prog 61 #[.int .u32 v, .int .i64 n] w fun e w' => e = .returned (.int .u32 (rotN v n : Nat)) ∧ w' = w := by
  go_enter Tryd.func61, Tryd.ntmps61
  go_wp2_with fail
  refine (rot_c v n _ h2 h4).mono ?_
  rintro e w1 ⟨rfl, rfl⟩
  go_wp2
  go_ret
  exact ⟨rfl, rfl⟩


theorem l1Turn_i (v n : Int) (w : World) (h1 : 0 ≤ v) (h2 : v ≤ 4294967295) (h3 : 1 ≤ n) (h4 : n ≤ 31) :
    Calls Tryd.prog 55 #[.int .i64 v, .int .i64 n] w fun e w' => e = .returned (.int .i64 (rotN v.toNat n.toNat : Nat)) ∧ w' = w := by
  obtain ⟨v, rfl⟩ := Int.eq_ofNat_of_zero_le h1
  obtain ⟨n, rfl⟩ := Int.eq_ofNat_of_zero_le (show 0 ≤ n by omega)
  rw [Int.toNat_natCast, Int.toNat_natCast]
  exact l1Turn_c v n w (by omega) (by omega) (by omega)
theorem turnRight_i (v n : Int) (w : World) (h1 : 0 ≤ v) (h2 : v ≤ 4294967295) (h3 : 0 ≤ n) (h4 : n ≤ 31) :
    Calls Tryd.prog 61 #[.int .u32 v, .int .i64 n] w fun e w' => e = .returned (.int .u32 (rotN v.toNat n.toNat : Nat)) ∧ w' = w := by
  obtain ⟨v, rfl⟩ := Int.eq_ofNat_of_zero_le h1
  obtain ⟨n, rfl⟩ := Int.eq_ofNat_of_zero_le h3
  rw [Int.toNat_natCast, Int.toNat_natCast]
  exact turnRight_c v n w (by omega) (by omega)



end Go.Proofs.YtdbpnibcblelbabDoor

