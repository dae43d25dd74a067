/- The contracts of BytesWord and of what it calls, in the specification and in the program: both answer gwCode and gwVal, at every argument. -/
import Derived.Test.YtgdbbadmfddfbaaCopy
import Derived.Test.YtgdbbadmfddfbaaPut
namespace Go.Proofs.Ytgdbbadmfddfbaa
open Go.ChangeShapes Go.WideShapes Go.ChangeAt Go.RowKit

def gwCode (bs : List UInt8) : Int := if bs.length = 4 then 0 else 1
def gwVal (bs : List UInt8) : Int := if bs.length = 4 then (getB bs : Nat) else 0



set_option maxHeartbeats 1000000 in
theorem implBW_c (a : Option Addr) (cap : Nat) (bs : List UInt8) (w : World) (hr : Rd w a cap bs) :
    Calls Try.prog 10 #[.slice a bs.length cap] w fun e w' => e = .returned (.agg #[.int .i64 (gwCode bs), .int .i64 (gwVal bs)]) ∧ Below w.heap.size w w' := by
  by_cases h4 : bs.length = 4
  · rw [show gwCode bs = 0 by simp [gwCode, h4], show gwVal bs = (getB bs : Nat) by simp [gwVal, h4]]
    have hne : (((bs.length : Nat) : Int) != 4) = false := by simp [h4]
    have hr2 := hr.keep (alloc_below w (Obj.cells #[Value.int IntKind.i64 0, Value.int IntKind.i64 0] 27))
    have HL : Hid (bs.length = 4) := h4
    clear h4
    go_enter Try.func10, Try.ntmps10
    go_wp2
    go_loop [3, 12] (fun q i => ∃ k : Nat, k ≤ bs.length ∧ i = .int .i64 k ∧ q = .int .u32 (getB (bs.take k) : Nat))
      (fun _ i => bs.length - (intOf i).toNat)
    case atStart => exact ⟨0, Nat.zero_le _, rfl, by simp [getB]⟩
    case round =>
      obtain ⟨k, hk, rfl, rfl⟩ := hrel
      have hl4 : bs.length ≤ 4 := by have := HL.out; omega
      by_cases hlt : k < bs.length
      · obtain ⟨b, o, rfl, hc⟩ := hr2.2.2.2 (by omega)
        have hcx := hc k hlt
        have HG : Hid (((getB (bs.take (k + 1)) : Nat) : Int) = (getB (bs.take k) : Int) * 256 + at8 bs k) := getB_take bs k hlt
        have hg1 := getB_take_lt3 bs k (by omega)
        have h0 := at8_lo bs k
        have h1 := at8_hi bs k
        have hor := or_step _ _ hg1 h0 h1
        have hg2 : (getB (bs.take k) : Int) ≤ 16777215 := by omega
        generalize getB (bs.take k) = m at *
        generalize at8 bs k = b8 at *
        clear hc hr2 hr hg1
        go_wp2
        go_round
        case rel => exact ⟨k + 1, by omega, by go_num, by rw [HG.out]⟩
        case measure => simp [intOf]; omega
      · have e : k = bs.length := by omega
        have HT : Hid (bs.take k = bs) := by show _ = _; rw [e, List.take_length]
        rw [HT.out]
        have hg2 : (getB bs : Int) ≤ 4294967295 := by have := getB_take_lt bs k (by omega); rw [HT.out] at this; omega
        clear HT e
        go_wp2
        exact bodyPost_ret (v := .agg #[.int .i64 0, .int .i64 (getB bs : Nat)]) (by simp [results, Try.results10, go_sem]) rfl ⟨rfl, alloc_below _ _⟩
  · rw [show gwCode bs = 1 by simp [gwCode, h4], show gwVal bs = 0 by simp [gwVal, h4]]
    have hne : (((bs.length : Nat) : Int) != 4) = true := by rw [bne_iff_ne]; omega
    go_enter Try.func10, Try.ntmps10
    go_wp2
    exact bodyPost_ret (v := .agg #[.int .i64 1, .int .i64 0]) (by simp [results, Try.results10, go_sem]) rfl ⟨rfl, alloc_below _ _⟩

theorem implBW4_c (a : Option Addr) (cap : Nat) (bs : List UInt8) (w : World) (hr : Rd w a cap bs) (h4 : bs.length = 4) :
    Calls Try.prog 10 #[.slice a 4 cap] w fun e w' => e = .returned (.agg #[.int .i64 (gwCode bs), .int .i64 (gwVal bs)]) ∧ Below w.heap.size w w' := by
  have h := implBW_c a cap bs w hr
  rw [h4] at h
  exact h
end Go.Proofs.Ytgdbbadmfddfbaa
