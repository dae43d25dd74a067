/- The contracts of chapter 4's functions in the specification, at every argument: StartState, StreamBlock, NonceFor: code and list or bytes. -/
import Derived.Test.YtpcgpefefklfoaaDoorXorS
namespace Go.Proofs.YtpcgpefefklfoaaDoor
open Go.ChangeShapes Go.WideShapes Go.ChangeAt Go.RowKit

/-- The code of a key, a nonce and a count. -/
def strC (key nonce : List UInt8) (count : Int) : Int := if key.length = 32 then (if nonce.length = 12 then (if inB count 0 4294967295 then 0 else 3) else 1) else 1
theorem strC_zero {key nonce : List UInt8} {count : Int} (h : strC key nonce count = 0) : key.length = 32 ∧ nonce.length = 12 ∧ inB count 0 4294967295 = true := by
  unfold strC at h
  split at h
  · rename_i h1
    split at h
    · rename_i h2
      split at h
      · rename_i h3
        exact ⟨h1, h2, h3⟩
      · cases h
    · cases h
  · cases h
theorem nat32 {n : Int} (h : inB n 0 4294967295 = true) : ∃ m : Nat, n = m ∧ m < 4294967296 := by
  simp [inB] at h
  exact ⟨n.toNat, by omega, by omega⟩

set_option maxRecDepth 4000 in
set_option maxHeartbeats 1000000 in
theorem l4Fault_c (p p2 : Option Addr) (q q2 : Nat) (key nonce : List UInt8) (count : Int) (w : World) :
    Calls Tryd.prog 60 #[.slice p key.length q, .slice p2 nonce.length q2, .int .i64 count] w fun e w' => e = .returned (.int .i64 (strC key nonce count)) ∧ w' = w := by
  by_cases h1 : key.length = 32
  · have d1 : ((key.length : Int) != 32) = false := by rw [bne_eq_false_iff_eq]; omega
    by_cases h2 : nonce.length = 12
    · have d2 : ((nonce.length : Int) != 12) = false := by rw [bne_eq_false_iff_eq]; omega
      cases h3 : inB count 0 4294967295
      · rw [show strC key nonce count = 3 by simp [strC, h1, h2, h3]]
        clear h1 h2
        go_enter Tryd.func60, Tryd.ntmps60
        go_wp2_with fail
        refine (l1Word_c _ _).mono ?_
        rintro e w' ⟨rfl, rfl⟩
        rw [h3]
        go_wp2
        go_ret
        exact ⟨rfl, rfl⟩
      · rw [show strC key nonce count = 0 by simp [strC, h1, h2, h3]]
        clear h1 h2
        go_enter Tryd.func60, Tryd.ntmps60
        go_wp2_with fail
        refine (l1Word_c _ _).mono ?_
        rintro e w' ⟨rfl, rfl⟩
        rw [h3]
        go_wp2
        go_ret
        exact ⟨rfl, rfl⟩
    · have d2 : ((nonce.length : Int) != 12) = true := by rw [bne_iff_ne]; omega
      rw [show strC key nonce count = 1 by simp [strC, h1, h2]]
      clear h1 h2
      go_enter Tryd.func60, Tryd.ntmps60
      go_wp2
      go_ret
      exact ⟨rfl, rfl⟩
  · have d1 : ((key.length : Int) != 32) = true := by rw [bne_iff_ne]; omega
    rw [show strC key nonce count = 1 by simp [strC, h1]]
    clear h1
    go_enter Tryd.func60, Tryd.ntmps60
    go_wp2
    go_ret
    exact ⟨rfl, rfl⟩

def ssL (key nonce : List UInt8) (count : Int) : List Int := if strC key nonce count = 0 then (startS key nonce count.toNat).map Int.ofNat else []
theorem ssL_len (key nonce : List UInt8) (count : Int) : (ssL key nonce count).length ≤ 1048576 := by
  unfold ssL; split
  · rw [List.length_map, startS_len]; decide
  · simp
def sbL (key nonce : List UInt8) (count : Int) : List UInt8 := if strC key nonce count = 0 then blockS key nonce count.toNat else []
theorem sbL_len (key nonce : List UInt8) (count : Int) : (sbL key nonce count).length ≤ 1048576 := by
  unfold sbL; split
  · rw [blockS_len]; decide
  · simp



def nfC (base : List UInt8) (seq : Int) : Int := if base.length = 12 then (if inB seq 0 2147483648 then 0 else 3) else 1
def nfL (base : List UInt8) (seq : Int) : List UInt8 := if base.length = 12 ∧ inB seq 0 2147483648 = true then nonceN base seq.toNat else []
theorem nfL_len (base : List UInt8) (seq : Int) : (nfL base seq).length ≤ 1048576 := by
  unfold nfL; split
  · rw [nonceN_len]; decide
  · simp

end Go.Proofs.YtpcgpefefklfoaaDoor

