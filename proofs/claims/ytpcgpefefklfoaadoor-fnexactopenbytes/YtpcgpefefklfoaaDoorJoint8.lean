/- The contracts of chapter 4's functions in the specification, at every argument: StartState, StreamBlock, NonceFor: code and list or bytes. -/
import Derived.Test.YtpcgpefefklfoaaDoorXorS
import Derived.Test.YtpcgpefefklfoaaDoorXorM
import Derived.Test.YtpcgpefefklfoaaDoorJoint5
namespace Go.Proofs.YtpcgpefefklfoaaDoor
open Go.ChangeShapes Go.WideShapes Go.ChangeAt Go.RowKit

/-- The code of a key, a nonce and a count. -/
def strC (key nonce : List UInt8) (count : Int) : Int := if key.length = 32 then (if nonce.length = 12 then (if inB count 0 4294967295 then 0 else 3) else 1) else 1
theorem strC_zero {key nonce : List UInt8} {count : Int} (h : strC key nonce count = 0) : key.length = 32 ∧ nonce.length = 12 ∧ inB count 0 4294967295 = true := by
  unfold strC at h
  split at h
  · rename_i h1
    split at h
    · rename_i h2
      split at h
      · rename_i h3
        exact ⟨h1, h2, h3⟩
      · cases h
    · cases h
  · cases h
theorem nat32 {n : Int} (h : inB n 0 4294967295 = true) : ∃ m : Nat, n = m ∧ m < 4294967296 := by
  simp [inB] at h
  exact ⟨n.toNat, by omega, by omega⟩

set_option maxRecDepth 4000 in
set_option maxHeartbeats 1000000 in
theorem l4Fault_c (p p2 : Option Addr) (q q2 : Nat) (key nonce : List UInt8) (count : Int) (w : World) :
    Calls Tryd.prog 60 #[.slice p key.length q, .slice p2 nonce.length q2, .int .i64 count] w fun e w' => e = .returned (.int .i64 (strC key nonce count)) ∧ w' = w := by
  by_cases h1 : key.length = 32
  · have d1 : ((key.length : Int) != 32) = false := by rw [bne_eq_false_iff_eq]; omega
    by_cases h2 : nonce.length = 12
    · have d2 : ((nonce.length : Int) != 12) = false := by rw [bne_eq_false_iff_eq]; omega
      cases h3 : inB count 0 4294967295
      · rw [show strC key nonce count = 3 by simp [strC, h1, h2, h3]]
        clear h1 h2
        go_enter Tryd.func60, Tryd.ntmps60
        go_wp2_with fail
        refine (l1Word_c _ _).mono ?_
        rintro e w' ⟨rfl, rfl⟩
        rw [h3]
        go_wp2
        go_ret
        exact ⟨rfl, rfl⟩
      · rw [show strC key nonce count = 0 by simp [strC, h1, h2, h3]]
        clear h1 h2
        go_enter Tryd.func60, Tryd.ntmps60
        go_wp2_with fail
        refine (l1Word_c _ _).mono ?_
        rintro e w' ⟨rfl, rfl⟩
        rw [h3]
        go_wp2
        go_ret
        exact ⟨rfl, rfl⟩
    · have d2 : ((nonce.length : Int) != 12) = true := by rw [bne_iff_ne]; omega
      rw [show strC key nonce count = 1 by simp [strC, h1, h2]]
      clear h1 h2
      go_enter Tryd.func60, Tryd.ntmps60
      go_wp2
      go_ret
      exact ⟨rfl, rfl⟩
  · have d1 : ((key.length : Int) != 32) = true := by rw [bne_iff_ne]; omega
    rw [show strC key nonce count = 1 by simp [strC, h1]]
    clear h1
    go_enter Tryd.func60, Tryd.ntmps60
    go_wp2
    go_ret
    exact ⟨rfl, rfl⟩

def ssL (key nonce : List UInt8) (count : Int) : List Int := if strC key nonce count = 0 then (startS key nonce count.toNat).map Int.ofNat else []
theorem ssL_len (key nonce : List UInt8) (count : Int) : (ssL key nonce count).length ≤ 1048576 := by
  unfold ssL; split
  · rw [List.length_map, startS_len]; decide
  · simp
def sbL (key nonce : List UInt8) (count : Int) : List UInt8 := if strC key nonce count = 0 then blockS key nonce count.toNat else []
theorem sbL_len (key nonce : List UInt8) (count : Int) : (sbL key nonce count).length ≤ 1048576 := by
  unfold sbL; split
  · rw [blockS_len]; decide
  · simp



def nfC (base : List UInt8) (seq : Int) : Int := if base.length = 12 then (if inB seq 0 2147483648 then 0 else 3) else 1
def nfL (base : List UInt8) (seq : Int) : List UInt8 := if base.length = 12 ∧ inB seq 0 2147483648 = true then nonceN base seq.toNat else []
theorem nfL_len (base : List UInt8) (seq : Int) : (nfL base seq).length ≤ 1048576 := by
  unfold nfL; split
  · rw [nonceN_len]; decide
  · simp

end Go.Proofs.YtpcgpefefklfoaaDoor

/- The contracts of StreamXor and QuarterRound in the specification, at every argument: code and bytes or list. -/
namespace Go.Proofs.YtpcgpefefklfoaaDoor
open Go.ChangeShapes Go.WideShapes Go.ChangeAt Go.RowKit

def sxC (key nonce data : List UInt8) : Int := if strC key nonce 0 = 0 then (if data.length ≤ 220 then 0 else 2) else 1
def sxL (key nonce data : List UInt8) : List UInt8 := if sxC key nonce data = 0 then hideN key nonce data else []
theorem strC_one {key nonce : List UInt8} (h : ¬ strC key nonce 0 = 0) : strC key nonce 0 = 1 := by
  have hi : inB 0 0 4294967295 = true := by decide
  unfold strC at *
  rw [hi] at *
  split
  · rename_i h1
    rw [if_pos h1] at h
    split
    · rename_i h2
      rw [if_pos h2] at h
      exact absurd rfl h
    · rfl
  · rfl
theorem sxC_zero {key nonce data : List UInt8} (h : sxC key nonce data = 0) : strC key nonce 0 = 0 ∧ data.length ≤ 220 := by
  unfold sxC at h
  split at h
  · rename_i h1
    split at h
    · rename_i h2
      exact ⟨h1, h2⟩
    · cases h
  · cases h
theorem sxL_len (key nonce data : List UInt8) : (sxL key nonce data).length ≤ 1048576 := by
  unfold sxL; split
  · rename_i h
    rw [hideN_len]
    have := (sxC_zero h).2
    omega
  · simp


def in16 (a : Int) : Bool := inB a 0 15
def qrOk (l : List Int) (a b c d : Int) : Bool := l.all isW && (in16 a && (in16 b && (in16 c && in16 d)))
def qrSame (a b c d : Int) : Bool := (a == b) || ((a == c) || ((a == d) || ((b == c) || ((b == d) || (c == d)))))
def qrC (l : List Int) (a b c d : Int) : Int := if l.length = 16 then (if qrOk l a b c d then (if qrSame a b c d then 1 else 0) else 3) else 1
def qrL (l : List Int) (a b c d : Int) : List Int := if qrC l a b c d = 0 then (quarterN (l.map Int.toNat) a.toNat b.toNat c.toNat d.toNat).map Int.ofNat else []
theorem qrC_zero {l : List Int} {a b c d : Int} (h : qrC l a b c d = 0) : l.length = 16 ∧ qrOk l a b c d = true ∧ qrSame a b c d = false := by
  unfold qrC at h
  split at h
  · rename_i h1
    split at h
    · rename_i h2
      split at h
      · cases h
      · rename_i h3
        exact ⟨h1, h2, by simpa using h3⟩
    · cases h
  · cases h
theorem qrL_len (l : List Int) (a b c d : Int) : (qrL l a b c d).length ≤ 1048576 := by
  unfold qrL; split
  · rename_i h
    rw [List.length_map, quarterN_len, List.length_map, (qrC_zero h).1]; decide
  · simp

theorem nat16 {a : Int} (h : in16 a = true) : ∃ n : Nat, a = n ∧ n < 16 := by
  simp [in16, inB] at h
  exact ⟨a.toNat, by omega, by omega⟩
theorem nat_words {l : List Int} (h : l.all isW = true) : (l.map Int.toNat).map Int.ofNat = l ∧ Words (l.map Int.toNat) := by
  constructor
  · rw [List.map_map]
    conv => rhs; rw [← List.map_id l]
    apply List.map_congr_left
    intro x hx
    have h2 := (List.all_eq_true.1 h) x hx
    simp [isW, inB] at h2
    simp
    omega
  · intro y hy
    obtain ⟨x, hx, rfl⟩ := List.mem_map.1 hy
    have h2 := (List.all_eq_true.1 h) x hx
    simp [isW, inB] at h2
    omega

end Go.Proofs.YtpcgpefefklfoaaDoor

