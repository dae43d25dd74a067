/- The contracts of the specification's l12Unpack, UnpackCert, LookCert, at every argument (written by tools/cert_t.py). What was there stays. -/
import Derived.Test.YthfjnmkplifcmaaCertS
import Derived.Test.YthfjnmkplifcmaaJoint3
import Derived.Test.YthfjnmkplifcmaaSch
import Derived.Test.YthfjnmkplifcmaaBytes
import Derived.Handy
namespace Go.Proofs.Ythfjnmkplifcmaa
open Go.ChangeShapes Go.WideShapes Go.ChangeAt Go.RowKit

abbrev aggC (r : Int × CertD) : Value := .agg #[.int .i64 r.1, .int .i64 r.2.1, .int .i64 r.2.2.1, .int .i64 r.2.2.2]
theorem wrap_u8 (x : UInt8) : wrap64 (x.toNat : Int) = x.toNat := by unfold wrap64; have := x.toNat_lt; omega
theorem getB_two (c d : UInt8) : ((getB [c, d] : Nat) : Int) = c.toNat * 256 + d.toNat := by simp [getB]
theorem ucD_bad {a b c d : UInt8} (h : okC (rdC a b c d) = false) : ucD [a, b, c, d] = (5, zC) := by show (if okC (rdC a b c d) then _ else _) = _; rw [h]; rfl
theorem ucD_good {a b c d : UInt8} (h : okC (rdC a b c d) = true) : ucD [a, b, c, d] = (0, rdC a b c d) := by show (if okC (rdC a b c d) then _ else _) = _; rw [h]; rfl
end Go.Proofs.Ythfjnmkplifcmaa

/- The contracts of the certificates in the program: isCertId, isOwner, isGiver, isCertUntil, isCert, certOf, CertsFault, PackCert, UnpackCert, LookCert, at every argument. What was there stays. -/
namespace Go.Proofs.Ythfjnmkplifcmaa
open Go.ChangeShapes Go.WideShapes Go.ChangeAt Go.RowKit

theorem isCertId_c (v : Int) (w : World) : Calls Try.prog 78 #[.int .i64 v] w fun e w' => e = .returned (.bool (inB v 1 99)) ∧ w' = w := by
  by_cases h1 : 1 ≤ v
  · by_cases h2 : v ≤ 99
    · rw [inB_true h1 h2]
      go_enter Try.func78, Try.ntmps78
      go_wp2
      go_ret
      exact ⟨rfl, rfl⟩
    · rw [inB_false (by omega)]
      go_enter Try.func78, Try.ntmps78
      go_wp2
      go_ret
      exact ⟨rfl, rfl⟩
  · rw [inB_false (by omega)]
    go_enter Try.func78, Try.ntmps78
    go_wp2
    go_ret
    exact ⟨rfl, rfl⟩
theorem isCertUntil_c (v : Int) (w : World) : Calls Try.prog 69 #[.int .i64 v] w fun e w' => e = .returned (.bool (inB v 0 9999)) ∧ w' = w := by
  by_cases h1 : 0 ≤ v
  · by_cases h2 : v ≤ 9999
    · rw [inB_true h1 h2]
      go_enter Try.func69, Try.ntmps69
      go_wp2
      go_ret
      exact ⟨rfl, rfl⟩
    · rw [inB_false (by omega)]
      go_enter Try.func69, Try.ntmps69
      go_wp2
      go_ret
      exact ⟨rfl, rfl⟩
  · rw [inB_false (by omega)]
    go_enter Try.func69, Try.ntmps69
    go_wp2
    go_ret
    exact ⟨rfl, rfl⟩
end Go.Proofs.Ythfjnmkplifcmaa

/- isKey of the program: does it have 32 bytes? -/
namespace Go.Proofs.Ythfjnmkplifcmaa
open Go.ChangeShapes Go.WideShapes Go.ChangeAt Go.RowKit

theorem isKeyR_c (p : Option Addr) (q : Nat) (bs : List UInt8) (w : World) : Calls Try.prog 73 #[.slice p bs.length q] w fun e w' => e = .returned (.bool (is32 bs)) ∧ w' = w := by
  by_cases h : bs.length = 32
  · rw [show is32 bs = true by simp [is32, h]]
    have d1 : ((bs.length : Int) == 32) = true := by rw [beq_iff_eq]; omega
    clear h
    go_enter Try.func73, Try.ntmps73
    go_wp2
    go_ret
    exact ⟨rfl, rfl⟩
  · rw [show is32 bs = false by simp [is32, h]]
    have d1 : ((bs.length : Int) == 32) = false := by rw [beq_eq_false_iff_ne]; omega
    clear h
    go_enter Try.func73, Try.ntmps73
    go_wp2
    go_ret
    exact ⟨rfl, rfl⟩
end Go.Proofs.Ythfjnmkplifcmaa

