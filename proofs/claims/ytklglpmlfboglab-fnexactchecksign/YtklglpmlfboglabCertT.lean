/- The contracts of the specification's l12Unpack, UnpackCert, LookCert, at every argument (written by tools/cert_t.py). What was there stays. -/
import Derived.Test.YtklglpmlfboglabCertS
import Derived.Test.YtklglpmlfboglabStoreR
namespace Go.Proofs.Ytklglpmlfboglab
open Go.ChangeShapes Go.WideShapes Go.ChangeAt Go.RowKit

abbrev aggC (r : Int × CertD) : Value := .agg #[.int .i64 r.1, .int .i64 r.2.1, .int .i64 r.2.2.1, .int .i64 r.2.2.2]
theorem wrap_u8 (x : UInt8) : wrap64 (x.toNat : Int) = x.toNat := by unfold wrap64; have := x.toNat_lt; omega
theorem getB_two (c d : UInt8) : ((getB [c, d] : Nat) : Int) = c.toNat * 256 + d.toNat := by simp [getB]
theorem ucD_bad {a b c d : UInt8} (h : okC (rdC a b c d) = false) : ucD [a, b, c, d] = (5, zC) := by show (if okC (rdC a b c d) then _ else _) = _; rw [h]; rfl
theorem ucD_good {a b c d : UInt8} (h : okC (rdC a b c d) = true) : ucD [a, b, c, d] = (0, rdC a b c d) := by show (if okC (rdC a b c d) then _ else _) = _; rw [h]; rfl
end Go.Proofs.Ytklglpmlfboglab

