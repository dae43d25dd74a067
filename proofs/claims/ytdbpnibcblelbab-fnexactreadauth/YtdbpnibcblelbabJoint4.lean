/- The contracts of the laws' own helpers on whole numbers: toInt64S copies what it reads into a row of its own; eqInt64S answers true at equal numbers; markInt64S, heldInt64S; the same on IntsResult. For at most 1048576 numbers. -/
import Derived.Test.YtdbpnibcblelbabCopy
import Derived.Test.YtdbpnibcblelbabInts
import Derived.Test.YtdbpnibcblelbabPut
import Derived.Test.YtdbpnibcblelbabJoint3
import Derived.Test.YtdbpnibcblelbabJoint2
import Derived.Test.YtdbpnibcblelbabSha
import Derived.Test.YtdbpnibcblelbabClass
import Derived.Deep.QuietTactic
import Derived.BigQuiet
import Derived.Deep.RegionWith
import Derived.Test.YtdbpnibcblelbabCod
namespace Go.Proofs.Ytdbpnibcblelbab
open Go.ChangeShapes Go.WideShapes Go.ChangeAt Go.RowKit
theorem info64 : (Try.prog.info? 2).map (fun i => (i.zero, i.size, i.bytes)) = some (some (.int .i64 0), 1, 8) := by kernel_rfl





end Go.Proofs.Ytdbpnibcblelbab

/- The contracts of BytesWord and of what it calls, in the specification and in the program: both answer gwCode and gwVal, at every argument. -/
namespace Go.Proofs.Ytdbpnibcblelbab
open Go.ChangeShapes Go.WideShapes Go.ChangeAt Go.RowKit

def gwCode (bs : List UInt8) : Int := if bs.length = 4 then 0 else 1
def gwVal (bs : List UInt8) : Int := if bs.length = 4 then (getB bs : Nat) else 0

set_option maxHeartbeats 1000000 in
theorem l1Get_c (a : Option Addr) (cap : Nat) (bs : List UInt8) (w : World) (hr : Rd w a cap bs) (hl : bs.length ≤ 7) :
    Calls Try.prog 28 #[.slice a bs.length cap] w fun e w' => e = .returned (.int .i64 (getB bs : Nat)) ∧ w' = w := by
  go_enter Try.func28, Try.ntmps28
  go_wp2
  go_loop [3, 4] (fun q i => ∃ k : Nat, k ≤ bs.length ∧ i = .int .i64 k ∧ q = .int .i64 (getB (bs.take k) : Nat))
    (fun _ i => bs.length - (intOf i).toNat)
  case atStart => exact ⟨0, Nat.zero_le _, rfl, by simp [getB]⟩
  case round =>
    obtain ⟨k, hk, rfl, rfl⟩ := hrel
    by_cases hlt : k < bs.length
    · obtain ⟨b, o, rfl, hc⟩ := hr.2.2.2 (by omega)
      have hcx := hc k hlt
      have HG : Hid (((getB (bs.take (k + 1)) : Nat) : Int) = (getB (bs.take k) : Int) * 256 + at8 bs k) := getB_take bs k hlt
      have hg1 : (getB (bs.take k) : Int) ≤ 281474976710656 := by
        have := Nat.lt_of_lt_of_le (getB_lt (bs.take k)) (Nat.pow_le_pow_right (by decide) (show (bs.take k).length ≤ 6 by have := List.length_take_le k bs; omega))
        omega
      have h0 := at8_lo bs k
      have h1 := at8_hi bs k
      generalize getB (bs.take k) = m at *
      generalize at8 bs k = b8 at *
      clear hc hr
      go_wp2
      go_round
      case rel => exact ⟨k + 1, by omega, by go_num, by rw [HG.out]⟩
      case measure => simp [intOf]; omega
    · have e : k = bs.length := by omega
      subst e
      rw [List.take_length]
      go_wp2
      go_ret
      exact ⟨rfl, rfl⟩

theorem l1Get_n (a : Option Addr) (cap n : Nat) (bs : List UInt8) (w : World) (hr : Rd w a cap bs) (hn : bs.length = n) (hl : n ≤ 7) :
    Calls Try.prog 28 #[.slice a n cap] w fun e w' => e = .returned (.int .i64 (getB bs : Nat)) ∧ w' = w := by
  subst hn; exact l1Get_c a cap bs w hr hl



end Go.Proofs.Ytdbpnibcblelbab

/- The contracts of WordBytes and BytesWord and of what they call, in the specification and in the program: both answer the same, at every argument. -/
namespace Go.Proofs.Ytdbpnibcblelbab
open Go.ChangeShapes Go.WideShapes Go.ChangeAt Go.RowKit



def wbCode (v : Int) : Int := if inB v 0 4294967295 then 0 else 3
def wbBytes (v : Int) : List UInt8 := if inB v 0 4294967295 then putB v.toNat 4 else []
theorem wbCode_ok {v : Int} (h : inB v 0 4294967295 = true) : wbCode v = 0 := by simp [wbCode, h]
theorem wbBytes_ok {v : Int} (h : inB v 0 4294967295 = true) : wbBytes v = putB v.toNat 4 := by simp [wbBytes, h]
theorem wbCode_no {v : Int} (h : inB v 0 4294967295 = false) : wbCode v = 3 := by simp [wbCode, h]
theorem wbBytes_no {v : Int} (h : inB v 0 4294967295 = false) : wbBytes v = [] := by simp [wbBytes, h]
theorem wbBytes_len (v : Int) : (wbBytes v).length ≤ 4 := by unfold wbBytes; split <;> simp [putB_len]

theorem Own_nil (w : World) (B : Nat) : Own w B (.slice none 0 0) [] := World.ownsRow_nil _ _ _ _



end Go.Proofs.Ytdbpnibcblelbab

/- The contracts of the laws' helpers on BytesResult: eqBytesResult answers true at equal answers; markBytesResult lays marks into the answer's own row; heldBytesResult finds them. For at most 1048576 bytes. -/
namespace Go.Proofs.Ytdbpnibcblelbab
open Go.ChangeShapes Go.WideShapes Go.ChangeAt Go.RowKit

end Go.Proofs.Ytdbpnibcblelbab

/- The contracts of SameBytes and of what it calls, in the specification and in the program: both answer whether the two slices hold the same bytes. -/
namespace Go.Proofs.Ytdbpnibcblelbab
open Go.ChangeShapes Go.WideShapes Go.ChangeAt Go.RowKit

def sameB (a b : List UInt8) : Bool := a == b





end Go.Proofs.Ytdbpnibcblelbab

/- The contracts of a round: spec.l2Round and impl.mixed (and what it calls) both answer roundN of their arguments; what was there stays. For words below 2^32. -/
namespace Go.Proofs.Ytdbpnibcblelbab
open Go.ChangeShapes Go.WideShapes Go.ChangeAt Go.RowKit

theorem i64_xor32 {a b : Nat} (ha : a < 4294967296) (hb : b < 4294967296) : bits .xor .i64 (a : Int) (b : Int) = ((a ^^^ b : Nat) : Int) := i64_xor_nat a b (by omega) (by omega)
theorem i64_and32 {a b : Nat} (ha : a < 4294967296) (hb : b < 4294967296) : bits .and .i64 (a : Int) (b : Int) = ((a &&& b : Nat) : Int) := i64_and_nat a b (by omega) (by omega)




theorem not32 (e : Nat) (h : e < 4294967296) : bits .xor .u32 IntKind.u32.max (e : Int) = ((4294967295 - e : Nat) : Int) := by
  have h1 : IntKind.u32.max = ((4294967295 : Nat) : Int) := by decide
  rw [h1, u32_xor_nat _ _ (by decide) h]
  congr 1
  have h2 : (BitVec.allOnes 32 ^^^ BitVec.ofNat 32 e).toNat = 4294967295 ^^^ e := by
    rw [BitVec.toNat_xor, BitVec.toNat_allOnes, BitVec.toNat_ofNat, Nat.mod_eq_of_lt (by omega)]
  rw [← h2, BitVec.allOnes_xor, BitVec.toNat_not, BitVec.toNat_ofNat, Nat.mod_eq_of_lt (by omega)]


end Go.Proofs.Ytdbpnibcblelbab

/- The contract of the laws' count of bytes: szByteS. -/
namespace Go.Proofs.Ytdbpnibcblelbab
open Go.ChangeShapes Go.WideShapes Go.ChangeAt Go.RowKit

end Go.Proofs.Ytdbpnibcblelbab

