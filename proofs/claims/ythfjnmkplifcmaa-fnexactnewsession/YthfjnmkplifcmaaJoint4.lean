/- The contracts of the laws' own helpers on whole numbers: toInt64S copies what it reads into a row of its own; eqInt64S answers true at equal numbers; markInt64S, heldInt64S; the same on IntsResult. For at most 1048576 numbers. -/
import Derived.Test.YthfjnmkplifcmaaCopy
import Derived.Test.YthfjnmkplifcmaaInts
import Derived.Test.YthfjnmkplifcmaaPut
import Derived.Test.YthfjnmkplifcmaaJoint2
import Derived.Test.YthfjnmkplifcmaaStr
namespace Go.Proofs.Ythfjnmkplifcmaa
open Go.ChangeShapes Go.WideShapes Go.ChangeAt Go.RowKit
theorem info64 : (Try.prog.info? 2).map (fun i => (i.zero, i.size, i.bytes)) = some (some (.int .i64 0), 1, 8) := by kernel_rfl





end Go.Proofs.Ythfjnmkplifcmaa

/- The contracts of BytesWord and of what it calls, in the specification and in the program: both answer gwCode and gwVal, at every argument. -/
namespace Go.Proofs.Ythfjnmkplifcmaa
open Go.ChangeShapes Go.WideShapes Go.ChangeAt Go.RowKit

def gwCode (bs : List UInt8) : Int := if bs.length = 4 then 0 else 1
def gwVal (bs : List UInt8) : Int := if bs.length = 4 then (getB bs : Nat) else 0





end Go.Proofs.Ythfjnmkplifcmaa

/- The contracts of WordBytes and BytesWord and of what they call, in the specification and in the program: both answer the same, at every argument. -/
namespace Go.Proofs.Ythfjnmkplifcmaa
open Go.ChangeShapes Go.WideShapes Go.ChangeAt Go.RowKit



def wbCode (v : Int) : Int := if inB v 0 4294967295 then 0 else 3
def wbBytes (v : Int) : List UInt8 := if inB v 0 4294967295 then putB v.toNat 4 else []
theorem wbCode_ok {v : Int} (h : inB v 0 4294967295 = true) : wbCode v = 0 := by simp [wbCode, h]
theorem wbBytes_ok {v : Int} (h : inB v 0 4294967295 = true) : wbBytes v = putB v.toNat 4 := by simp [wbBytes, h]
theorem wbCode_no {v : Int} (h : inB v 0 4294967295 = false) : wbCode v = 3 := by simp [wbCode, h]
theorem wbBytes_no {v : Int} (h : inB v 0 4294967295 = false) : wbBytes v = [] := by simp [wbBytes, h]
theorem wbBytes_len (v : Int) : (wbBytes v).length ≤ 4 := by unfold wbBytes; split <;> simp [putB_len]

theorem Own_nil (w : World) (B : Nat) : Own w B (.slice none 0 0) [] := World.ownsRow_nil _ _ _ _



end Go.Proofs.Ythfjnmkplifcmaa

/- The contracts of SameBytes and of what it calls, in the specification and in the program: both answer whether the two slices hold the same bytes. -/
namespace Go.Proofs.Ythfjnmkplifcmaa
open Go.ChangeShapes Go.WideShapes Go.ChangeAt Go.RowKit

def sameB (a b : List UInt8) : Bool := a == b

set_option maxRecDepth 4000 in
set_option maxHeartbeats 1000000 in
theorem l1Same_c (a b : Option Addr) (ca cb : Nat) (xs bs : List UInt8) (w : World) (hra : Rd w a ca xs) (hrb : Rd w b cb bs) :
    Calls Try.prog 86 #[.slice a xs.length ca, .slice b bs.length cb] w fun e w' => e = .returned (.bool (sameB xs bs)) ∧ w' = w := by
  have e1 := run_str (P := Try.prog) hra (src := 22) (dst := 9) (e := 5) Try.underlying22 Try.underlying5 Try.underlying9
  have e2 := run_str (P := Try.prog) hrb (src := 22) (dst := 9) (e := 5) Try.underlying22 Try.underlying5 Try.underlying9
  go_enter Try.func86, Try.ntmps86
  go_wp2
  go_ret
  rw [strB_list, strB_list]
  exact ⟨rfl, rfl⟩

set_option maxRecDepth 4000 in
set_option maxHeartbeats 1000000 in
theorem bytesEqual_c (a b : Option Addr) (ca cb : Nat) (xs bs : List UInt8) (w : World) (hra : Rd w a ca xs) (hrb : Rd w b cb bs) :
    Calls Try.prog 95 #[.slice a xs.length ca, .slice b bs.length cb] w fun e w' => e = .returned (.bool (sameB xs bs)) ∧ w' = w := by
  have e1 := run_str (P := Try.prog) hra (src := 22) (dst := 9) (e := 5) Try.underlying22 Try.underlying5 Try.underlying9
  have e2 := run_str (P := Try.prog) hrb (src := 22) (dst := 9) (e := 5) Try.underlying22 Try.underlying5 Try.underlying9
  go_enter Try.func95, Try.ntmps95
  go_wp2
  go_ret
  rw [strB_list, strB_list]
  exact ⟨rfl, rfl⟩


set_option maxRecDepth 4000 in
set_option maxHeartbeats 1000000 in
theorem implSame_c (a b : Option Addr) (ca cb : Nat) (xs bs : List UInt8) (w : World) (hra : Rd w a ca xs) (hrb : Rd w b cb bs) :
    Calls Try.prog 91 #[.slice a xs.length ca, .slice b bs.length cb] w fun e w' => e = .returned (.bool (sameB xs bs)) ∧ Below w.heap.size w w' := by
  go_enter Try.func91, Try.ntmps91
  go_wp2_with fail
  refine (bytesEqual_c a b ca cb xs bs _ hra hrb).mono ?_
  rintro e w1 ⟨rfl, rfl⟩
  go_wp2
  go_ret
  exact ⟨rfl, Below.refl _ _⟩

end Go.Proofs.Ythfjnmkplifcmaa

