/- The contracts of SameBytes and of what it calls, in the specification and in the program: both answer whether the two slices hold the same bytes. -/
import Derived.Test.YtgdbbadmfddfbaaCopy
import Derived.Test.YtgdbbadmfddfbaaStr
namespace Go.Proofs.Ytgdbbadmfddfbaa
open Go.ChangeShapes Go.WideShapes Go.ChangeAt Go.RowKit

def sameB (a b : List UInt8) : Bool := a == b

set_option maxHeartbeats 1000000 in
theorem l1Same_c (a b : Option Addr) (ca cb : Nat) (xs bs : List UInt8) (w : World) (hra : Rd w a ca xs) (hrb : Rd w b cb bs) :
    Calls Try.prog 37 #[.slice a xs.length ca, .slice b bs.length cb] w fun e w' => e = .returned (.bool (sameB xs bs)) ∧ w' = w := by
  have e1 := run_str (P := Try.prog) hra (src := 22) (dst := 9) (e := 5) Try.underlying22 Try.underlying5 Try.underlying9
  have e2 := run_str (P := Try.prog) hrb (src := 22) (dst := 9) (e := 5) Try.underlying22 Try.underlying5 Try.underlying9
  go_enter Try.func37, Try.ntmps37
  go_wp2
  go_ret
  rw [strB_list, strB_list]
  exact ⟨rfl, rfl⟩

set_option maxHeartbeats 1000000 in
theorem bytesEqual_c (a b : Option Addr) (ca cb : Nat) (xs bs : List UInt8) (w : World) (hra : Rd w a ca xs) (hrb : Rd w b cb bs) :
    Calls Try.prog 36 #[.slice a xs.length ca, .slice b bs.length cb] w fun e w' => e = .returned (.bool (sameB xs bs)) ∧ w' = w := by
  have e1 := run_str (P := Try.prog) hra (src := 22) (dst := 9) (e := 5) Try.underlying22 Try.underlying5 Try.underlying9
  have e2 := run_str (P := Try.prog) hrb (src := 22) (dst := 9) (e := 5) Try.underlying22 Try.underlying5 Try.underlying9
  go_enter Try.func36, Try.ntmps36
  go_wp2
  go_ret
  rw [strB_list, strB_list]
  exact ⟨rfl, rfl⟩

set_option maxHeartbeats 1000000 in
theorem specSame_c (a b : Option Addr) (ca cb : Nat) (xs bs : List UInt8) (w : World) (hra : Rd w a ca xs) (hrb : Rd w b cb bs) :
    Calls Try.prog 21 #[.slice a xs.length ca, .slice b bs.length cb] w fun e w' => e = .returned (.bool (sameB xs bs)) ∧ Below w.heap.size w w' := by
  go_enter Try.func21, Try.ntmps21
  go_wp2_with fail
  refine (l1Same_c a b ca cb xs bs _ hra hrb).mono ?_
  rintro e w1 ⟨rfl, rfl⟩
  go_wp2
  go_ret
  exact ⟨rfl, Below.refl _ _⟩

set_option maxHeartbeats 1000000 in
theorem implSame_c (a b : Option Addr) (ca cb : Nat) (xs bs : List UInt8) (w : World) (hra : Rd w a ca xs) (hrb : Rd w b cb bs) :
    Calls Try.prog 20 #[.slice a xs.length ca, .slice b bs.length cb] w fun e w' => e = .returned (.bool (sameB xs bs)) ∧ Below w.heap.size w w' := by
  go_enter Try.func20, Try.ntmps20
  go_wp2_with fail
  refine (bytesEqual_c a b ca cb xs bs _ hra hrb).mono ?_
  rintro e w1 ⟨rfl, rfl⟩
  go_wp2
  go_ret
  exact ⟨rfl, Below.refl _ _⟩
end Go.Proofs.Ytgdbbadmfddfbaa
