/- The contracts of SameBytes and of what it calls, in the specification and in the program: both answer whether the two slices hold the same bytes. -/
import Derived.Test.YtoneggbbfjenpabCopy
import Derived.Test.YtoneggbbfjenpabStr
namespace Go.Proofs.Ytoneggbbfjenpab
open Go.ChangeShapes Go.WideShapes Go.ChangeAt Go.RowKit

def sameB (a b : List UInt8) : Bool := a == b

set_option maxRecDepth 4000 in
set_option maxHeartbeats 1000000 in
theorem l1Same_c (a b : Option Addr) (ca cb : Nat) (xs bs : List UInt8) (w : World) (hra : Rd w a ca xs) (hrb : Rd w b cb bs) :
    Calls Try.prog 36 #[.slice a xs.length ca, .slice b bs.length cb] w fun e w' => e = .returned (.bool (sameB xs bs)) ∧ w' = w := by
  have e1 := run_str (P := Try.prog) hra (src := 24) (dst := 9) (e := 5) Try.underlying24 Try.underlying5 Try.underlying9
  have e2 := run_str (P := Try.prog) hrb (src := 24) (dst := 9) (e := 5) Try.underlying24 Try.underlying5 Try.underlying9
  go_enter Try.func36, Try.ntmps36
  go_wp2
  go_ret
  rw [strB_list, strB_list]
  exact ⟨rfl, rfl⟩

set_option maxRecDepth 4000 in
set_option maxHeartbeats 1000000 in
theorem bytesEqual_c (a b : Option Addr) (ca cb : Nat) (xs bs : List UInt8) (w : World) (hra : Rd w a ca xs) (hrb : Rd w b cb bs) :
    Calls Try.prog 47 #[.slice a xs.length ca, .slice b bs.length cb] w fun e w' => e = .returned (.bool (sameB xs bs)) ∧ w' = w := by
  have e1 := run_str (P := Try.prog) hra (src := 24) (dst := 9) (e := 5) Try.underlying24 Try.underlying5 Try.underlying9
  have e2 := run_str (P := Try.prog) hrb (src := 24) (dst := 9) (e := 5) Try.underlying24 Try.underlying5 Try.underlying9
  go_enter Try.func47, Try.ntmps47
  go_wp2
  go_ret
  rw [strB_list, strB_list]
  exact ⟨rfl, rfl⟩


set_option maxRecDepth 4000 in
set_option maxHeartbeats 1000000 in
theorem implSame_c (a b : Option Addr) (ca cb : Nat) (xs bs : List UInt8) (w : World) (hra : Rd w a ca xs) (hrb : Rd w b cb bs) :
    Calls Try.prog 46 #[.slice a xs.length ca, .slice b bs.length cb] w fun e w' => e = .returned (.bool (sameB xs bs)) ∧ Below w.heap.size w w' := by
  go_enter Try.func46, Try.ntmps46
  go_wp2_with fail
  refine (bytesEqual_c a b ca cb xs bs _ hra hrb).mono ?_
  rintro e w1 ⟨rfl, rfl⟩
  go_wp2
  go_ret
  exact ⟨rfl, Below.refl _ _⟩

end Go.Proofs.Ytoneggbbfjenpab
