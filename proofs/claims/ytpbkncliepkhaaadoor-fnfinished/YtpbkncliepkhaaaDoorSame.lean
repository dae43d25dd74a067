/- The contracts of SameBytes and of what it calls, in the specification and in the program: both answer whether the two slices hold the same bytes. -/
import Derived.Test.YtpbkncliepkhaaaDoorCopy
import Derived.Test.YtpbkncliepkhaaaDoorJoint5
namespace Go.Proofs.YtpbkncliepkhaaaDoor
open Go.ChangeShapes Go.WideShapes Go.ChangeAt Go.RowKit

def sameB (a b : List UInt8) : Bool := a == b

set_option maxRecDepth 4000 in
set_option maxHeartbeats 1000000 in
theorem l1Same_c (a b : Option Addr) (ca cb : Nat) (xs bs : List UInt8) (w : World) (hra : Rd w a ca xs) (hrb : Rd w b cb bs) :
    Calls Tryd.prog 34 #[.slice a xs.length ca, .slice b bs.length cb] w fun e w' => e = .returned (.bool (sameB xs bs)) ∧ w' = w := by
  have e1 := run_str (P := Tryd.prog) hra (src := 22) (dst := 9) (e := 5) Tryd.underlying22 Tryd.underlying5 Tryd.underlying9
  have e2 := run_str (P := Tryd.prog) hrb (src := 22) (dst := 9) (e := 5) Tryd.underlying22 Tryd.underlying5 Tryd.underlying9
  go_enter Tryd.func34, Tryd.ntmps34
  go_wp2
  go_ret
  rw [strB_list, strB_list]
  exact ⟨rfl, rfl⟩

set_option maxRecDepth 4000 in
set_option maxHeartbeats 1000000 in
theorem bytesEqual_c (a b : Option Addr) (ca cb : Nat) (xs bs : List UInt8) (w : World) (hra : Rd w a ca xs) (hrb : Rd w b cb bs) :
    Calls Tryd.prog 54 #[.slice a xs.length ca, .slice b bs.length cb] w fun e w' => e = .returned (.bool (sameB xs bs)) ∧ w' = w := by
  have e1 := run_str (P := Tryd.prog) hra (src := 22) (dst := 9) (e := 5) Tryd.underlying22 Tryd.underlying5 Tryd.underlying9
  have e2 := run_str (P := Tryd.prog) hrb (src := 22) (dst := 9) (e := 5) Tryd.underlying22 Tryd.underlying5 Tryd.underlying9
  go_enter Tryd.func54, Tryd.ntmps54
  go_wp2
  go_ret
  rw [strB_list, strB_list]
  exact ⟨rfl, rfl⟩


set_option maxRecDepth 4000 in
set_option maxHeartbeats 1000000 in
theorem implSame_c (a b : Option Addr) (ca cb : Nat) (xs bs : List UInt8) (w : World) (hra : Rd w a ca xs) (hrb : Rd w b cb bs) :
    Calls Tryd.prog 30 #[.slice a xs.length ca, .slice b bs.length cb] w fun e w' => e = .returned (.bool (sameB xs bs)) ∧ Below w.heap.size w w' := by
  go_enter Tryd.func30, Tryd.ntmps30
  go_wp2_with fail
  refine (bytesEqual_c a b ca cb xs bs _ hra hrb).mono ?_
  rintro e w1 ⟨rfl, rfl⟩
  go_wp2
  go_ret
  exact ⟨rfl, Below.refl _ _⟩

end Go.Proofs.YtpbkncliepkhaaaDoor

