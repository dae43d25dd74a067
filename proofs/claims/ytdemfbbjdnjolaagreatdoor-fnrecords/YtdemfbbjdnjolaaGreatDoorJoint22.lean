/- The contract of lwBig: codes of more than 1048576 bytes are passed by. -/
import Derived.Test.YtdemfbbjdnjolaaGreatDoorRows
import Derived.Test.YtdemfbbjdnjolaaGreatDoorJoint1
import Derived.ProofKit
import Derived.OpenShut
import Derived.Test.YtdemfbbjdnjolaaGreatDoorJoint5
import Derived.Test.YtdemfbbjdnjolaaGreatDoorJoint9
namespace Go.Proofs.YtdemfbbjdnjolaaGreatDoor
open Go.ChangeShapes Go.WideShapes Go.ChangeAt Go.RowKit

set_option maxRecDepth 4000 in
set_option maxHeartbeats 400000 in
theorem lwBig_yes (a : Option Addr) (n cap : Nat) (w : World) (h : 1048576 < n) :
    Calls Tryz.prog 5 #[.slice a n cap] w fun e w' => e = .returned (.bool true) ∧ w' = w := by
  have h' : (1048576 : Int) < (n : Int) := by omega
  go_enter Tryz.func5, Tryz.ntmps5
  go_wp2
  go_ret
  exact ⟨rfl, rfl⟩
set_option maxRecDepth 4000 in
set_option maxHeartbeats 400000 in
theorem lwBig_no (a : Option Addr) (n cap : Nat) (w : World) (h : n ≤ 1048576) :
    Calls Tryz.prog 5 #[.slice a n cap] w fun e w' => e = .returned (.bool false) ∧ w' = w := by
  have h' : (n : Int) ≤ 1048576 := by omega
  go_enter Tryz.func5, Tryz.ntmps5
  go_wp2
  go_ret
  refine ⟨?_, rfl⟩
  show Ending.returned (.bool (decide _)) = _
  rw [decide_eq_false (by omega)]
end Go.Proofs.YtdemfbbjdnjolaaGreatDoor

/- The contract of laws.lwSame: whether the two slices hold the same bytes. -/
namespace Go.Proofs.YtdemfbbjdnjolaaGreatDoor
open Go.ChangeShapes Go.WideShapes Go.ChangeAt Go.RowKit

set_option maxRecDepth 4000 in
set_option maxHeartbeats 1000000 in
theorem lwSame_c (a b : Option Addr) (ca cb : Nat) (xs bs : List UInt8) (w : World) (hra : Rd w a ca xs) (hrb : Rd w b cb bs) :
    Calls Tryz.prog 12 #[.slice a xs.length ca, .slice b bs.length cb] w fun e w' => e = .returned (.bool (xs == bs)) ∧ w' = w := by
  have e1 := run_str (P := Tryz.prog) hra (src := 22) (dst := 9) (e := 5) Tryz.underlying22 Tryz.underlying5 Tryz.underlying9
  have e2 := run_str (P := Tryz.prog) hrb (src := 22) (dst := 9) (e := 5) Tryz.underlying22 Tryz.underlying5 Tryz.underlying9
  go_enter Tryz.func12, Tryz.ntmps12
  go_wp2
  go_ret
  rw [strB_list, strB_list]
  exact ⟨rfl, rfl⟩
theorem lwSame_yes (a b : Option Addr) (ca cb n m : Nat) (bs : List UInt8) (w : World) (hn : bs.length = n) (hm : bs.length = m) (hra : Rd w a ca bs) (hrb : Rd w b cb bs) :
    Calls Tryz.prog 12 #[.slice a n ca, .slice b m cb] w fun e w' => e = .returned (.bool true) ∧ w' = w := by
  subst hn hm
  refine (lwSame_c a b ca cb bs bs w hra hrb).mono ?_
  rintro e w' ⟨rfl, rfl⟩
  exact ⟨by simp, rfl⟩
end Go.Proofs.YtdemfbbjdnjolaaGreatDoor

