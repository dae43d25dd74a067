/- What the walks of FnHellos and FnFinished share: a message answer's fields, a list of one message. -/
import Derived.Test.YtpbkncliepkhaaaDoorArr
import Derived.Test.YtpbkncliepkhaaaDoorMsgC
import Derived.Test.YtpbkncliepkhaaaDoorRows
import Derived.Test.YtpbkncliepkhaaaDoorBytes
import Derived.ProofKit
import Derived.OpenShut
import Derived.Test.YtpbkncliepkhaaaDoorCopy
import Derived.Test.YtpbkncliepkhaaaDoorJoint5
namespace Go.Proofs.YtpbkncliepkhaaaDoor
open Go.ChangeShapes Go.WideShapes Go.ChangeAt Go.RowKit

theorem mres_f0 (c k : Int) (a : Option Addr) (n m : Nat) (w : World) : (Instr.field 30 (.agg #[.int .i64 c, .int .i64 k, .slice a n m]) 0).run Tryd.prog w = .ok (.int .i64 c) w := by kernel_rfl
theorem mres_f1 (c k : Int) (a : Option Addr) (n m : Nat) (w : World) : (Instr.field 30 (.agg #[.int .i64 c, .int .i64 k, .slice a n m]) 1).run Tryd.prog w = .ok (.agg #[.int .i64 k, .slice a n m]) w := by kernel_rfl
theorem rdL_one (w : World) (k : Int) (p : Option Addr) (q : Nat) (bs : List UInt8) (r : Rd w p q bs) : RdL msgC (w.alloc (.cells #[.int .i64 k, .slice p bs.length q] 26)) (some ⟨w.heap.size, 0, none⟩) 1 [(k, bs)] := by
  have A := Arr.new w [.int .i64 k, .slice p bs.length q] 26
  refine ⟨Nat.le_refl _, by unfold maxLen; omega, (fun e => by cases e), fun _ => ⟨w.heap.size, 0, rfl, fun i a hi => ?_⟩⟩
  have h0 : i = 0 := by
    have := (List.getElem?_eq_some_iff.1 hi).1
    simp at this
    exact this
  subst h0
  cases hi
  refine ⟨_, msg_mk (a := (k, bs)) (r.keep (alloc_below w _)), fun j u hj => ?_⟩
  rw [Nat.zero_mul, Nat.zero_add]
  exact (A.cell j).trans hj
end Go.Proofs.YtpbkncliepkhaaaDoor

/- The contract of lwBig: codes of more than 1048576 bytes are passed by. -/
namespace Go.Proofs.YtpbkncliepkhaaaDoor
open Go.ChangeShapes Go.WideShapes Go.ChangeAt Go.RowKit

set_option maxRecDepth 4000 in
set_option maxHeartbeats 400000 in
theorem lwBig_yes (a : Option Addr) (n cap : Nat) (w : World) (h : 1048576 < n) :
    Calls Tryd.prog 5 #[.slice a n cap] w fun e w' => e = .returned (.bool true) ∧ w' = w := by
  have h' : (1048576 : Int) < (n : Int) := by omega
  go_enter Tryd.func5, Tryd.ntmps5
  go_wp2
  go_ret
  exact ⟨rfl, rfl⟩
set_option maxRecDepth 4000 in
set_option maxHeartbeats 400000 in
theorem lwBig_no (a : Option Addr) (n cap : Nat) (w : World) (h : n ≤ 1048576) :
    Calls Tryd.prog 5 #[.slice a n cap] w fun e w' => e = .returned (.bool false) ∧ w' = w := by
  have h' : (n : Int) ≤ 1048576 := by omega
  go_enter Tryd.func5, Tryd.ntmps5
  go_wp2
  go_ret
  refine ⟨?_, rfl⟩
  show Ending.returned (.bool (decide _)) = _
  rw [decide_eq_false (by omega)]
end Go.Proofs.YtpbkncliepkhaaaDoor

/- The contract of laws.lwSame: whether the two slices hold the same bytes. -/
namespace Go.Proofs.YtpbkncliepkhaaaDoor
open Go.ChangeShapes Go.WideShapes Go.ChangeAt Go.RowKit

set_option maxRecDepth 4000 in
set_option maxHeartbeats 1000000 in
theorem lwSame_c (a b : Option Addr) (ca cb : Nat) (xs bs : List UInt8) (w : World) (hra : Rd w a ca xs) (hrb : Rd w b cb bs) :
    Calls Tryd.prog 13 #[.slice a xs.length ca, .slice b bs.length cb] w fun e w' => e = .returned (.bool (xs == bs)) ∧ w' = w := by
  have e1 := run_str (P := Tryd.prog) hra (src := 22) (dst := 9) (e := 5) Tryd.underlying22 Tryd.underlying5 Tryd.underlying9
  have e2 := run_str (P := Tryd.prog) hrb (src := 22) (dst := 9) (e := 5) Tryd.underlying22 Tryd.underlying5 Tryd.underlying9
  go_enter Tryd.func13, Tryd.ntmps13
  go_wp2
  go_ret
  rw [strB_list, strB_list]
  exact ⟨rfl, rfl⟩
theorem lwSame_yes (a b : Option Addr) (ca cb n m : Nat) (bs : List UInt8) (w : World) (hn : bs.length = n) (hm : bs.length = m) (hra : Rd w a ca bs) (hrb : Rd w b cb bs) :
    Calls Tryd.prog 13 #[.slice a n ca, .slice b m cb] w fun e w' => e = .returned (.bool true) ∧ w' = w := by
  subst hn hm
  refine (lwSame_c a b ca cb bs bs w hra hrb).mono ?_
  rintro e w' ⟨rfl, rfl⟩
  exact ⟨by simp, rfl⟩
end Go.Proofs.YtpbkncliepkhaaaDoor

