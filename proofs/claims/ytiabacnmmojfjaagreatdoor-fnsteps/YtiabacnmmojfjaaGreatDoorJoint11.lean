/- How EndResult lies in memory, and the contracts of the laws' helpers on it (written by tools/codgen.py). -/
import Derived.Test.YtiabacnmmojfjaaGreatDoorJoint8
import Derived.Test.YtiabacnmmojfjaaGreatDoorJoint10
import Derived.Test.YtiabacnmmojfjaaGreatDoorJoint4
import Derived.Test.YtiabacnmmojfjaaGreatDoorJoint7
import Derived.Deep.AppendLies
import Derived.Test.YtiabacnmmojfjaaGreatDoorJoint3
namespace Go.Proofs.YtiabacnmmojfjaaGreatDoor
open Go.ChangeShapes Go.WideShapes Go.ChangeAt Go.RowKit

abbrev EndResultD := Int × EndD × List MsgD
def endResultC : Cod EndResultD := prodC (intC .i64) (prodC endC msgsC)
theorem endResult_rep {w : World} {a : EndResultD} {vs : List Value} (h : endResultC.rep w a vs) : ∃ p2_1_2 q2_1_2 p2_1_4 q2_1_4 p2_4 q2_4 p2_5 q2_5 p2_6_1 q2_6_1 p2_6_2 q2_6_2 p2_6_3 q2_6_3 p2_6_4 q2_6_4 p3 q3, vs = [.int .i64 a.1, .int .i64 a.2.1.1.1, .slice p2_1_2 a.2.1.1.2.1.length q2_1_2, .int .i64 a.2.1.1.2.2.1, .slice p2_1_4 a.2.1.1.2.2.2.length q2_1_4, .int .i64 a.2.1.2.1, .int .i64 a.2.1.2.2.1, .slice p2_4 a.2.1.2.2.2.1.length q2_4, .slice p2_5 a.2.1.2.2.2.2.1.length q2_5, .slice p2_6_1 a.2.1.2.2.2.2.2.1.length q2_6_1, .slice p2_6_2 a.2.1.2.2.2.2.2.2.1.length q2_6_2, .slice p2_6_3 a.2.1.2.2.2.2.2.2.2.1.length q2_6_3, .slice p2_6_4 a.2.1.2.2.2.2.2.2.2.2.length q2_6_4, .slice p3 a.2.2.length q3] ∧ Rd w p2_1_2 q2_1_2 a.2.1.1.2.1 ∧ Rd w p2_1_4 q2_1_4 a.2.1.1.2.2.2 ∧ RdL msgC w p2_4 q2_4 a.2.1.2.2.2.1 ∧ Rd w p2_5 q2_5 a.2.1.2.2.2.2.1 ∧ Rd w p2_6_1 q2_6_1 a.2.1.2.2.2.2.2.1 ∧ Rd w p2_6_2 q2_6_2 a.2.1.2.2.2.2.2.2.1 ∧ Rd w p2_6_3 q2_6_3 a.2.1.2.2.2.2.2.2.2.1 ∧ Rd w p2_6_4 q2_6_4 a.2.1.2.2.2.2.2.2.2.2 ∧ RdL msgC w p3 q3 a.2.2 := by
  obtain ⟨us0, ts0, rfl, h0, us1, ts1, rfl, h1, h2⟩ := h
  have e0 : us0 = [Value.int .i64 _] := h0
  subst e0
  obtain ⟨p2_1_2, q2_1_2, p2_1_4, q2_1_4, p2_4, q2_4, p2_5, q2_5, p2_6_1, q2_6_1, p2_6_2, q2_6_2, p2_6_3, q2_6_3, p2_6_4, q2_6_4, rfl, r2_1_2, r2_1_4, r2_4, r2_5, r2_6_1, r2_6_2, r2_6_3, r2_6_4⟩ := end_rep h1
  obtain ⟨p3, q3, rfl, r3⟩ := h2
  exact ⟨p2_1_2, q2_1_2, p2_1_4, q2_1_4, p2_4, q2_4, p2_5, q2_5, p2_6_1, q2_6_1, p2_6_2, q2_6_2, p2_6_3, q2_6_3, p2_6_4, q2_6_4, p3, q3, rfl, r2_1_2, r2_1_4, r2_4, r2_5, r2_6_1, r2_6_2, r2_6_3, r2_6_4, r3⟩
theorem endResult_mk {w : World} {a : EndResultD} {p2_1_2 : Option Addr} {q2_1_2 : Nat} {p2_1_4 : Option Addr} {q2_1_4 : Nat} {p2_4 : Option Addr} {q2_4 : Nat} {p2_5 : Option Addr} {q2_5 : Nat} {p2_6_1 : Option Addr} {q2_6_1 : Nat} {p2_6_2 : Option Addr} {q2_6_2 : Nat} {p2_6_3 : Option Addr} {q2_6_3 : Nat} {p2_6_4 : Option Addr} {q2_6_4 : Nat} {p3 : Option Addr} {q3 : Nat} (r2_1_2 : Rd w p2_1_2 q2_1_2 a.2.1.1.2.1) (r2_1_4 : Rd w p2_1_4 q2_1_4 a.2.1.1.2.2.2) (r2_4 : RdL msgC w p2_4 q2_4 a.2.1.2.2.2.1) (r2_5 : Rd w p2_5 q2_5 a.2.1.2.2.2.2.1) (r2_6_1 : Rd w p2_6_1 q2_6_1 a.2.1.2.2.2.2.2.1) (r2_6_2 : Rd w p2_6_2 q2_6_2 a.2.1.2.2.2.2.2.2.1) (r2_6_3 : Rd w p2_6_3 q2_6_3 a.2.1.2.2.2.2.2.2.2.1) (r2_6_4 : Rd w p2_6_4 q2_6_4 a.2.1.2.2.2.2.2.2.2.2) (r3 : RdL msgC w p3 q3 a.2.2) : endResultC.rep w a [.int .i64 a.1, .int .i64 a.2.1.1.1, .slice p2_1_2 a.2.1.1.2.1.length q2_1_2, .int .i64 a.2.1.1.2.2.1, .slice p2_1_4 a.2.1.1.2.2.2.length q2_1_4, .int .i64 a.2.1.2.1, .int .i64 a.2.1.2.2.1, .slice p2_4 a.2.1.2.2.2.1.length q2_4, .slice p2_5 a.2.1.2.2.2.2.1.length q2_5, .slice p2_6_1 a.2.1.2.2.2.2.2.1.length q2_6_1, .slice p2_6_2 a.2.1.2.2.2.2.2.2.1.length q2_6_2, .slice p2_6_3 a.2.1.2.2.2.2.2.2.2.1.length q2_6_3, .slice p2_6_4 a.2.1.2.2.2.2.2.2.2.2.length q2_6_4, .slice p3 a.2.2.length q3] := ⟨[.int .i64 a.1], _, rfl, rfl, ⟨[.int .i64 a.2.1.1.1, .slice p2_1_2 a.2.1.1.2.1.length q2_1_2, .int .i64 a.2.1.1.2.2.1, .slice p2_1_4 a.2.1.1.2.2.2.length q2_1_4, .int .i64 a.2.1.2.1, .int .i64 a.2.1.2.2.1, .slice p2_4 a.2.1.2.2.2.1.length q2_4, .slice p2_5 a.2.1.2.2.2.2.1.length q2_5, .slice p2_6_1 a.2.1.2.2.2.2.2.1.length q2_6_1, .slice p2_6_2 a.2.1.2.2.2.2.2.2.1.length q2_6_2, .slice p2_6_3 a.2.1.2.2.2.2.2.2.2.1.length q2_6_3, .slice p2_6_4 a.2.1.2.2.2.2.2.2.2.2.length q2_6_4], _, rfl, (end_mk r2_1_2 r2_1_4 r2_4 r2_5 r2_6_1 r2_6_2 r2_6_3 r2_6_4), ⟨p3, q3, rfl, r3⟩⟩⟩
def endResultT (a : EndResultD) : Nat := endT a.2.1 + bulkM a.2.2
def endResultM (a : EndResultD) (m : Nat) : EndResultD := (a.1, endM a.2.1 m, mkM a.2.2 (m + endT a.2.1))

def endResultN (a : EndResultD) : Nat := endN a.2.1 + bulkM a.2.2
theorem endResultT_le (a : EndResultD) : endResultT a ≤ 8 * endResultN a := by
  have h1 := endT_le a.2.1
  unfold endResultT endResultN
  omega



set_option maxRecDepth 4000 in
set_option maxHeartbeats 1000000 in
theorem eqEndResult_k (a : EndResultD) (us vs : List Value) (w : World) (h1 : endResultC.rep w a us) (h2 : endResultC.rep w a vs) :
    Calls Tryz.prog 27 #[.agg us.toArray, .agg vs.toArray] w fun e w' => e = .returned (.bool true) ∧ Below w.heap.size w w' := by
  obtain ⟨p2_1_2, q2_1_2, p2_1_4, q2_1_4, p2_4, q2_4, p2_5, q2_5, p2_6_1, q2_6_1, p2_6_2, q2_6_2, p2_6_3, q2_6_3, p2_6_4, q2_6_4, p3, q3, rfl, r2_1_2, r2_1_4, r2_4, r2_5, r2_6_1, r2_6_2, r2_6_3, r2_6_4, r3⟩ := endResult_rep h1
  obtain ⟨pb2_1_2, qb2_1_2, pb2_1_4, qb2_1_4, pb2_4, qb2_4, pb2_5, qb2_5, pb2_6_1, qb2_6_1, pb2_6_2, qb2_6_2, pb2_6_3, qb2_6_3, pb2_6_4, qb2_6_4, pb3, qb3, rfl, rb2_1_2, rb2_1_4, rb2_4, rb2_5, rb2_6_1, rb2_6_2, rb2_6_3, rb2_6_4, rb3⟩ := endResult_rep h2
  clear h1 h2
  have BW : Below w.heap.size w ((w.alloc (.cells #[.int .i64 a.1, .int .i64 a.2.1.1.1, .slice p2_1_2 a.2.1.1.2.1.length q2_1_2, .int .i64 a.2.1.1.2.2.1, .slice p2_1_4 a.2.1.1.2.2.2.length q2_1_4, .int .i64 a.2.1.2.1, .int .i64 a.2.1.2.2.1, .slice p2_4 a.2.1.2.2.2.1.length q2_4, .slice p2_5 a.2.1.2.2.2.2.1.length q2_5, .slice p2_6_1 a.2.1.2.2.2.2.2.1.length q2_6_1, .slice p2_6_2 a.2.1.2.2.2.2.2.2.1.length q2_6_2, .slice p2_6_3 a.2.1.2.2.2.2.2.2.2.1.length q2_6_3, .slice p2_6_4 a.2.1.2.2.2.2.2.2.2.2.length q2_6_4, .slice p3 a.2.2.length q3] 43)).alloc (.cells #[.int .i64 a.1, .int .i64 a.2.1.1.1, .slice pb2_1_2 a.2.1.1.2.1.length qb2_1_2, .int .i64 a.2.1.1.2.2.1, .slice pb2_1_4 a.2.1.1.2.2.2.length qb2_1_4, .int .i64 a.2.1.2.1, .int .i64 a.2.1.2.2.1, .slice pb2_4 a.2.1.2.2.2.1.length qb2_4, .slice pb2_5 a.2.1.2.2.2.2.1.length qb2_5, .slice pb2_6_1 a.2.1.2.2.2.2.2.1.length qb2_6_1, .slice pb2_6_2 a.2.1.2.2.2.2.2.2.1.length qb2_6_2, .slice pb2_6_3 a.2.1.2.2.2.2.2.2.2.1.length qb2_6_3, .slice pb2_6_4 a.2.1.2.2.2.2.2.2.2.2.length qb2_6_4, .slice pb3 a.2.2.length qb3] 43)) := Below.mk (alloc_below _ _) _
  have A : Arr ((w.alloc (.cells #[.int .i64 a.1, .int .i64 a.2.1.1.1, .slice p2_1_2 a.2.1.1.2.1.length q2_1_2, .int .i64 a.2.1.1.2.2.1, .slice p2_1_4 a.2.1.1.2.2.2.length q2_1_4, .int .i64 a.2.1.2.1, .int .i64 a.2.1.2.2.1, .slice p2_4 a.2.1.2.2.2.1.length q2_4, .slice p2_5 a.2.1.2.2.2.2.1.length q2_5, .slice p2_6_1 a.2.1.2.2.2.2.2.1.length q2_6_1, .slice p2_6_2 a.2.1.2.2.2.2.2.2.1.length q2_6_2, .slice p2_6_3 a.2.1.2.2.2.2.2.2.2.1.length q2_6_3, .slice p2_6_4 a.2.1.2.2.2.2.2.2.2.2.length q2_6_4, .slice p3 a.2.2.length q3] 43)).alloc (.cells #[.int .i64 a.1, .int .i64 a.2.1.1.1, .slice pb2_1_2 a.2.1.1.2.1.length qb2_1_2, .int .i64 a.2.1.1.2.2.1, .slice pb2_1_4 a.2.1.1.2.2.2.length qb2_1_4, .int .i64 a.2.1.2.1, .int .i64 a.2.1.2.2.1, .slice pb2_4 a.2.1.2.2.2.1.length qb2_4, .slice pb2_5 a.2.1.2.2.2.2.1.length qb2_5, .slice pb2_6_1 a.2.1.2.2.2.2.2.1.length qb2_6_1, .slice pb2_6_2 a.2.1.2.2.2.2.2.2.1.length qb2_6_2, .slice pb2_6_3 a.2.1.2.2.2.2.2.2.2.1.length qb2_6_3, .slice pb2_6_4 a.2.1.2.2.2.2.2.2.2.2.length qb2_6_4, .slice pb3 a.2.2.length qb3] 43)) w.heap.size 43 [.int .i64 a.1, .int .i64 a.2.1.1.1, .slice p2_1_2 a.2.1.1.2.1.length q2_1_2, .int .i64 a.2.1.1.2.2.1, .slice p2_1_4 a.2.1.1.2.2.2.length q2_1_4, .int .i64 a.2.1.2.1, .int .i64 a.2.1.2.2.1, .slice p2_4 a.2.1.2.2.2.1.length q2_4, .slice p2_5 a.2.1.2.2.2.2.1.length q2_5, .slice p2_6_1 a.2.1.2.2.2.2.2.1.length q2_6_1, .slice p2_6_2 a.2.1.2.2.2.2.2.2.1.length q2_6_2, .slice p2_6_3 a.2.1.2.2.2.2.2.2.2.1.length q2_6_3, .slice p2_6_4 a.2.1.2.2.2.2.2.2.2.2.length q2_6_4, .slice p3 a.2.2.length q3] := (Arr.new w [.int .i64 a.1, .int .i64 a.2.1.1.1, .slice p2_1_2 a.2.1.1.2.1.length q2_1_2, .int .i64 a.2.1.1.2.2.1, .slice p2_1_4 a.2.1.1.2.2.2.length q2_1_4, .int .i64 a.2.1.2.1, .int .i64 a.2.1.2.2.1, .slice p2_4 a.2.1.2.2.2.1.length q2_4, .slice p2_5 a.2.1.2.2.2.2.1.length q2_5, .slice p2_6_1 a.2.1.2.2.2.2.2.1.length q2_6_1, .slice p2_6_2 a.2.1.2.2.2.2.2.2.1.length q2_6_2, .slice p2_6_3 a.2.1.2.2.2.2.2.2.2.1.length q2_6_3, .slice p2_6_4 a.2.1.2.2.2.2.2.2.2.2.length q2_6_4, .slice p3 a.2.2.length q3] 43).old _ _
  have B : Arr ((w.alloc (.cells #[.int .i64 a.1, .int .i64 a.2.1.1.1, .slice p2_1_2 a.2.1.1.2.1.length q2_1_2, .int .i64 a.2.1.1.2.2.1, .slice p2_1_4 a.2.1.1.2.2.2.length q2_1_4, .int .i64 a.2.1.2.1, .int .i64 a.2.1.2.2.1, .slice p2_4 a.2.1.2.2.2.1.length q2_4, .slice p2_5 a.2.1.2.2.2.2.1.length q2_5, .slice p2_6_1 a.2.1.2.2.2.2.2.1.length q2_6_1, .slice p2_6_2 a.2.1.2.2.2.2.2.2.1.length q2_6_2, .slice p2_6_3 a.2.1.2.2.2.2.2.2.2.1.length q2_6_3, .slice p2_6_4 a.2.1.2.2.2.2.2.2.2.2.length q2_6_4, .slice p3 a.2.2.length q3] 43)).alloc (.cells #[.int .i64 a.1, .int .i64 a.2.1.1.1, .slice pb2_1_2 a.2.1.1.2.1.length qb2_1_2, .int .i64 a.2.1.1.2.2.1, .slice pb2_1_4 a.2.1.1.2.2.2.length qb2_1_4, .int .i64 a.2.1.2.1, .int .i64 a.2.1.2.2.1, .slice pb2_4 a.2.1.2.2.2.1.length qb2_4, .slice pb2_5 a.2.1.2.2.2.2.1.length qb2_5, .slice pb2_6_1 a.2.1.2.2.2.2.2.1.length qb2_6_1, .slice pb2_6_2 a.2.1.2.2.2.2.2.2.1.length qb2_6_2, .slice pb2_6_3 a.2.1.2.2.2.2.2.2.2.1.length qb2_6_3, .slice pb2_6_4 a.2.1.2.2.2.2.2.2.2.2.length qb2_6_4, .slice pb3 a.2.2.length qb3] 43)) (w.heap.size + 1) 43 [.int .i64 a.1, .int .i64 a.2.1.1.1, .slice pb2_1_2 a.2.1.1.2.1.length qb2_1_2, .int .i64 a.2.1.1.2.2.1, .slice pb2_1_4 a.2.1.1.2.2.2.length qb2_1_4, .int .i64 a.2.1.2.1, .int .i64 a.2.1.2.2.1, .slice pb2_4 a.2.1.2.2.2.1.length qb2_4, .slice pb2_5 a.2.1.2.2.2.2.1.length qb2_5, .slice pb2_6_1 a.2.1.2.2.2.2.2.1.length qb2_6_1, .slice pb2_6_2 a.2.1.2.2.2.2.2.2.1.length qb2_6_2, .slice pb2_6_3 a.2.1.2.2.2.2.2.2.2.1.length qb2_6_3, .slice pb2_6_4 a.2.1.2.2.2.2.2.2.2.2.length qb2_6_4, .slice pb3 a.2.2.length qb3] := by
    have h := Arr.new (w.alloc (.cells #[.int .i64 a.1, .int .i64 a.2.1.1.1, .slice p2_1_2 a.2.1.1.2.1.length q2_1_2, .int .i64 a.2.1.1.2.2.1, .slice p2_1_4 a.2.1.1.2.2.2.length q2_1_4, .int .i64 a.2.1.2.1, .int .i64 a.2.1.2.2.1, .slice p2_4 a.2.1.2.2.2.1.length q2_4, .slice p2_5 a.2.1.2.2.2.2.1.length q2_5, .slice p2_6_1 a.2.1.2.2.2.2.2.1.length q2_6_1, .slice p2_6_2 a.2.1.2.2.2.2.2.2.1.length q2_6_2, .slice p2_6_3 a.2.1.2.2.2.2.2.2.2.1.length q2_6_3, .slice p2_6_4 a.2.1.2.2.2.2.2.2.2.2.length q2_6_4, .slice p3 a.2.2.length q3] 43)) [.int .i64 a.1, .int .i64 a.2.1.1.1, .slice pb2_1_2 a.2.1.1.2.1.length qb2_1_2, .int .i64 a.2.1.1.2.2.1, .slice pb2_1_4 a.2.1.1.2.2.2.length qb2_1_4, .int .i64 a.2.1.2.1, .int .i64 a.2.1.2.2.1, .slice pb2_4 a.2.1.2.2.2.1.length qb2_4, .slice pb2_5 a.2.1.2.2.2.2.1.length qb2_5, .slice pb2_6_1 a.2.1.2.2.2.2.2.1.length qb2_6_1, .slice pb2_6_2 a.2.1.2.2.2.2.2.2.1.length qb2_6_2, .slice pb2_6_3 a.2.1.2.2.2.2.2.2.2.1.length qb2_6_3, .slice pb2_6_4 a.2.1.2.2.2.2.2.2.2.2.length qb2_6_4, .slice pb3 a.2.2.length qb3] 43
    rw [size_alloc] at h
    exact h
  replace r2_1_2 := r2_1_2.keep BW
  replace rb2_1_2 := rb2_1_2.keep BW
  replace r2_1_4 := r2_1_4.keep BW
  replace rb2_1_4 := rb2_1_4.keep BW
  replace r2_4 := r2_4.keep BW
  replace rb2_4 := rb2_4.keep BW
  replace r2_5 := r2_5.keep BW
  replace rb2_5 := rb2_5.keep BW
  replace r2_6_1 := r2_6_1.keep BW
  replace rb2_6_1 := rb2_6_1.keep BW
  replace r2_6_2 := r2_6_2.keep BW
  replace rb2_6_2 := rb2_6_2.keep BW
  replace r2_6_3 := r2_6_3.keep BW
  replace rb2_6_3 := rb2_6_3.keep BW
  replace r2_6_4 := r2_6_4.keep BW
  replace rb2_6_4 := rb2_6_4.keep BW
  replace r3 := r3.keep BW
  replace rb3 := rb3.keep BW
  go_enter Tryz.func27, Tryz.ntmps27
  go_wp2_with fail
  refine (eqEnd_k a.2.1 _ _ _ (end_mk r2_1_2 r2_1_4 r2_4 r2_5 r2_6_1 r2_6_2 r2_6_3 r2_6_4) (end_mk rb2_1_2 rb2_1_4 rb2_4 rb2_5 rb2_6_1 rb2_6_2 rb2_6_3 rb2_6_4)).mono ?_
  rintro e w1 ⟨rfl, hb⟩
  replace A := A.stay hb
  replace B := B.stay hb
  replace BW := Below.step BW hb
  replace r2_1_2 := r2_1_2.keep hb
  replace rb2_1_2 := rb2_1_2.keep hb
  replace r2_1_4 := r2_1_4.keep hb
  replace rb2_1_4 := rb2_1_4.keep hb
  replace r2_4 := r2_4.keep hb
  replace rb2_4 := rb2_4.keep hb
  replace r2_5 := r2_5.keep hb
  replace rb2_5 := rb2_5.keep hb
  replace r2_6_1 := r2_6_1.keep hb
  replace rb2_6_1 := rb2_6_1.keep hb
  replace r2_6_2 := r2_6_2.keep hb
  replace rb2_6_2 := rb2_6_2.keep hb
  replace r2_6_3 := r2_6_3.keep hb
  replace rb2_6_3 := rb2_6_3.keep hb
  replace r2_6_4 := r2_6_4.keep hb
  replace rb2_6_4 := rb2_6_4.keep hb
  replace r3 := r3.keep hb
  replace rb3 := rb3.keep hb
  have ca0 := A.cell 0
  have cb0 := B.cell 0
  have ca1 := A.cell 1
  have cb1 := B.cell 1
  have ca2 := A.cell 2
  have cb2 := B.cell 2
  have ca3 := A.cell 3
  have cb3 := B.cell 3
  have ca4 := A.cell 4
  have cb4 := B.cell 4
  have ca5 := A.cell 5
  have cb5 := B.cell 5
  have ca6 := A.cell 6
  have cb6 := B.cell 6
  have ca7 := A.cell 7
  have cb7 := B.cell 7
  have ca8 := A.cell 8
  have cb8 := B.cell 8
  have ca9 := A.cell 9
  have cb9 := B.cell 9
  have ca10 := A.cell 10
  have cb10 := B.cell 10
  have ca11 := A.cell 11
  have cb11 := B.cell 11
  have ca12 := A.cell 12
  have cb12 := B.cell 12
  have ca13 := A.cell 13
  have cb13 := B.cell 13
  simp at ca0 cb0 ca1 cb1 ca2 cb2 ca3 cb3 ca4 cb4 ca5 cb5 ca6 cb6 ca7 cb7 ca8 cb8 ca9 cb9 ca10 cb10 ca11 cb11 ca12 cb12 ca13 cb13
  clear hb
  go_wp2_with fail
  refine (eqMsgS_c a.2.2 p3 pb3 q3 qb3 _ r3 rb3).mono ?_
  rintro e w2 ⟨rfl, hb⟩
  replace A := A.stay hb
  replace B := B.stay hb
  replace BW := Below.step BW hb
  replace r2_1_2 := r2_1_2.keep hb
  replace rb2_1_2 := rb2_1_2.keep hb
  replace r2_1_4 := r2_1_4.keep hb
  replace rb2_1_4 := rb2_1_4.keep hb
  replace r2_4 := r2_4.keep hb
  replace rb2_4 := rb2_4.keep hb
  replace r2_5 := r2_5.keep hb
  replace rb2_5 := rb2_5.keep hb
  replace r2_6_1 := r2_6_1.keep hb
  replace rb2_6_1 := rb2_6_1.keep hb
  replace r2_6_2 := r2_6_2.keep hb
  replace rb2_6_2 := rb2_6_2.keep hb
  replace r2_6_3 := r2_6_3.keep hb
  replace rb2_6_3 := rb2_6_3.keep hb
  replace r2_6_4 := r2_6_4.keep hb
  replace rb2_6_4 := rb2_6_4.keep hb
  replace r3 := r3.keep hb
  replace rb3 := rb3.keep hb
  have ca0 := A.cell 0
  have cb0 := B.cell 0
  have ca1 := A.cell 1
  have cb1 := B.cell 1
  have ca2 := A.cell 2
  have cb2 := B.cell 2
  have ca3 := A.cell 3
  have cb3 := B.cell 3
  have ca4 := A.cell 4
  have cb4 := B.cell 4
  have ca5 := A.cell 5
  have cb5 := B.cell 5
  have ca6 := A.cell 6
  have cb6 := B.cell 6
  have ca7 := A.cell 7
  have cb7 := B.cell 7
  have ca8 := A.cell 8
  have cb8 := B.cell 8
  have ca9 := A.cell 9
  have cb9 := B.cell 9
  have ca10 := A.cell 10
  have cb10 := B.cell 10
  have ca11 := A.cell 11
  have cb11 := B.cell 11
  have ca12 := A.cell 12
  have cb12 := B.cell 12
  have ca13 := A.cell 13
  have cb13 := B.cell 13
  simp at ca0 cb0 ca1 cb1 ca2 cb2 ca3 cb3 ca4 cb4 ca5 cb5 ca6 cb6 ca7 cb7 ca8 cb8 ca9 cb9 ca10 cb10 ca11 cb11 ca12 cb12 ca13 cb13
  clear hb
  go_wp2
  go_ret
  exact ⟨rfl, BW⟩

set_option maxRecDepth 4000 in
set_option maxHeartbeats 1000000 in
theorem markEndResult_k (a : EndResultD) (us : List Value) (fp : List Nat) (B m : Nat) (mi : Int) (hmi : mi = (m : Int)) (w : World) (h : endResultC.own w B a us fp) (hm : m + endResultT a ≤ 1000000000) :
    Calls Tryz.prog 32 #[.agg us.toArray, .int .i64 mi] w fun e w' => e = .returned (.int .i64 (mi + (endResultT a : Int))) ∧ endResultC.own w' B (endResultM a m) us fp ∧ Only fp w w' := by
  subst hmi
  obtain ⟨us0, ts0, f0, g0, rfl, rfl, nd0, k0, us1, ts1, f1, g1, rfl, rfl, nd1, k1, k2⟩ := h
  obtain ⟨e0, ef0⟩ := k0
  subst e0 ef0
  obtain ⟨p2_1_2, q2_1_2, p2_1_4, q2_1_4, p2_4, q2_4, p2_5, q2_5, p2_6_1, q2_6_1, p2_6_2, q2_6_2, p2_6_3, q2_6_3, p2_6_4, q2_6_4, e1, -, -, -, -, -, -, -, -⟩ := end_rep (endC.toRep k1)
  subst e1
  obtain ⟨p3, q3, e2, -⟩ := msgsC.toRep k2
  subst e2
  have z1 : Hid (∀ x, x ∈ f1 → x < w.heap.size) := fun x hx => (endC.ins k1 x hx).2
  have z2 : Hid (∀ x, x ∈ g1 → x < w.heap.size) := fun x hx => (msgsC.ins k2 x hx).2
  have d1_2 : Hid (∀ x, x ∈ f1 → x ∉ g1) := fun x h1 h2 => nodup_apart nd1 x h1 (by simp [h2])
  have s1 : Hid (∀ x, x ∈ f1 → x ∈ [] ++ (f1 ++ g1)) := fun x hx => by simp [hx]
  have s2 : Hid (∀ x, x ∈ g1 → x ∈ [] ++ (f1 ++ g1)) := fun x hx => by simp [hx]
  have A := Arr.new w [.int .i64 a.1, .int .i64 a.2.1.1.1, .slice p2_1_2 a.2.1.1.2.1.length q2_1_2, .int .i64 a.2.1.1.2.2.1, .slice p2_1_4 a.2.1.1.2.2.2.length q2_1_4, .int .i64 a.2.1.2.1, .int .i64 a.2.1.2.2.1, .slice p2_4 a.2.1.2.2.2.1.length q2_4, .slice p2_5 a.2.1.2.2.2.2.1.length q2_5, .slice p2_6_1 a.2.1.2.2.2.2.2.1.length q2_6_1, .slice p2_6_2 a.2.1.2.2.2.2.2.2.1.length q2_6_2, .slice p2_6_3 a.2.1.2.2.2.2.2.2.2.1.length q2_6_3, .slice p2_6_4 a.2.1.2.2.2.2.2.2.2.2.length q2_6_4, .slice p3 a.2.2.length q3] 43
  have ON : Only ([] ++ (f1 ++ g1)) w (w.alloc (.cells #[.int .i64 a.1, .int .i64 a.2.1.1.1, .slice p2_1_2 a.2.1.1.2.1.length q2_1_2, .int .i64 a.2.1.1.2.2.1, .slice p2_1_4 a.2.1.1.2.2.2.length q2_1_4, .int .i64 a.2.1.2.1, .int .i64 a.2.1.2.2.1, .slice p2_4 a.2.1.2.2.2.1.length q2_4, .slice p2_5 a.2.1.2.2.2.2.1.length q2_5, .slice p2_6_1 a.2.1.2.2.2.2.2.1.length q2_6_1, .slice p2_6_2 a.2.1.2.2.2.2.2.2.1.length q2_6_2, .slice p2_6_3 a.2.1.2.2.2.2.2.2.2.1.length q2_6_3, .slice p2_6_4 a.2.1.2.2.2.2.2.2.2.2.length q2_6_4, .slice p3 a.2.2.length q3] 43)) := Only.below (alloc_below _ _)
  replace k1 := endC.stay k1 (alloc_below _ (.cells #[.int .i64 a.1, .int .i64 a.2.1.1.1, .slice p2_1_2 a.2.1.1.2.1.length q2_1_2, .int .i64 a.2.1.1.2.2.1, .slice p2_1_4 a.2.1.1.2.2.2.length q2_1_4, .int .i64 a.2.1.2.1, .int .i64 a.2.1.2.2.1, .slice p2_4 a.2.1.2.2.2.1.length q2_4, .slice p2_5 a.2.1.2.2.2.2.1.length q2_5, .slice p2_6_1 a.2.1.2.2.2.2.2.1.length q2_6_1, .slice p2_6_2 a.2.1.2.2.2.2.2.2.1.length q2_6_2, .slice p2_6_3 a.2.1.2.2.2.2.2.2.2.1.length q2_6_3, .slice p2_6_4 a.2.1.2.2.2.2.2.2.2.2.length q2_6_4, .slice p3 a.2.2.length q3] 43))
  replace k2 := msgsC.stay k2 (alloc_below _ (.cells #[.int .i64 a.1, .int .i64 a.2.1.1.1, .slice p2_1_2 a.2.1.1.2.1.length q2_1_2, .int .i64 a.2.1.1.2.2.1, .slice p2_1_4 a.2.1.1.2.2.2.length q2_1_4, .int .i64 a.2.1.2.1, .int .i64 a.2.1.2.2.1, .slice p2_4 a.2.1.2.2.2.1.length q2_4, .slice p2_5 a.2.1.2.2.2.2.1.length q2_5, .slice p2_6_1 a.2.1.2.2.2.2.2.1.length q2_6_1, .slice p2_6_2 a.2.1.2.2.2.2.2.2.1.length q2_6_2, .slice p2_6_3 a.2.1.2.2.2.2.2.2.2.1.length q2_6_3, .slice p2_6_4 a.2.1.2.2.2.2.2.2.2.2.length q2_6_4, .slice p3 a.2.2.length q3] 43))
  have ND0 : Hid _ := nd0
  have ND1 : Hid _ := nd1
  clear nd0 nd1
  have hT : Hid (m + (endT a.2.1 + bulkM a.2.2) ≤ 1000000000) := hm
  clear hm
  go_enter Tryz.func32, Tryz.ntmps32
  go_wp2_with fail
  refine (markEnd_k a.2.1 _ _ B m _ (by first | rfl | simp | (simp; omega) | (push_cast; omega)) _ k1 (by have := hT.out; omega)).mono ?_
  rintro e w1 ⟨rfl, k1, ho⟩
  replace k2 := msgsC.other k2 ho (fun x h1 h2 => d1_2.out x h2 h1)
  replace A := A.only ho (fun h => Nat.lt_irrefl _ (z1.out _ h))
  replace ON := ON.trans_sub ho s1.out
  have ca0 := A.cell 0
  have ca1 := A.cell 1
  have ca2 := A.cell 2
  have ca3 := A.cell 3
  have ca4 := A.cell 4
  have ca5 := A.cell 5
  have ca6 := A.cell 6
  have ca7 := A.cell 7
  have ca8 := A.cell 8
  have ca9 := A.cell 9
  have ca10 := A.cell 10
  have ca11 := A.cell 11
  have ca12 := A.cell 12
  have ca13 := A.cell 13
  simp at ca0 ca1 ca2 ca3 ca4 ca5 ca6 ca7 ca8 ca9 ca10 ca11 ca12 ca13
  clear ho
  go_wp2_with fail
  refine (markMsgS_k a.2.2 _ _ B (m + endT a.2.1) _ (by first | rfl | simp | (simp; omega) | (push_cast; omega)) _ k2 (by have := hT.out; omega) (by have := hT.out; omega)).mono ?_
  rintro e w2 ⟨rfl, k2, ho⟩
  replace k1 := endC.other k1 ho (fun x h1 h2 => d1_2.out x h1 h2)
  replace A := A.only ho (fun h => Nat.lt_irrefl _ (z2.out _ h))
  replace ON := ON.trans_sub ho s2.out
  have ca0 := A.cell 0
  have ca1 := A.cell 1
  have ca2 := A.cell 2
  have ca3 := A.cell 3
  have ca4 := A.cell 4
  have ca5 := A.cell 5
  have ca6 := A.cell 6
  have ca7 := A.cell 7
  have ca8 := A.cell 8
  have ca9 := A.cell 9
  have ca10 := A.cell 10
  have ca11 := A.cell 11
  have ca12 := A.cell 12
  have ca13 := A.cell 13
  simp at ca0 ca1 ca2 ca3 ca4 ca5 ca6 ca7 ca8 ca9 ca10 ca11 ca12 ca13
  clear ho
  go_wp2
  go_ret
  exact ⟨by unfold endResultT; simp; try omega, ⟨_, _, [], _, rfl, rfl, ND0.out, ⟨rfl, rfl⟩, ⟨_, _, _, _, rfl, rfl, ND1.out, k1, k2⟩⟩, ON⟩

set_option maxRecDepth 4000 in
set_option maxHeartbeats 1000000 in
theorem heldEndResult_k (a : EndResultD) (us : List Value) (m : Nat) (mi : Int) (hmi : mi = (m : Int)) (w : World) (h : endResultC.rep w (endResultM a m) us) (hm : m + endResultT a ≤ 1048577) :
    Calls Tryz.prog 33 #[.agg us.toArray, .int .i64 mi] w fun e w' => e = .returned (.int .i64 (mi + (endResultT a : Int))) ∧ Below w.heap.size w w' := by
  subst hmi
  obtain ⟨us0, ts0, rfl, h0, us1, ts1, rfl, h1, h2⟩ := h
  have e0 : us0 = [Value.int .i64 (endResultM a m).1] := h0
  subst e0
  replace h1 : endC.rep w (endM a.2.1 m) _ := h1
  obtain ⟨p2_1_2, q2_1_2, p2_1_4, q2_1_4, p2_4, q2_4, p2_5, q2_5, p2_6_1, q2_6_1, p2_6_2, q2_6_2, p2_6_3, q2_6_3, p2_6_4, q2_6_4, e1, -, -, -, -, -, -, -, -⟩ := end_rep h1
  subst e1
  replace h2 : msgsC.rep w (mkM a.2.2 (m + endT a.2.1)) _ := h2
  obtain ⟨p3, q3, e2, -⟩ := id h2
  subst e2
  have A := Arr.new w [.int .i64 (endResultM a m).1, .int .i64 (endM a.2.1 m).1.1, .slice p2_1_2 (endM a.2.1 m).1.2.1.length q2_1_2, .int .i64 (endM a.2.1 m).1.2.2.1, .slice p2_1_4 (endM a.2.1 m).1.2.2.2.length q2_1_4, .int .i64 (endM a.2.1 m).2.1, .int .i64 (endM a.2.1 m).2.2.1, .slice p2_4 (endM a.2.1 m).2.2.2.1.length q2_4, .slice p2_5 (endM a.2.1 m).2.2.2.2.1.length q2_5, .slice p2_6_1 (endM a.2.1 m).2.2.2.2.2.1.length q2_6_1, .slice p2_6_2 (endM a.2.1 m).2.2.2.2.2.2.1.length q2_6_2, .slice p2_6_3 (endM a.2.1 m).2.2.2.2.2.2.2.1.length q2_6_3, .slice p2_6_4 (endM a.2.1 m).2.2.2.2.2.2.2.2.length q2_6_4, .slice p3 (mkM a.2.2 (m + endT a.2.1)).length q3] 43
  have BW := alloc_below w (.cells #[.int .i64 (endResultM a m).1, .int .i64 (endM a.2.1 m).1.1, .slice p2_1_2 (endM a.2.1 m).1.2.1.length q2_1_2, .int .i64 (endM a.2.1 m).1.2.2.1, .slice p2_1_4 (endM a.2.1 m).1.2.2.2.length q2_1_4, .int .i64 (endM a.2.1 m).2.1, .int .i64 (endM a.2.1 m).2.2.1, .slice p2_4 (endM a.2.1 m).2.2.2.1.length q2_4, .slice p2_5 (endM a.2.1 m).2.2.2.2.1.length q2_5, .slice p2_6_1 (endM a.2.1 m).2.2.2.2.2.1.length q2_6_1, .slice p2_6_2 (endM a.2.1 m).2.2.2.2.2.2.1.length q2_6_2, .slice p2_6_3 (endM a.2.1 m).2.2.2.2.2.2.2.1.length q2_6_3, .slice p2_6_4 (endM a.2.1 m).2.2.2.2.2.2.2.2.length q2_6_4, .slice p3 (mkM a.2.2 (m + endT a.2.1)).length q3] 43)
  replace h1 := endC.keep h1 BW
  replace h2 := msgsC.keep h2 BW
  have hT : Hid (m + (endT a.2.1 + bulkM a.2.2) ≤ 1048577) := hm
  clear hm
  go_enter Tryz.func33, Tryz.ntmps33
  go_wp2_with fail
  refine (heldEnd_k a.2.1 _ m _ (by first | rfl | simp | (simp; omega) | (push_cast; omega)) _ h1 (by have := hT.out; omega)).mono ?_
  rintro e w1 ⟨rfl, hb⟩
  replace A := A.stay hb
  replace BW := Below.step BW hb
  replace h1 := endC.keep h1 hb
  replace h2 := msgsC.keep h2 hb
  have ca0 := A.cell 0
  have ca1 := A.cell 1
  have ca2 := A.cell 2
  have ca3 := A.cell 3
  have ca4 := A.cell 4
  have ca5 := A.cell 5
  have ca6 := A.cell 6
  have ca7 := A.cell 7
  have ca8 := A.cell 8
  have ca9 := A.cell 9
  have ca10 := A.cell 10
  have ca11 := A.cell 11
  have ca12 := A.cell 12
  have ca13 := A.cell 13
  simp at ca0 ca1 ca2 ca3 ca4 ca5 ca6 ca7 ca8 ca9 ca10 ca11 ca12 ca13
  clear hb
  go_wp2_with fail
  refine (heldMsgS_k a.2.2 _ (m + endT a.2.1) _ (by first | rfl | simp | (simp; omega) | (push_cast; omega)) _ h2 (by have := hT.out; omega)).mono ?_
  rintro e w2 ⟨rfl, hb⟩
  replace A := A.stay hb
  replace BW := Below.step BW hb
  replace h1 := endC.keep h1 hb
  replace h2 := msgsC.keep h2 hb
  have ca0 := A.cell 0
  have ca1 := A.cell 1
  have ca2 := A.cell 2
  have ca3 := A.cell 3
  have ca4 := A.cell 4
  have ca5 := A.cell 5
  have ca6 := A.cell 6
  have ca7 := A.cell 7
  have ca8 := A.cell 8
  have ca9 := A.cell 9
  have ca10 := A.cell 10
  have ca11 := A.cell 11
  have ca12 := A.cell 12
  have ca13 := A.cell 13
  simp at ca0 ca1 ca2 ca3 ca4 ca5 ca6 ca7 ca8 ca9 ca10 ca11 ca12 ca13
  clear hb
  go_wp2
  go_ret
  exact ⟨by unfold endResultT; simp; try omega, BW⟩

end Go.Proofs.YtiabacnmmojfjaaGreatDoor

/- How PairResult lies in memory, and the contracts of the laws' helpers on it (written by tools/codgen.py). -/
namespace Go.Proofs.YtiabacnmmojfjaaGreatDoor
open Go.ChangeShapes Go.WideShapes Go.ChangeAt Go.RowKit

abbrev PairResultD := Int × EndD × EndD
def pairResultC : Cod PairResultD := prodC (intC .i64) (prodC endC endC)
theorem pairResult_rep {w : World} {a : PairResultD} {vs : List Value} (h : pairResultC.rep w a vs) : ∃ p2_1_2 q2_1_2 p2_1_4 q2_1_4 p2_4 q2_4 p2_5 q2_5 p2_6_1 q2_6_1 p2_6_2 q2_6_2 p2_6_3 q2_6_3 p2_6_4 q2_6_4 p3_1_2 q3_1_2 p3_1_4 q3_1_4 p3_4 q3_4 p3_5 q3_5 p3_6_1 q3_6_1 p3_6_2 q3_6_2 p3_6_3 q3_6_3 p3_6_4 q3_6_4, vs = [.int .i64 a.1, .int .i64 a.2.1.1.1, .slice p2_1_2 a.2.1.1.2.1.length q2_1_2, .int .i64 a.2.1.1.2.2.1, .slice p2_1_4 a.2.1.1.2.2.2.length q2_1_4, .int .i64 a.2.1.2.1, .int .i64 a.2.1.2.2.1, .slice p2_4 a.2.1.2.2.2.1.length q2_4, .slice p2_5 a.2.1.2.2.2.2.1.length q2_5, .slice p2_6_1 a.2.1.2.2.2.2.2.1.length q2_6_1, .slice p2_6_2 a.2.1.2.2.2.2.2.2.1.length q2_6_2, .slice p2_6_3 a.2.1.2.2.2.2.2.2.2.1.length q2_6_3, .slice p2_6_4 a.2.1.2.2.2.2.2.2.2.2.length q2_6_4, .int .i64 a.2.2.1.1, .slice p3_1_2 a.2.2.1.2.1.length q3_1_2, .int .i64 a.2.2.1.2.2.1, .slice p3_1_4 a.2.2.1.2.2.2.length q3_1_4, .int .i64 a.2.2.2.1, .int .i64 a.2.2.2.2.1, .slice p3_4 a.2.2.2.2.2.1.length q3_4, .slice p3_5 a.2.2.2.2.2.2.1.length q3_5, .slice p3_6_1 a.2.2.2.2.2.2.2.1.length q3_6_1, .slice p3_6_2 a.2.2.2.2.2.2.2.2.1.length q3_6_2, .slice p3_6_3 a.2.2.2.2.2.2.2.2.2.1.length q3_6_3, .slice p3_6_4 a.2.2.2.2.2.2.2.2.2.2.length q3_6_4] ∧ Rd w p2_1_2 q2_1_2 a.2.1.1.2.1 ∧ Rd w p2_1_4 q2_1_4 a.2.1.1.2.2.2 ∧ RdL msgC w p2_4 q2_4 a.2.1.2.2.2.1 ∧ Rd w p2_5 q2_5 a.2.1.2.2.2.2.1 ∧ Rd w p2_6_1 q2_6_1 a.2.1.2.2.2.2.2.1 ∧ Rd w p2_6_2 q2_6_2 a.2.1.2.2.2.2.2.2.1 ∧ Rd w p2_6_3 q2_6_3 a.2.1.2.2.2.2.2.2.2.1 ∧ Rd w p2_6_4 q2_6_4 a.2.1.2.2.2.2.2.2.2.2 ∧ Rd w p3_1_2 q3_1_2 a.2.2.1.2.1 ∧ Rd w p3_1_4 q3_1_4 a.2.2.1.2.2.2 ∧ RdL msgC w p3_4 q3_4 a.2.2.2.2.2.1 ∧ Rd w p3_5 q3_5 a.2.2.2.2.2.2.1 ∧ Rd w p3_6_1 q3_6_1 a.2.2.2.2.2.2.2.1 ∧ Rd w p3_6_2 q3_6_2 a.2.2.2.2.2.2.2.2.1 ∧ Rd w p3_6_3 q3_6_3 a.2.2.2.2.2.2.2.2.2.1 ∧ Rd w p3_6_4 q3_6_4 a.2.2.2.2.2.2.2.2.2.2 := by
  obtain ⟨us0, ts0, rfl, h0, us1, ts1, rfl, h1, h2⟩ := h
  have e0 : us0 = [Value.int .i64 _] := h0
  subst e0
  obtain ⟨p2_1_2, q2_1_2, p2_1_4, q2_1_4, p2_4, q2_4, p2_5, q2_5, p2_6_1, q2_6_1, p2_6_2, q2_6_2, p2_6_3, q2_6_3, p2_6_4, q2_6_4, rfl, r2_1_2, r2_1_4, r2_4, r2_5, r2_6_1, r2_6_2, r2_6_3, r2_6_4⟩ := end_rep h1
  obtain ⟨p3_1_2, q3_1_2, p3_1_4, q3_1_4, p3_4, q3_4, p3_5, q3_5, p3_6_1, q3_6_1, p3_6_2, q3_6_2, p3_6_3, q3_6_3, p3_6_4, q3_6_4, rfl, r3_1_2, r3_1_4, r3_4, r3_5, r3_6_1, r3_6_2, r3_6_3, r3_6_4⟩ := end_rep h2
  exact ⟨p2_1_2, q2_1_2, p2_1_4, q2_1_4, p2_4, q2_4, p2_5, q2_5, p2_6_1, q2_6_1, p2_6_2, q2_6_2, p2_6_3, q2_6_3, p2_6_4, q2_6_4, p3_1_2, q3_1_2, p3_1_4, q3_1_4, p3_4, q3_4, p3_5, q3_5, p3_6_1, q3_6_1, p3_6_2, q3_6_2, p3_6_3, q3_6_3, p3_6_4, q3_6_4, rfl, r2_1_2, r2_1_4, r2_4, r2_5, r2_6_1, r2_6_2, r2_6_3, r2_6_4, r3_1_2, r3_1_4, r3_4, r3_5, r3_6_1, r3_6_2, r3_6_3, r3_6_4⟩
theorem pairResult_mk {w : World} {a : PairResultD} {p2_1_2 : Option Addr} {q2_1_2 : Nat} {p2_1_4 : Option Addr} {q2_1_4 : Nat} {p2_4 : Option Addr} {q2_4 : Nat} {p2_5 : Option Addr} {q2_5 : Nat} {p2_6_1 : Option Addr} {q2_6_1 : Nat} {p2_6_2 : Option Addr} {q2_6_2 : Nat} {p2_6_3 : Option Addr} {q2_6_3 : Nat} {p2_6_4 : Option Addr} {q2_6_4 : Nat} {p3_1_2 : Option Addr} {q3_1_2 : Nat} {p3_1_4 : Option Addr} {q3_1_4 : Nat} {p3_4 : Option Addr} {q3_4 : Nat} {p3_5 : Option Addr} {q3_5 : Nat} {p3_6_1 : Option Addr} {q3_6_1 : Nat} {p3_6_2 : Option Addr} {q3_6_2 : Nat} {p3_6_3 : Option Addr} {q3_6_3 : Nat} {p3_6_4 : Option Addr} {q3_6_4 : Nat} (r2_1_2 : Rd w p2_1_2 q2_1_2 a.2.1.1.2.1) (r2_1_4 : Rd w p2_1_4 q2_1_4 a.2.1.1.2.2.2) (r2_4 : RdL msgC w p2_4 q2_4 a.2.1.2.2.2.1) (r2_5 : Rd w p2_5 q2_5 a.2.1.2.2.2.2.1) (r2_6_1 : Rd w p2_6_1 q2_6_1 a.2.1.2.2.2.2.2.1) (r2_6_2 : Rd w p2_6_2 q2_6_2 a.2.1.2.2.2.2.2.2.1) (r2_6_3 : Rd w p2_6_3 q2_6_3 a.2.1.2.2.2.2.2.2.2.1) (r2_6_4 : Rd w p2_6_4 q2_6_4 a.2.1.2.2.2.2.2.2.2.2) (r3_1_2 : Rd w p3_1_2 q3_1_2 a.2.2.1.2.1) (r3_1_4 : Rd w p3_1_4 q3_1_4 a.2.2.1.2.2.2) (r3_4 : RdL msgC w p3_4 q3_4 a.2.2.2.2.2.1) (r3_5 : Rd w p3_5 q3_5 a.2.2.2.2.2.2.1) (r3_6_1 : Rd w p3_6_1 q3_6_1 a.2.2.2.2.2.2.2.1) (r3_6_2 : Rd w p3_6_2 q3_6_2 a.2.2.2.2.2.2.2.2.1) (r3_6_3 : Rd w p3_6_3 q3_6_3 a.2.2.2.2.2.2.2.2.2.1) (r3_6_4 : Rd w p3_6_4 q3_6_4 a.2.2.2.2.2.2.2.2.2.2) : pairResultC.rep w a [.int .i64 a.1, .int .i64 a.2.1.1.1, .slice p2_1_2 a.2.1.1.2.1.length q2_1_2, .int .i64 a.2.1.1.2.2.1, .slice p2_1_4 a.2.1.1.2.2.2.length q2_1_4, .int .i64 a.2.1.2.1, .int .i64 a.2.1.2.2.1, .slice p2_4 a.2.1.2.2.2.1.length q2_4, .slice p2_5 a.2.1.2.2.2.2.1.length q2_5, .slice p2_6_1 a.2.1.2.2.2.2.2.1.length q2_6_1, .slice p2_6_2 a.2.1.2.2.2.2.2.2.1.length q2_6_2, .slice p2_6_3 a.2.1.2.2.2.2.2.2.2.1.length q2_6_3, .slice p2_6_4 a.2.1.2.2.2.2.2.2.2.2.length q2_6_4, .int .i64 a.2.2.1.1, .slice p3_1_2 a.2.2.1.2.1.length q3_1_2, .int .i64 a.2.2.1.2.2.1, .slice p3_1_4 a.2.2.1.2.2.2.length q3_1_4, .int .i64 a.2.2.2.1, .int .i64 a.2.2.2.2.1, .slice p3_4 a.2.2.2.2.2.1.length q3_4, .slice p3_5 a.2.2.2.2.2.2.1.length q3_5, .slice p3_6_1 a.2.2.2.2.2.2.2.1.length q3_6_1, .slice p3_6_2 a.2.2.2.2.2.2.2.2.1.length q3_6_2, .slice p3_6_3 a.2.2.2.2.2.2.2.2.2.1.length q3_6_3, .slice p3_6_4 a.2.2.2.2.2.2.2.2.2.2.length q3_6_4] := ⟨[.int .i64 a.1], _, rfl, rfl, ⟨[.int .i64 a.2.1.1.1, .slice p2_1_2 a.2.1.1.2.1.length q2_1_2, .int .i64 a.2.1.1.2.2.1, .slice p2_1_4 a.2.1.1.2.2.2.length q2_1_4, .int .i64 a.2.1.2.1, .int .i64 a.2.1.2.2.1, .slice p2_4 a.2.1.2.2.2.1.length q2_4, .slice p2_5 a.2.1.2.2.2.2.1.length q2_5, .slice p2_6_1 a.2.1.2.2.2.2.2.1.length q2_6_1, .slice p2_6_2 a.2.1.2.2.2.2.2.2.1.length q2_6_2, .slice p2_6_3 a.2.1.2.2.2.2.2.2.2.1.length q2_6_3, .slice p2_6_4 a.2.1.2.2.2.2.2.2.2.2.length q2_6_4], _, rfl, (end_mk r2_1_2 r2_1_4 r2_4 r2_5 r2_6_1 r2_6_2 r2_6_3 r2_6_4), (end_mk r3_1_2 r3_1_4 r3_4 r3_5 r3_6_1 r3_6_2 r3_6_3 r3_6_4)⟩⟩
def pairResultT (a : PairResultD) : Nat := endT a.2.1 + endT a.2.2
def pairResultM (a : PairResultD) (m : Nat) : PairResultD := (a.1, endM a.2.1 m, endM a.2.2 (m + endT a.2.1))

def pairResultN (a : PairResultD) : Nat := endN a.2.1 + endN a.2.2
theorem pairResultT_le (a : PairResultD) : pairResultT a ≤ 8 * pairResultN a := by
  have h1 := endT_le a.2.1
  have h2 := endT_le a.2.2
  unfold pairResultT pairResultN
  omega






end Go.Proofs.YtiabacnmmojfjaaGreatDoor

/- The contracts of the laws' helpers on lists of bytes, and on answers that hold such a list: toByteSS, szByteSS, eqByteSS, markByteSS, heldByteSS; eqBlocksResult, markBlocksResult, heldBlocksResult. -/
namespace Go.Proofs.YtiabacnmmojfjaaGreatDoor
open Go.ChangeShapes Go.WideShapes Go.ChangeAt Go.RowKit

abbrev BlkD := List UInt8
theorem blk_rep {w : World} {a : BlkD} {vs : List Value} (h : bytC.rep w a vs) : ∃ p q, vs = [.slice p a.length q] ∧ Rd w p q a := h
theorem blk_own {w : World} {B : Nat} {a : BlkD} {vs : List Value} {fp : List Nat} (h : bytC.own w B a vs fp) : ∃ v, vs = [v] ∧ Own w B v a ∧ fp = v.ownBlock.toList := h
theorem blk_own_mk {w : World} {B : Nat} {a : BlkD} {v : Value} (o : Own w B v a) : bytC.own w B a [v] v.ownBlock.toList := ⟨v, rfl, o, rfl⟩
def sumB (l : List BlkD) : Nat := (l.map List.length).sum
def bulkB (l : List BlkD) : Nat := sumB l + l.length
theorem sumB_take {l : List BlkD} {k : Nat} {a : BlkD} (h : l[k]? = some a) : sumB (l.take (k + 1)) = sumB (l.take k) + a.length := by
  rw [List.take_add_one, h]; simp [sumB]
theorem sumB_append (l r : List BlkD) : sumB (l ++ r) = sumB l + sumB r := by simp [sumB]
theorem sumB_le (l : List BlkD) (k : Nat) : sumB (l.take k) ≤ sumB l := by
  conv => rhs; rw [← List.take_append_drop k l, sumB_append]
  omega
theorem sumB_at {l : List BlkD} {k : Nat} {a : BlkD} (h : l[k]? = some a) : a.length ≤ sumB l := by
  have h1 := sumB_take h
  have h2 := sumB_le l (k + 1)
  omega

theorem infoBlk : (Tryz.prog.info? 22).map (fun i => (i.zero, i.size, i.bytes)) = some (some (.slice none 0 0), 1, 24) := by kernel_rfl



def mkB : List BlkD → Nat → List BlkD
  | [], _ => []
  | a :: l, m => marks m a.length :: mkB l (m + a.length)
theorem mkB_append : ∀ (l r : List BlkD) (m : Nat), mkB (l ++ r) m = mkB l m ++ mkB r (m + sumB l)
  | [], r, m => by simp [mkB, sumB]
  | a :: l, r, m => by
    rw [List.cons_append, mkB, mkB, mkB_append l r, List.cons_append, show m + a.length + sumB l = m + sumB (a :: l) by simp [sumB]; omega]
theorem mkB_len : ∀ (l : List BlkD) (m : Nat), (mkB l m).length = l.length
  | [], _ => rfl
  | a :: l, m => by rw [mkB, List.length_cons, mkB_len l, List.length_cons]
theorem mkB_take {l : List BlkD} {k : Nat} {a : BlkD} (h : l[k]? = some a) (m : Nat) : mkB (l.take (k + 1)) m = mkB (l.take k) m ++ [marks (m + sumB (l.take k)) a.length] := by
  rw [List.take_add_one, h, mkB_append]; rfl
theorem mkB_at {l : List BlkD} {k : Nat} {a : BlkD} (h : l[k]? = some a) (m : Nat) : (mkB l m)[k]? = some (marks (m + sumB (l.take k)) a.length) := by
  have hk := (List.getElem?_eq_some_iff.1 h).1
  conv => lhs; rw [← List.take_append_drop k l, drop_at h, mkB_append]
  rw [List.getElem?_append_right (by rw [mkB_len, List.length_take]; omega), mkB_len, List.length_take, Nat.min_eq_left (by omega), Nat.sub_self]
  rfl



end Go.Proofs.YtiabacnmmojfjaaGreatDoor

/- How BytesResult lies in memory, and the contracts of the laws' helpers on it (written by tools/codgen.py). -/
namespace Go.Proofs.YtiabacnmmojfjaaGreatDoor
open Go.ChangeShapes Go.WideShapes Go.ChangeAt Go.RowKit

abbrev BytesResultD := Int × List UInt8
def bytesResultC : Cod BytesResultD := prodC (intC .i64) bytC
theorem bytesResult_rep {w : World} {a : BytesResultD} {vs : List Value} (h : bytesResultC.rep w a vs) : ∃ p2 q2, vs = [.int .i64 a.1, .slice p2 a.2.length q2] ∧ Rd w p2 q2 a.2 := by
  obtain ⟨us0, ts0, rfl, h0, h1⟩ := h
  have e0 : us0 = [Value.int .i64 _] := h0
  subst e0
  obtain ⟨p2, q2, rfl, r2⟩ := h1
  exact ⟨p2, q2, rfl, r2⟩
theorem bytesResult_mk {w : World} {a : BytesResultD} {p2 : Option Addr} {q2 : Nat} (r2 : Rd w p2 q2 a.2) : bytesResultC.rep w a [.int .i64 a.1, .slice p2 a.2.length q2] := ⟨[.int .i64 a.1], _, rfl, rfl, ⟨p2, q2, rfl, r2⟩⟩
def bytesResultT (a : BytesResultD) : Nat := a.2.length
def bytesResultM (a : BytesResultD) (m : Nat) : BytesResultD := (a.1, marks m a.2.length)

def bytesResultN (a : BytesResultD) : Nat := a.2.length
theorem bytesResultT_le (a : BytesResultD) : bytesResultT a ≤ 8 * bytesResultN a := by
  unfold bytesResultT bytesResultN
  omega






end Go.Proofs.YtiabacnmmojfjaaGreatDoor

/- How SecretsResult lies in memory, and the contracts of the laws' helpers on it (written by tools/codgen.py). -/
namespace Go.Proofs.YtiabacnmmojfjaaGreatDoor
open Go.ChangeShapes Go.WideShapes Go.ChangeAt Go.RowKit

abbrev SecretsResultD := Int × SecretsD
def secretsResultC : Cod SecretsResultD := prodC (intC .i64) secretsC
theorem secretsResult_rep {w : World} {a : SecretsResultD} {vs : List Value} (h : secretsResultC.rep w a vs) : ∃ p2_1 q2_1 p2_2 q2_2 p2_3 q2_3 p2_4 q2_4, vs = [.int .i64 a.1, .slice p2_1 a.2.1.length q2_1, .slice p2_2 a.2.2.1.length q2_2, .slice p2_3 a.2.2.2.1.length q2_3, .slice p2_4 a.2.2.2.2.length q2_4] ∧ Rd w p2_1 q2_1 a.2.1 ∧ Rd w p2_2 q2_2 a.2.2.1 ∧ Rd w p2_3 q2_3 a.2.2.2.1 ∧ Rd w p2_4 q2_4 a.2.2.2.2 := by
  obtain ⟨us0, ts0, rfl, h0, h1⟩ := h
  have e0 : us0 = [Value.int .i64 _] := h0
  subst e0
  obtain ⟨p2_1, q2_1, p2_2, q2_2, p2_3, q2_3, p2_4, q2_4, rfl, r2_1, r2_2, r2_3, r2_4⟩ := secrets_rep h1
  exact ⟨p2_1, q2_1, p2_2, q2_2, p2_3, q2_3, p2_4, q2_4, rfl, r2_1, r2_2, r2_3, r2_4⟩
theorem secretsResult_mk {w : World} {a : SecretsResultD} {p2_1 : Option Addr} {q2_1 : Nat} {p2_2 : Option Addr} {q2_2 : Nat} {p2_3 : Option Addr} {q2_3 : Nat} {p2_4 : Option Addr} {q2_4 : Nat} (r2_1 : Rd w p2_1 q2_1 a.2.1) (r2_2 : Rd w p2_2 q2_2 a.2.2.1) (r2_3 : Rd w p2_3 q2_3 a.2.2.2.1) (r2_4 : Rd w p2_4 q2_4 a.2.2.2.2) : secretsResultC.rep w a [.int .i64 a.1, .slice p2_1 a.2.1.length q2_1, .slice p2_2 a.2.2.1.length q2_2, .slice p2_3 a.2.2.2.1.length q2_3, .slice p2_4 a.2.2.2.2.length q2_4] := ⟨[.int .i64 a.1], _, rfl, rfl, (secrets_mk r2_1 r2_2 r2_3 r2_4)⟩
def secretsResultT (a : SecretsResultD) : Nat := secretsT a.2
def secretsResultM (a : SecretsResultD) (m : Nat) : SecretsResultD := (a.1, secretsM a.2 m)

def secretsResultN (a : SecretsResultD) : Nat := secretsN a.2
theorem secretsResultT_le (a : SecretsResultD) : secretsResultT a ≤ 8 * secretsResultN a := by
  have h1 := secretsT_le a.2
  unfold secretsResultT secretsResultN
  omega






end Go.Proofs.YtiabacnmmojfjaaGreatDoor

/- The contracts of the draws of bytes and of texts: some bytes, at most so many; some text. -/
namespace Go.Proofs.YtiabacnmmojfjaaGreatDoor
open Go.ChangeShapes Go.WideShapes Go.ChangeAt Go.RowKit

/-- Behind a call that writes, of what lay there, block b alone: a step that writes new blocks alone. -/
theorem grownBy_step {w x y : World} {b : Nat} {row : Option Nat} (h : w.grownBy x (some b)) (k : x.grownBy y row) (hr : ∀ j, row = some j → w.heap.size ≤ j ∨ j = b) : w.grownBy y (some b) :=
  ⟨k.os.trans h.os, k.tape.trans h.tape, k.output.trans h.output, Nat.le_trans h.size k.size, fun i hi hne =>
    (k.block i (Nat.lt_of_lt_of_le hi h.size) (fun e => by
      rcases hr i e.symm with h1 | h1
      · omega
      · exact hne (by rw [h1]))).trans (h.block i hi hne)⟩

set_option maxRecDepth 4000 in
set_option maxHeartbeats 1000000 in
theorem l1Chance_c (b : Nat) (p : Option Addr) (q : Nat) (cs : List UInt8) (t n : Int) (w : World) (hs : Src w b p q cs t) (ht : 0 ≤ t) (ht2 : t ≤ 1000000000) (hn : 1 ≤ n) (hn2 : n ≤ 1000000) :
    Calls Tryz.prog 73 #[.pointer (some ⟨b, 0, none⟩), .int .i64 n] w fun e w' => ∃ r : Bool, e = .returned (.bool r) ∧ Src w' b p q cs (t + 1) ∧ w.grownBy w' (some b) := by
  go_enter Tryz.func73, Tryz.ntmps73
  go_wp2_with fail
  refine (l1Next_c b p q cs t n w hs ht ht2 hn (by omega)).mono ?_
  rintro e w1 ⟨r, rfl, hr0, hr1, hs1, hg1⟩
  go_wp2
  go_ret
  exact ⟨_, rfl, hs1, hg1⟩

set_option maxRecDepth 4000 in
set_option maxHeartbeats 2000000 in
theorem l1Some_c (b : Nat) (p : Option Addr) (q : Nat) (cs : List UInt8) (t n : Int) (w : World) (hs : Src w b p q cs t) (ht : 0 ≤ t) (ht2 : t ≤ 900000000) (hn : 0 ≤ n) (hn2 : n ≤ 1000000) :
    Calls Tryz.prog 134 #[.pointer (some ⟨b, 0, none⟩), .int .i64 n] w fun e w' => ∃ (u : Value) (bs : List UInt8), e = .returned u ∧ bs.length = n.toNat ∧ Own w' w.heap.size u bs ∧ Src w' b p q cs (t + n) ∧ w.grownBy w' (some b) := by
  obtain ⟨i0, hi, hz0, hz1, hz2⟩ := info_parts info8
  have hbw := hs.lt
  go_enter Tryz.func134, Tryz.ntmps134
  go_wp2
  go_loopw [1, 5] (fun m v wr => ∃ (k : Nat) (bs : List UInt8), (k : Int) ≤ n ∧ m = .int .i64 (n - k) ∧ bs.length = k ∧ Own wr w.heap.size v bs ∧ Src wr b p q cs (t + k) ∧ w.grownBy wr (some b))
    (fun m _ _ => (intOf m).toNat)
  case atStart => exact ⟨0, [], by omega, by simp, rfl, ⟨by simp, .inr ⟨w.heap.size, 0, #[], rfl, Nat.le_refl _, heap_alloc_new w _, Nat.le_refl _, by simp [maxLen], by simp, by simp⟩⟩, by simpa using hs.keep (alloc_below _ _), World.grownBy_alloc _ _ _⟩
  case round =>
    obtain ⟨k, bs, hk, rfl, hbs, ho, hs1, hg⟩ := hrel
    obtain ⟨pv, cv, rfl, -⟩ := ho.rd
    by_cases hend : (k : Int) = n
    · have hge : n - (k : Int) ≤ 0 := by omega
      have HE : Hid ((k : Int) = n) := hend
      clear hend
      go_wp2
      go_ret
      exact ⟨_, bs, rfl, by have := HE.out; omega, ho, by have := HE.out; rw [← this]; exact hs1, hg⟩
    · have hpos : 0 < n - (k : Int) := by omega
      go_wp2_with fail
      refine (l1Next_c b p q cs (t + k) 256 wr hs1 (by omega) (by omega) (by omega) (by omega)).mono ?_
      rintro e w1 ⟨r, rfl, hr0, hr1, hs2, hg2⟩
      have ho1 := ho.other hg2 (fun j hj e => by have := ho.ge j hj; simp at e; omega)
      have ho2 : w1.ownsRow w.heap.size 5 1 (.slice pv k cv) k (bs.map u8v) := by have h := ho1; unfold Own at h; rw [hbs] at h; exact h
      have hge : Hid (∀ j, (Value.slice pv k cv).ownBlock = some j → w.heap.size ≤ j) := fun j hj => (World.ownsRow.lt ho2 j hj).1
      have hsz : w.heap.size ≤ w1.heap.size := Nat.le_trans hg.size hg2.size
      have hkk : k ≤ 1000000 := by omega
      rw [hbs]
      go_wp2_with (first
        | (at_builtin; refine wpList_append_lies _ rfl (.tmp 11) (.tmp 15) 22 rfl w.heap.size 5 i0 (.int .u8 0) 1 1 Tryz.underlying22 hi hz0 hz1 hz2 rfl (by decide) (.slice pv k cv) k (bs.map u8v) rfl (World.ownsRow.alloc ho2 _) ⟨w1.heap.size, 0, none⟩ 1 1 [.int .u8 r] rfl rfl (cell_one_new w1 _ _) (by intro u hu; simp at hu; subst hu; rfl) (by decide) (by unfold maxLen; omega) (by omega) (by simp; omega) (w1.heap.size + 1) (by simp) ?_; intro g cap2 w3 hown3 hgrow3 hat3 hlt3)
        | go_in)
      have er : r = ((UInt8.ofNat r.toNat).toNat : Int) := by rw [UInt8.toNat_ofNat']; omega
      have R : Own w3 w.heap.size (.slice (some ⟨g, 0, none⟩) (k + 1) cap2) (bs ++ [UInt8.ofNat r.toNat]) := by
        refine own_one ?_
        rw [← er, hbs]
        exact hown3
      have RS : Src w3 b p q cs (t + k + 1) := (hs2.keep (alloc_below _ _)).other hgrow3 (fun j hj => by have := hge.out j hj; omega)
      have RG : w.grownBy w3 (some b) := grownBy_step (grownBy_step (grownBy_step hg hg2 (fun j hj => .inr (by simpa using hj.symm))) (World.grownBy_alloc _ _ none) (fun j hj => by simp at hj)) hgrow3 (fun j hj => .inl (hge.out j hj))
      go_roundw
      case rel => exact ⟨k + 1, bs ++ [UInt8.ofNat r.toNat], by omega, by go_num, by simp [hbs], R, by rw [show t + ((k + 1 : Nat) : Int) = t + k + 1 by omega]; exact RS, RG⟩
      case measure => simp [intOf]; omega


end Go.Proofs.YtiabacnmmojfjaaGreatDoor

/- The contracts of MixRound and of what it calls besides a round, in the specification and in the program: both answer mixCode and mixList, at every argument. -/
namespace Go.Proofs.YtiabacnmmojfjaaGreatDoor
open Go.ChangeShapes Go.WideShapes Go.ChangeAt Go.RowKit

def isW (v : Int) : Bool := inB v 0 4294967295
def mixOk (l : List Int) (word key : Int) : Bool := l.all isW && isW word && isW key
def s8 (l : List Int) : S8 := ⟨(atI l 0).toNat, (atI l 1).toNat, (atI l 2).toNat, (atI l 3).toNat, (atI l 4).toNat, (atI l 5).toNat, (atI l 6).toNat, (atI l 7).toNat⟩
def mixCode (l : List Int) (word key : Int) : Int := if l.length = 8 then (if mixOk l word key then 0 else 3) else 1
def mixList (l : List Int) (word key : Int) : List Int := if l.length = 8 then (if mixOk l word key then (roundN (s8 l) word.toNat key.toNat).list.map Int.ofNat else []) else []
theorem mixList_len (l : List Int) (word key : Int) : (mixList l word key).length ≤ 8 := by
  unfold mixList; split
  · split <;> simp [S8.list]
  · simp
theorem isW_at {l : List Int} (h : l.all isW = true) (i : Nat) : 0 ≤ atI l i ∧ atI l i ≤ 4294967295 := by
  unfold atI
  rw [List.getD_eq_getElem?_getD]
  cases e : l[i]? with
  | none => simp
  | some x =>
    have h2 := (List.all_eq_true.1 h) x (List.mem_of_getElem? e)
    simpa [isW, inB] using h2
theorem all_of_at {l : List Int} (h : ∀ j, j < l.length → isW (atI l j) = true) : l.all isW = true := by
  rw [List.all_eq_true]
  intro x hx
  obtain ⟨i, hi, rfl⟩ := List.mem_iff_getElem.1 hx
  rw [← atI_get hi]; exact h i hi
theorem not_all_at {l : List Int} {j : Nat} (hj : j < l.length) (h : isW (atI l j) = false) : l.all isW = false := by
  rw [List.all_eq_false]
  exact ⟨l[j], List.getElem_mem hj, by rw [← atI_get hj, h]; simp⟩
theorem partI_arr (l : List Int) (k : Nat) (h : k < l.length) : (partI l l.length k).set k (.int .i64 (atI l k)) = partI l l.length (k + 1) := partI_set l k h

theorem i64_of_l {l : List Int} (h : l.length = 8) (ha : l.all isW = true) : (l.map i64z).toArray = (s8 l).i64 := by
  have e := fun i => Int.toNat_of_nonneg (isW_at ha i).1
  have e0 := e 0; have e1 := e 1; have e2 := e 2; have e3 := e 3; have e4 := e 4; have e5 := e 5; have e6 := e 6; have e7 := e 7
  unfold S8.i64 s8
  simp only [e0, e1, e2, e3, e4, e5, e6, e7]
  match l, h with
  | [a, b, c, d, e, f, g, q], _ => rfl
theorem s8_ok {l : List Int} (ha : l.all isW = true) : (s8 l).ok := by
  have e : ∀ i, (atI l i).toNat < 4294967296 := fun i => by have := isW_at ha i; omega
  exact ⟨e 0, e 1, e 2, e 3, e 4, e 5, e 6, e 7⟩
theorem isW_nat {v : Int} (h : isW v = true) : ∃ n : Nat, v = n ∧ n < 4294967296 := by
  simp [isW, inB] at h
  exact ⟨v.toNat, by omega, by omega⟩
theorem l2Round_s (s : S8) (word key : Nat) (w : World) (h : s.ok) (hw : word < 4294967296) (hk : key < 4294967296) :
    Calls Tryz.prog 171 #[.agg s.i64, .int .i64 word, .int .i64 key] w fun r w' => r = .returned (.agg (roundN s word key).i64) ∧ Below w.heap.size w w' :=
  l2Round_c s.a s.b s.c s.d s.e s.f s.g s.h word key w h.1 h.2.1 h.2.2.1 h.2.2.2.1 h.2.2.2.2.1 h.2.2.2.2.2.1 h.2.2.2.2.2.2.1 h.2.2.2.2.2.2.2 hw hk
theorem mixed_s (s : S8) (word key : Nat) (w : World) (h : s.ok) :
    Calls Tryz.prog 217 #[.agg s.u32, .int .u32 word, .int .u32 key] w fun r w' => r = .returned (.agg (roundN s word key).u32) ∧ Below w.heap.size w w' :=
  mixed_c s.a s.b s.c s.d s.e s.f s.g s.h word key w h.1 h.2.1 h.2.2.1 h.2.2.2.2.1 h.2.2.2.2.2.1 h.2.2.2.2.2.2.1


def u32z (z : Int) : Value := .int .u32 z
theorem u32z_at {l : List Int} {i : Nat} (h : i < l.length) : (l.map u32z)[i]? = some (.int .u32 (atI l i)) := by simp [u32z, atI, h]
theorem u32_of_l {l : List Int} (h : l.length = 8) (ha : l.all isW = true) : (l.map u32z).toArray = (s8 l).u32 := by
  have e := fun i => Int.toNat_of_nonneg (isW_at ha i).1
  have e0 := e 0; have e1 := e 1; have e2 := e 2; have e3 := e 3; have e4 := e 4; have e5 := e 5; have e6 := e 6; have e7 := e 7
  unfold S8.u32 s8
  simp only [e0, e1, e2, e3, e4, e5, e6, e7]
  match l, h with
  | [a, b, c, d, e, f, g, q], _ => rfl



theorem allW_nat {ws : List Nat} (h : Words ws) : (ws.map Int.ofNat).all isW = true := by
  rw [List.all_eq_true]
  intro x hx
  obtain ⟨n, hn, rfl⟩ := List.mem_map.1 hx
  have := h n hn
  simp [isW, inB]
  omega
theorem S8.words {s : S8} (h : s.ok) : Words s.list := by
  intro x hx
  simp only [S8.list, List.mem_cons, List.not_mem_nil, or_false] at hx
  obtain ⟨h1, h2, h3, h4, h5, h6, h7, h8⟩ := h
  rcases hx with rfl | rfl | rfl | rfl | rfl | rfl | rfl | rfl <;> assumption

end Go.Proofs.YtiabacnmmojfjaaGreatDoor

