/- How PairResult lies in memory, and the contracts of the laws' helpers on it (written by tools/codgen.py). -/
import Derived.Test.YtiabacnmmojfjabGreatDoorJoint7
import Derived.Test.YtiabacnmmojfjabGreatDoorEndC
namespace Go.Proofs.YtiabacnmmojfjabGreatDoor
open Go.ChangeShapes Go.WideShapes Go.ChangeAt Go.RowKit

abbrev PairResultD := Int × EndD × EndD
def pairResultC : Cod PairResultD := prodC (intC .i64) (prodC endC endC)
theorem pairResult_rep {w : World} {a : PairResultD} {vs : List Value} (h : pairResultC.rep w a vs) : ∃ p2_1_2 q2_1_2 p2_1_4 q2_1_4 p2_4 q2_4 p2_5 q2_5 p2_6_1 q2_6_1 p2_6_2 q2_6_2 p2_6_3 q2_6_3 p2_6_4 q2_6_4 p3_1_2 q3_1_2 p3_1_4 q3_1_4 p3_4 q3_4 p3_5 q3_5 p3_6_1 q3_6_1 p3_6_2 q3_6_2 p3_6_3 q3_6_3 p3_6_4 q3_6_4, vs = [.int .i64 a.1, .int .i64 a.2.1.1.1, .slice p2_1_2 a.2.1.1.2.1.length q2_1_2, .int .i64 a.2.1.1.2.2.1, .slice p2_1_4 a.2.1.1.2.2.2.length q2_1_4, .int .i64 a.2.1.2.1, .int .i64 a.2.1.2.2.1, .slice p2_4 a.2.1.2.2.2.1.length q2_4, .slice p2_5 a.2.1.2.2.2.2.1.length q2_5, .slice p2_6_1 a.2.1.2.2.2.2.2.1.length q2_6_1, .slice p2_6_2 a.2.1.2.2.2.2.2.2.1.length q2_6_2, .slice p2_6_3 a.2.1.2.2.2.2.2.2.2.1.length q2_6_3, .slice p2_6_4 a.2.1.2.2.2.2.2.2.2.2.length q2_6_4, .int .i64 a.2.2.1.1, .slice p3_1_2 a.2.2.1.2.1.length q3_1_2, .int .i64 a.2.2.1.2.2.1, .slice p3_1_4 a.2.2.1.2.2.2.length q3_1_4, .int .i64 a.2.2.2.1, .int .i64 a.2.2.2.2.1, .slice p3_4 a.2.2.2.2.2.1.length q3_4, .slice p3_5 a.2.2.2.2.2.2.1.length q3_5, .slice p3_6_1 a.2.2.2.2.2.2.2.1.length q3_6_1, .slice p3_6_2 a.2.2.2.2.2.2.2.2.1.length q3_6_2, .slice p3_6_3 a.2.2.2.2.2.2.2.2.2.1.length q3_6_3, .slice p3_6_4 a.2.2.2.2.2.2.2.2.2.2.length q3_6_4] ∧ Rd w p2_1_2 q2_1_2 a.2.1.1.2.1 ∧ Rd w p2_1_4 q2_1_4 a.2.1.1.2.2.2 ∧ RdL msgC w p2_4 q2_4 a.2.1.2.2.2.1 ∧ Rd w p2_5 q2_5 a.2.1.2.2.2.2.1 ∧ Rd w p2_6_1 q2_6_1 a.2.1.2.2.2.2.2.1 ∧ Rd w p2_6_2 q2_6_2 a.2.1.2.2.2.2.2.2.1 ∧ Rd w p2_6_3 q2_6_3 a.2.1.2.2.2.2.2.2.2.1 ∧ Rd w p2_6_4 q2_6_4 a.2.1.2.2.2.2.2.2.2.2 ∧ Rd w p3_1_2 q3_1_2 a.2.2.1.2.1 ∧ Rd w p3_1_4 q3_1_4 a.2.2.1.2.2.2 ∧ RdL msgC w p3_4 q3_4 a.2.2.2.2.2.1 ∧ Rd w p3_5 q3_5 a.2.2.2.2.2.2.1 ∧ Rd w p3_6_1 q3_6_1 a.2.2.2.2.2.2.2.1 ∧ Rd w p3_6_2 q3_6_2 a.2.2.2.2.2.2.2.2.1 ∧ Rd w p3_6_3 q3_6_3 a.2.2.2.2.2.2.2.2.2.1 ∧ Rd w p3_6_4 q3_6_4 a.2.2.2.2.2.2.2.2.2.2 := by
  obtain ⟨us0, ts0, rfl, h0, us1, ts1, rfl, h1, h2⟩ := h
  have e0 : us0 = [Value.int .i64 _] := h0
  subst e0
  obtain ⟨p2_1_2, q2_1_2, p2_1_4, q2_1_4, p2_4, q2_4, p2_5, q2_5, p2_6_1, q2_6_1, p2_6_2, q2_6_2, p2_6_3, q2_6_3, p2_6_4, q2_6_4, rfl, r2_1_2, r2_1_4, r2_4, r2_5, r2_6_1, r2_6_2, r2_6_3, r2_6_4⟩ := end_rep h1
  obtain ⟨p3_1_2, q3_1_2, p3_1_4, q3_1_4, p3_4, q3_4, p3_5, q3_5, p3_6_1, q3_6_1, p3_6_2, q3_6_2, p3_6_3, q3_6_3, p3_6_4, q3_6_4, rfl, r3_1_2, r3_1_4, r3_4, r3_5, r3_6_1, r3_6_2, r3_6_3, r3_6_4⟩ := end_rep h2
  exact ⟨p2_1_2, q2_1_2, p2_1_4, q2_1_4, p2_4, q2_4, p2_5, q2_5, p2_6_1, q2_6_1, p2_6_2, q2_6_2, p2_6_3, q2_6_3, p2_6_4, q2_6_4, p3_1_2, q3_1_2, p3_1_4, q3_1_4, p3_4, q3_4, p3_5, q3_5, p3_6_1, q3_6_1, p3_6_2, q3_6_2, p3_6_3, q3_6_3, p3_6_4, q3_6_4, rfl, r2_1_2, r2_1_4, r2_4, r2_5, r2_6_1, r2_6_2, r2_6_3, r2_6_4, r3_1_2, r3_1_4, r3_4, r3_5, r3_6_1, r3_6_2, r3_6_3, r3_6_4⟩
theorem pairResult_mk {w : World} {a : PairResultD} {p2_1_2 : Option Addr} {q2_1_2 : Nat} {p2_1_4 : Option Addr} {q2_1_4 : Nat} {p2_4 : Option Addr} {q2_4 : Nat} {p2_5 : Option Addr} {q2_5 : Nat} {p2_6_1 : Option Addr} {q2_6_1 : Nat} {p2_6_2 : Option Addr} {q2_6_2 : Nat} {p2_6_3 : Option Addr} {q2_6_3 : Nat} {p2_6_4 : Option Addr} {q2_6_4 : Nat} {p3_1_2 : Option Addr} {q3_1_2 : Nat} {p3_1_4 : Option Addr} {q3_1_4 : Nat} {p3_4 : Option Addr} {q3_4 : Nat} {p3_5 : Option Addr} {q3_5 : Nat} {p3_6_1 : Option Addr} {q3_6_1 : Nat} {p3_6_2 : Option Addr} {q3_6_2 : Nat} {p3_6_3 : Option Addr} {q3_6_3 : Nat} {p3_6_4 : Option Addr} {q3_6_4 : Nat} (r2_1_2 : Rd w p2_1_2 q2_1_2 a.2.1.1.2.1) (r2_1_4 : Rd w p2_1_4 q2_1_4 a.2.1.1.2.2.2) (r2_4 : RdL msgC w p2_4 q2_4 a.2.1.2.2.2.1) (r2_5 : Rd w p2_5 q2_5 a.2.1.2.2.2.2.1) (r2_6_1 : Rd w p2_6_1 q2_6_1 a.2.1.2.2.2.2.2.1) (r2_6_2 : Rd w p2_6_2 q2_6_2 a.2.1.2.2.2.2.2.2.1) (r2_6_3 : Rd w p2_6_3 q2_6_3 a.2.1.2.2.2.2.2.2.2.1) (r2_6_4 : Rd w p2_6_4 q2_6_4 a.2.1.2.2.2.2.2.2.2.2) (r3_1_2 : Rd w p3_1_2 q3_1_2 a.2.2.1.2.1) (r3_1_4 : Rd w p3_1_4 q3_1_4 a.2.2.1.2.2.2) (r3_4 : RdL msgC w p3_4 q3_4 a.2.2.2.2.2.1) (r3_5 : Rd w p3_5 q3_5 a.2.2.2.2.2.2.1) (r3_6_1 : Rd w p3_6_1 q3_6_1 a.2.2.2.2.2.2.2.1) (r3_6_2 : Rd w p3_6_2 q3_6_2 a.2.2.2.2.2.2.2.2.1) (r3_6_3 : Rd w p3_6_3 q3_6_3 a.2.2.2.2.2.2.2.2.2.1) (r3_6_4 : Rd w p3_6_4 q3_6_4 a.2.2.2.2.2.2.2.2.2.2) : pairResultC.rep w a [.int .i64 a.1, .int .i64 a.2.1.1.1, .slice p2_1_2 a.2.1.1.2.1.length q2_1_2, .int .i64 a.2.1.1.2.2.1, .slice p2_1_4 a.2.1.1.2.2.2.length q2_1_4, .int .i64 a.2.1.2.1, .int .i64 a.2.1.2.2.1, .slice p2_4 a.2.1.2.2.2.1.length q2_4, .slice p2_5 a.2.1.2.2.2.2.1.length q2_5, .slice p2_6_1 a.2.1.2.2.2.2.2.1.length q2_6_1, .slice p2_6_2 a.2.1.2.2.2.2.2.2.1.length q2_6_2, .slice p2_6_3 a.2.1.2.2.2.2.2.2.2.1.length q2_6_3, .slice p2_6_4 a.2.1.2.2.2.2.2.2.2.2.length q2_6_4, .int .i64 a.2.2.1.1, .slice p3_1_2 a.2.2.1.2.1.length q3_1_2, .int .i64 a.2.2.1.2.2.1, .slice p3_1_4 a.2.2.1.2.2.2.length q3_1_4, .int .i64 a.2.2.2.1, .int .i64 a.2.2.2.2.1, .slice p3_4 a.2.2.2.2.2.1.length q3_4, .slice p3_5 a.2.2.2.2.2.2.1.length q3_5, .slice p3_6_1 a.2.2.2.2.2.2.2.1.length q3_6_1, .slice p3_6_2 a.2.2.2.2.2.2.2.2.1.length q3_6_2, .slice p3_6_3 a.2.2.2.2.2.2.2.2.2.1.length q3_6_3, .slice p3_6_4 a.2.2.2.2.2.2.2.2.2.2.length q3_6_4] := ⟨[.int .i64 a.1], _, rfl, rfl, ⟨[.int .i64 a.2.1.1.1, .slice p2_1_2 a.2.1.1.2.1.length q2_1_2, .int .i64 a.2.1.1.2.2.1, .slice p2_1_4 a.2.1.1.2.2.2.length q2_1_4, .int .i64 a.2.1.2.1, .int .i64 a.2.1.2.2.1, .slice p2_4 a.2.1.2.2.2.1.length q2_4, .slice p2_5 a.2.1.2.2.2.2.1.length q2_5, .slice p2_6_1 a.2.1.2.2.2.2.2.1.length q2_6_1, .slice p2_6_2 a.2.1.2.2.2.2.2.2.1.length q2_6_2, .slice p2_6_3 a.2.1.2.2.2.2.2.2.2.1.length q2_6_3, .slice p2_6_4 a.2.1.2.2.2.2.2.2.2.2.length q2_6_4], _, rfl, (end_mk r2_1_2 r2_1_4 r2_4 r2_5 r2_6_1 r2_6_2 r2_6_3 r2_6_4), (end_mk r3_1_2 r3_1_4 r3_4 r3_5 r3_6_1 r3_6_2 r3_6_3 r3_6_4)⟩⟩
def pairResultT (a : PairResultD) : Nat := endT a.2.1 + endT a.2.2
def pairResultM (a : PairResultD) (m : Nat) : PairResultD := (a.1, endM a.2.1 m, endM a.2.2 (m + endT a.2.1))

def pairResultN (a : PairResultD) : Nat := endN a.2.1 + endN a.2.2
theorem pairResultT_le (a : PairResultD) : pairResultT a ≤ 8 * pairResultN a := by
  have h1 := endT_le a.2.1
  have h2 := endT_le a.2.2
  unfold pairResultT pairResultN
  omega



set_option maxRecDepth 4000 in
set_option maxHeartbeats 1000000 in
theorem eqPairResult_k (a : PairResultD) (us vs : List Value) (w : World) (h1 : pairResultC.rep w a us) (h2 : pairResultC.rep w a vs) :
    Calls Tryz.prog 29 #[.agg us.toArray, .agg vs.toArray] w fun e w' => e = .returned (.bool true) ∧ Below w.heap.size w w' := by
  obtain ⟨p2_1_2, q2_1_2, p2_1_4, q2_1_4, p2_4, q2_4, p2_5, q2_5, p2_6_1, q2_6_1, p2_6_2, q2_6_2, p2_6_3, q2_6_3, p2_6_4, q2_6_4, p3_1_2, q3_1_2, p3_1_4, q3_1_4, p3_4, q3_4, p3_5, q3_5, p3_6_1, q3_6_1, p3_6_2, q3_6_2, p3_6_3, q3_6_3, p3_6_4, q3_6_4, rfl, r2_1_2, r2_1_4, r2_4, r2_5, r2_6_1, r2_6_2, r2_6_3, r2_6_4, r3_1_2, r3_1_4, r3_4, r3_5, r3_6_1, r3_6_2, r3_6_3, r3_6_4⟩ := pairResult_rep h1
  obtain ⟨pb2_1_2, qb2_1_2, pb2_1_4, qb2_1_4, pb2_4, qb2_4, pb2_5, qb2_5, pb2_6_1, qb2_6_1, pb2_6_2, qb2_6_2, pb2_6_3, qb2_6_3, pb2_6_4, qb2_6_4, pb3_1_2, qb3_1_2, pb3_1_4, qb3_1_4, pb3_4, qb3_4, pb3_5, qb3_5, pb3_6_1, qb3_6_1, pb3_6_2, qb3_6_2, pb3_6_3, qb3_6_3, pb3_6_4, qb3_6_4, rfl, rb2_1_2, rb2_1_4, rb2_4, rb2_5, rb2_6_1, rb2_6_2, rb2_6_3, rb2_6_4, rb3_1_2, rb3_1_4, rb3_4, rb3_5, rb3_6_1, rb3_6_2, rb3_6_3, rb3_6_4⟩ := pairResult_rep h2
  clear h1 h2
  have BW : Below w.heap.size w ((w.alloc (.cells #[.int .i64 a.1, .int .i64 a.2.1.1.1, .slice p2_1_2 a.2.1.1.2.1.length q2_1_2, .int .i64 a.2.1.1.2.2.1, .slice p2_1_4 a.2.1.1.2.2.2.length q2_1_4, .int .i64 a.2.1.2.1, .int .i64 a.2.1.2.2.1, .slice p2_4 a.2.1.2.2.2.1.length q2_4, .slice p2_5 a.2.1.2.2.2.2.1.length q2_5, .slice p2_6_1 a.2.1.2.2.2.2.2.1.length q2_6_1, .slice p2_6_2 a.2.1.2.2.2.2.2.2.1.length q2_6_2, .slice p2_6_3 a.2.1.2.2.2.2.2.2.2.1.length q2_6_3, .slice p2_6_4 a.2.1.2.2.2.2.2.2.2.2.length q2_6_4, .int .i64 a.2.2.1.1, .slice p3_1_2 a.2.2.1.2.1.length q3_1_2, .int .i64 a.2.2.1.2.2.1, .slice p3_1_4 a.2.2.1.2.2.2.length q3_1_4, .int .i64 a.2.2.2.1, .int .i64 a.2.2.2.2.1, .slice p3_4 a.2.2.2.2.2.1.length q3_4, .slice p3_5 a.2.2.2.2.2.2.1.length q3_5, .slice p3_6_1 a.2.2.2.2.2.2.2.1.length q3_6_1, .slice p3_6_2 a.2.2.2.2.2.2.2.2.1.length q3_6_2, .slice p3_6_3 a.2.2.2.2.2.2.2.2.2.1.length q3_6_3, .slice p3_6_4 a.2.2.2.2.2.2.2.2.2.2.length q3_6_4] 60)).alloc (.cells #[.int .i64 a.1, .int .i64 a.2.1.1.1, .slice pb2_1_2 a.2.1.1.2.1.length qb2_1_2, .int .i64 a.2.1.1.2.2.1, .slice pb2_1_4 a.2.1.1.2.2.2.length qb2_1_4, .int .i64 a.2.1.2.1, .int .i64 a.2.1.2.2.1, .slice pb2_4 a.2.1.2.2.2.1.length qb2_4, .slice pb2_5 a.2.1.2.2.2.2.1.length qb2_5, .slice pb2_6_1 a.2.1.2.2.2.2.2.1.length qb2_6_1, .slice pb2_6_2 a.2.1.2.2.2.2.2.2.1.length qb2_6_2, .slice pb2_6_3 a.2.1.2.2.2.2.2.2.2.1.length qb2_6_3, .slice pb2_6_4 a.2.1.2.2.2.2.2.2.2.2.length qb2_6_4, .int .i64 a.2.2.1.1, .slice pb3_1_2 a.2.2.1.2.1.length qb3_1_2, .int .i64 a.2.2.1.2.2.1, .slice pb3_1_4 a.2.2.1.2.2.2.length qb3_1_4, .int .i64 a.2.2.2.1, .int .i64 a.2.2.2.2.1, .slice pb3_4 a.2.2.2.2.2.1.length qb3_4, .slice pb3_5 a.2.2.2.2.2.2.1.length qb3_5, .slice pb3_6_1 a.2.2.2.2.2.2.2.1.length qb3_6_1, .slice pb3_6_2 a.2.2.2.2.2.2.2.2.1.length qb3_6_2, .slice pb3_6_3 a.2.2.2.2.2.2.2.2.2.1.length qb3_6_3, .slice pb3_6_4 a.2.2.2.2.2.2.2.2.2.2.length qb3_6_4] 60)) := Below.mk (alloc_below _ _) _
  have A : Arr ((w.alloc (.cells #[.int .i64 a.1, .int .i64 a.2.1.1.1, .slice p2_1_2 a.2.1.1.2.1.length q2_1_2, .int .i64 a.2.1.1.2.2.1, .slice p2_1_4 a.2.1.1.2.2.2.length q2_1_4, .int .i64 a.2.1.2.1, .int .i64 a.2.1.2.2.1, .slice p2_4 a.2.1.2.2.2.1.length q2_4, .slice p2_5 a.2.1.2.2.2.2.1.length q2_5, .slice p2_6_1 a.2.1.2.2.2.2.2.1.length q2_6_1, .slice p2_6_2 a.2.1.2.2.2.2.2.2.1.length q2_6_2, .slice p2_6_3 a.2.1.2.2.2.2.2.2.2.1.length q2_6_3, .slice p2_6_4 a.2.1.2.2.2.2.2.2.2.2.length q2_6_4, .int .i64 a.2.2.1.1, .slice p3_1_2 a.2.2.1.2.1.length q3_1_2, .int .i64 a.2.2.1.2.2.1, .slice p3_1_4 a.2.2.1.2.2.2.length q3_1_4, .int .i64 a.2.2.2.1, .int .i64 a.2.2.2.2.1, .slice p3_4 a.2.2.2.2.2.1.length q3_4, .slice p3_5 a.2.2.2.2.2.2.1.length q3_5, .slice p3_6_1 a.2.2.2.2.2.2.2.1.length q3_6_1, .slice p3_6_2 a.2.2.2.2.2.2.2.2.1.length q3_6_2, .slice p3_6_3 a.2.2.2.2.2.2.2.2.2.1.length q3_6_3, .slice p3_6_4 a.2.2.2.2.2.2.2.2.2.2.length q3_6_4] 60)).alloc (.cells #[.int .i64 a.1, .int .i64 a.2.1.1.1, .slice pb2_1_2 a.2.1.1.2.1.length qb2_1_2, .int .i64 a.2.1.1.2.2.1, .slice pb2_1_4 a.2.1.1.2.2.2.length qb2_1_4, .int .i64 a.2.1.2.1, .int .i64 a.2.1.2.2.1, .slice pb2_4 a.2.1.2.2.2.1.length qb2_4, .slice pb2_5 a.2.1.2.2.2.2.1.length qb2_5, .slice pb2_6_1 a.2.1.2.2.2.2.2.1.length qb2_6_1, .slice pb2_6_2 a.2.1.2.2.2.2.2.2.1.length qb2_6_2, .slice pb2_6_3 a.2.1.2.2.2.2.2.2.2.1.length qb2_6_3, .slice pb2_6_4 a.2.1.2.2.2.2.2.2.2.2.length qb2_6_4, .int .i64 a.2.2.1.1, .slice pb3_1_2 a.2.2.1.2.1.length qb3_1_2, .int .i64 a.2.2.1.2.2.1, .slice pb3_1_4 a.2.2.1.2.2.2.length qb3_1_4, .int .i64 a.2.2.2.1, .int .i64 a.2.2.2.2.1, .slice pb3_4 a.2.2.2.2.2.1.length qb3_4, .slice pb3_5 a.2.2.2.2.2.2.1.length qb3_5, .slice pb3_6_1 a.2.2.2.2.2.2.2.1.length qb3_6_1, .slice pb3_6_2 a.2.2.2.2.2.2.2.2.1.length qb3_6_2, .slice pb3_6_3 a.2.2.2.2.2.2.2.2.2.1.length qb3_6_3, .slice pb3_6_4 a.2.2.2.2.2.2.2.2.2.2.length qb3_6_4] 60)) w.heap.size 60 [.int .i64 a.1, .int .i64 a.2.1.1.1, .slice p2_1_2 a.2.1.1.2.1.length q2_1_2, .int .i64 a.2.1.1.2.2.1, .slice p2_1_4 a.2.1.1.2.2.2.length q2_1_4, .int .i64 a.2.1.2.1, .int .i64 a.2.1.2.2.1, .slice p2_4 a.2.1.2.2.2.1.length q2_4, .slice p2_5 a.2.1.2.2.2.2.1.length q2_5, .slice p2_6_1 a.2.1.2.2.2.2.2.1.length q2_6_1, .slice p2_6_2 a.2.1.2.2.2.2.2.2.1.length q2_6_2, .slice p2_6_3 a.2.1.2.2.2.2.2.2.2.1.length q2_6_3, .slice p2_6_4 a.2.1.2.2.2.2.2.2.2.2.length q2_6_4, .int .i64 a.2.2.1.1, .slice p3_1_2 a.2.2.1.2.1.length q3_1_2, .int .i64 a.2.2.1.2.2.1, .slice p3_1_4 a.2.2.1.2.2.2.length q3_1_4, .int .i64 a.2.2.2.1, .int .i64 a.2.2.2.2.1, .slice p3_4 a.2.2.2.2.2.1.length q3_4, .slice p3_5 a.2.2.2.2.2.2.1.length q3_5, .slice p3_6_1 a.2.2.2.2.2.2.2.1.length q3_6_1, .slice p3_6_2 a.2.2.2.2.2.2.2.2.1.length q3_6_2, .slice p3_6_3 a.2.2.2.2.2.2.2.2.2.1.length q3_6_3, .slice p3_6_4 a.2.2.2.2.2.2.2.2.2.2.length q3_6_4] := (Arr.new w [.int .i64 a.1, .int .i64 a.2.1.1.1, .slice p2_1_2 a.2.1.1.2.1.length q2_1_2, .int .i64 a.2.1.1.2.2.1, .slice p2_1_4 a.2.1.1.2.2.2.length q2_1_4, .int .i64 a.2.1.2.1, .int .i64 a.2.1.2.2.1, .slice p2_4 a.2.1.2.2.2.1.length q2_4, .slice p2_5 a.2.1.2.2.2.2.1.length q2_5, .slice p2_6_1 a.2.1.2.2.2.2.2.1.length q2_6_1, .slice p2_6_2 a.2.1.2.2.2.2.2.2.1.length q2_6_2, .slice p2_6_3 a.2.1.2.2.2.2.2.2.2.1.length q2_6_3, .slice p2_6_4 a.2.1.2.2.2.2.2.2.2.2.length q2_6_4, .int .i64 a.2.2.1.1, .slice p3_1_2 a.2.2.1.2.1.length q3_1_2, .int .i64 a.2.2.1.2.2.1, .slice p3_1_4 a.2.2.1.2.2.2.length q3_1_4, .int .i64 a.2.2.2.1, .int .i64 a.2.2.2.2.1, .slice p3_4 a.2.2.2.2.2.1.length q3_4, .slice p3_5 a.2.2.2.2.2.2.1.length q3_5, .slice p3_6_1 a.2.2.2.2.2.2.2.1.length q3_6_1, .slice p3_6_2 a.2.2.2.2.2.2.2.2.1.length q3_6_2, .slice p3_6_3 a.2.2.2.2.2.2.2.2.2.1.length q3_6_3, .slice p3_6_4 a.2.2.2.2.2.2.2.2.2.2.length q3_6_4] 60).old _ _
  have B : Arr ((w.alloc (.cells #[.int .i64 a.1, .int .i64 a.2.1.1.1, .slice p2_1_2 a.2.1.1.2.1.length q2_1_2, .int .i64 a.2.1.1.2.2.1, .slice p2_1_4 a.2.1.1.2.2.2.length q2_1_4, .int .i64 a.2.1.2.1, .int .i64 a.2.1.2.2.1, .slice p2_4 a.2.1.2.2.2.1.length q2_4, .slice p2_5 a.2.1.2.2.2.2.1.length q2_5, .slice p2_6_1 a.2.1.2.2.2.2.2.1.length q2_6_1, .slice p2_6_2 a.2.1.2.2.2.2.2.2.1.length q2_6_2, .slice p2_6_3 a.2.1.2.2.2.2.2.2.2.1.length q2_6_3, .slice p2_6_4 a.2.1.2.2.2.2.2.2.2.2.length q2_6_4, .int .i64 a.2.2.1.1, .slice p3_1_2 a.2.2.1.2.1.length q3_1_2, .int .i64 a.2.2.1.2.2.1, .slice p3_1_4 a.2.2.1.2.2.2.length q3_1_4, .int .i64 a.2.2.2.1, .int .i64 a.2.2.2.2.1, .slice p3_4 a.2.2.2.2.2.1.length q3_4, .slice p3_5 a.2.2.2.2.2.2.1.length q3_5, .slice p3_6_1 a.2.2.2.2.2.2.2.1.length q3_6_1, .slice p3_6_2 a.2.2.2.2.2.2.2.2.1.length q3_6_2, .slice p3_6_3 a.2.2.2.2.2.2.2.2.2.1.length q3_6_3, .slice p3_6_4 a.2.2.2.2.2.2.2.2.2.2.length q3_6_4] 60)).alloc (.cells #[.int .i64 a.1, .int .i64 a.2.1.1.1, .slice pb2_1_2 a.2.1.1.2.1.length qb2_1_2, .int .i64 a.2.1.1.2.2.1, .slice pb2_1_4 a.2.1.1.2.2.2.length qb2_1_4, .int .i64 a.2.1.2.1, .int .i64 a.2.1.2.2.1, .slice pb2_4 a.2.1.2.2.2.1.length qb2_4, .slice pb2_5 a.2.1.2.2.2.2.1.length qb2_5, .slice pb2_6_1 a.2.1.2.2.2.2.2.1.length qb2_6_1, .slice pb2_6_2 a.2.1.2.2.2.2.2.2.1.length qb2_6_2, .slice pb2_6_3 a.2.1.2.2.2.2.2.2.2.1.length qb2_6_3, .slice pb2_6_4 a.2.1.2.2.2.2.2.2.2.2.length qb2_6_4, .int .i64 a.2.2.1.1, .slice pb3_1_2 a.2.2.1.2.1.length qb3_1_2, .int .i64 a.2.2.1.2.2.1, .slice pb3_1_4 a.2.2.1.2.2.2.length qb3_1_4, .int .i64 a.2.2.2.1, .int .i64 a.2.2.2.2.1, .slice pb3_4 a.2.2.2.2.2.1.length qb3_4, .slice pb3_5 a.2.2.2.2.2.2.1.length qb3_5, .slice pb3_6_1 a.2.2.2.2.2.2.2.1.length qb3_6_1, .slice pb3_6_2 a.2.2.2.2.2.2.2.2.1.length qb3_6_2, .slice pb3_6_3 a.2.2.2.2.2.2.2.2.2.1.length qb3_6_3, .slice pb3_6_4 a.2.2.2.2.2.2.2.2.2.2.length qb3_6_4] 60)) (w.heap.size + 1) 60 [.int .i64 a.1, .int .i64 a.2.1.1.1, .slice pb2_1_2 a.2.1.1.2.1.length qb2_1_2, .int .i64 a.2.1.1.2.2.1, .slice pb2_1_4 a.2.1.1.2.2.2.length qb2_1_4, .int .i64 a.2.1.2.1, .int .i64 a.2.1.2.2.1, .slice pb2_4 a.2.1.2.2.2.1.length qb2_4, .slice pb2_5 a.2.1.2.2.2.2.1.length qb2_5, .slice pb2_6_1 a.2.1.2.2.2.2.2.1.length qb2_6_1, .slice pb2_6_2 a.2.1.2.2.2.2.2.2.1.length qb2_6_2, .slice pb2_6_3 a.2.1.2.2.2.2.2.2.2.1.length qb2_6_3, .slice pb2_6_4 a.2.1.2.2.2.2.2.2.2.2.length qb2_6_4, .int .i64 a.2.2.1.1, .slice pb3_1_2 a.2.2.1.2.1.length qb3_1_2, .int .i64 a.2.2.1.2.2.1, .slice pb3_1_4 a.2.2.1.2.2.2.length qb3_1_4, .int .i64 a.2.2.2.1, .int .i64 a.2.2.2.2.1, .slice pb3_4 a.2.2.2.2.2.1.length qb3_4, .slice pb3_5 a.2.2.2.2.2.2.1.length qb3_5, .slice pb3_6_1 a.2.2.2.2.2.2.2.1.length qb3_6_1, .slice pb3_6_2 a.2.2.2.2.2.2.2.2.1.length qb3_6_2, .slice pb3_6_3 a.2.2.2.2.2.2.2.2.2.1.length qb3_6_3, .slice pb3_6_4 a.2.2.2.2.2.2.2.2.2.2.length qb3_6_4] := by
    have h := Arr.new (w.alloc (.cells #[.int .i64 a.1, .int .i64 a.2.1.1.1, .slice p2_1_2 a.2.1.1.2.1.length q2_1_2, .int .i64 a.2.1.1.2.2.1, .slice p2_1_4 a.2.1.1.2.2.2.length q2_1_4, .int .i64 a.2.1.2.1, .int .i64 a.2.1.2.2.1, .slice p2_4 a.2.1.2.2.2.1.length q2_4, .slice p2_5 a.2.1.2.2.2.2.1.length q2_5, .slice p2_6_1 a.2.1.2.2.2.2.2.1.length q2_6_1, .slice p2_6_2 a.2.1.2.2.2.2.2.2.1.length q2_6_2, .slice p2_6_3 a.2.1.2.2.2.2.2.2.2.1.length q2_6_3, .slice p2_6_4 a.2.1.2.2.2.2.2.2.2.2.length q2_6_4, .int .i64 a.2.2.1.1, .slice p3_1_2 a.2.2.1.2.1.length q3_1_2, .int .i64 a.2.2.1.2.2.1, .slice p3_1_4 a.2.2.1.2.2.2.length q3_1_4, .int .i64 a.2.2.2.1, .int .i64 a.2.2.2.2.1, .slice p3_4 a.2.2.2.2.2.1.length q3_4, .slice p3_5 a.2.2.2.2.2.2.1.length q3_5, .slice p3_6_1 a.2.2.2.2.2.2.2.1.length q3_6_1, .slice p3_6_2 a.2.2.2.2.2.2.2.2.1.length q3_6_2, .slice p3_6_3 a.2.2.2.2.2.2.2.2.2.1.length q3_6_3, .slice p3_6_4 a.2.2.2.2.2.2.2.2.2.2.length q3_6_4] 60)) [.int .i64 a.1, .int .i64 a.2.1.1.1, .slice pb2_1_2 a.2.1.1.2.1.length qb2_1_2, .int .i64 a.2.1.1.2.2.1, .slice pb2_1_4 a.2.1.1.2.2.2.length qb2_1_4, .int .i64 a.2.1.2.1, .int .i64 a.2.1.2.2.1, .slice pb2_4 a.2.1.2.2.2.1.length qb2_4, .slice pb2_5 a.2.1.2.2.2.2.1.length qb2_5, .slice pb2_6_1 a.2.1.2.2.2.2.2.1.length qb2_6_1, .slice pb2_6_2 a.2.1.2.2.2.2.2.2.1.length qb2_6_2, .slice pb2_6_3 a.2.1.2.2.2.2.2.2.2.1.length qb2_6_3, .slice pb2_6_4 a.2.1.2.2.2.2.2.2.2.2.length qb2_6_4, .int .i64 a.2.2.1.1, .slice pb3_1_2 a.2.2.1.2.1.length qb3_1_2, .int .i64 a.2.2.1.2.2.1, .slice pb3_1_4 a.2.2.1.2.2.2.length qb3_1_4, .int .i64 a.2.2.2.1, .int .i64 a.2.2.2.2.1, .slice pb3_4 a.2.2.2.2.2.1.length qb3_4, .slice pb3_5 a.2.2.2.2.2.2.1.length qb3_5, .slice pb3_6_1 a.2.2.2.2.2.2.2.1.length qb3_6_1, .slice pb3_6_2 a.2.2.2.2.2.2.2.2.1.length qb3_6_2, .slice pb3_6_3 a.2.2.2.2.2.2.2.2.2.1.length qb3_6_3, .slice pb3_6_4 a.2.2.2.2.2.2.2.2.2.2.length qb3_6_4] 60
    rw [size_alloc] at h
    exact h
  replace r2_1_2 := r2_1_2.keep BW
  replace rb2_1_2 := rb2_1_2.keep BW
  replace r2_1_4 := r2_1_4.keep BW
  replace rb2_1_4 := rb2_1_4.keep BW
  replace r2_4 := r2_4.keep BW
  replace rb2_4 := rb2_4.keep BW
  replace r2_5 := r2_5.keep BW
  replace rb2_5 := rb2_5.keep BW
  replace r2_6_1 := r2_6_1.keep BW
  replace rb2_6_1 := rb2_6_1.keep BW
  replace r2_6_2 := r2_6_2.keep BW
  replace rb2_6_2 := rb2_6_2.keep BW
  replace r2_6_3 := r2_6_3.keep BW
  replace rb2_6_3 := rb2_6_3.keep BW
  replace r2_6_4 := r2_6_4.keep BW
  replace rb2_6_4 := rb2_6_4.keep BW
  replace r3_1_2 := r3_1_2.keep BW
  replace rb3_1_2 := rb3_1_2.keep BW
  replace r3_1_4 := r3_1_4.keep BW
  replace rb3_1_4 := rb3_1_4.keep BW
  replace r3_4 := r3_4.keep BW
  replace rb3_4 := rb3_4.keep BW
  replace r3_5 := r3_5.keep BW
  replace rb3_5 := rb3_5.keep BW
  replace r3_6_1 := r3_6_1.keep BW
  replace rb3_6_1 := rb3_6_1.keep BW
  replace r3_6_2 := r3_6_2.keep BW
  replace rb3_6_2 := rb3_6_2.keep BW
  replace r3_6_3 := r3_6_3.keep BW
  replace rb3_6_3 := rb3_6_3.keep BW
  replace r3_6_4 := r3_6_4.keep BW
  replace rb3_6_4 := rb3_6_4.keep BW
  go_enter Tryz.func29, Tryz.ntmps29
  go_wp2_with fail
  refine (eqEnd_k a.2.1 _ _ _ (end_mk r2_1_2 r2_1_4 r2_4 r2_5 r2_6_1 r2_6_2 r2_6_3 r2_6_4) (end_mk rb2_1_2 rb2_1_4 rb2_4 rb2_5 rb2_6_1 rb2_6_2 rb2_6_3 rb2_6_4)).mono ?_
  rintro e w1 ⟨rfl, hb⟩
  replace A := A.stay hb
  replace B := B.stay hb
  replace BW := Below.step BW hb
  replace r2_1_2 := r2_1_2.keep hb
  replace rb2_1_2 := rb2_1_2.keep hb
  replace r2_1_4 := r2_1_4.keep hb
  replace rb2_1_4 := rb2_1_4.keep hb
  replace r2_4 := r2_4.keep hb
  replace rb2_4 := rb2_4.keep hb
  replace r2_5 := r2_5.keep hb
  replace rb2_5 := rb2_5.keep hb
  replace r2_6_1 := r2_6_1.keep hb
  replace rb2_6_1 := rb2_6_1.keep hb
  replace r2_6_2 := r2_6_2.keep hb
  replace rb2_6_2 := rb2_6_2.keep hb
  replace r2_6_3 := r2_6_3.keep hb
  replace rb2_6_3 := rb2_6_3.keep hb
  replace r2_6_4 := r2_6_4.keep hb
  replace rb2_6_4 := rb2_6_4.keep hb
  replace r3_1_2 := r3_1_2.keep hb
  replace rb3_1_2 := rb3_1_2.keep hb
  replace r3_1_4 := r3_1_4.keep hb
  replace rb3_1_4 := rb3_1_4.keep hb
  replace r3_4 := r3_4.keep hb
  replace rb3_4 := rb3_4.keep hb
  replace r3_5 := r3_5.keep hb
  replace rb3_5 := rb3_5.keep hb
  replace r3_6_1 := r3_6_1.keep hb
  replace rb3_6_1 := rb3_6_1.keep hb
  replace r3_6_2 := r3_6_2.keep hb
  replace rb3_6_2 := rb3_6_2.keep hb
  replace r3_6_3 := r3_6_3.keep hb
  replace rb3_6_3 := rb3_6_3.keep hb
  replace r3_6_4 := r3_6_4.keep hb
  replace rb3_6_4 := rb3_6_4.keep hb
  have ca0 := A.cell 0
  have cb0 := B.cell 0
  have ca1 := A.cell 1
  have cb1 := B.cell 1
  have ca2 := A.cell 2
  have cb2 := B.cell 2
  have ca3 := A.cell 3
  have cb3 := B.cell 3
  have ca4 := A.cell 4
  have cb4 := B.cell 4
  have ca5 := A.cell 5
  have cb5 := B.cell 5
  have ca6 := A.cell 6
  have cb6 := B.cell 6
  have ca7 := A.cell 7
  have cb7 := B.cell 7
  have ca8 := A.cell 8
  have cb8 := B.cell 8
  have ca9 := A.cell 9
  have cb9 := B.cell 9
  have ca10 := A.cell 10
  have cb10 := B.cell 10
  have ca11 := A.cell 11
  have cb11 := B.cell 11
  have ca12 := A.cell 12
  have cb12 := B.cell 12
  have ca13 := A.cell 13
  have cb13 := B.cell 13
  have ca14 := A.cell 14
  have cb14 := B.cell 14
  have ca15 := A.cell 15
  have cb15 := B.cell 15
  have ca16 := A.cell 16
  have cb16 := B.cell 16
  have ca17 := A.cell 17
  have cb17 := B.cell 17
  have ca18 := A.cell 18
  have cb18 := B.cell 18
  have ca19 := A.cell 19
  have cb19 := B.cell 19
  have ca20 := A.cell 20
  have cb20 := B.cell 20
  have ca21 := A.cell 21
  have cb21 := B.cell 21
  have ca22 := A.cell 22
  have cb22 := B.cell 22
  have ca23 := A.cell 23
  have cb23 := B.cell 23
  have ca24 := A.cell 24
  have cb24 := B.cell 24
  simp at ca0 cb0 ca1 cb1 ca2 cb2 ca3 cb3 ca4 cb4 ca5 cb5 ca6 cb6 ca7 cb7 ca8 cb8 ca9 cb9 ca10 cb10 ca11 cb11 ca12 cb12 ca13 cb13 ca14 cb14 ca15 cb15 ca16 cb16 ca17 cb17 ca18 cb18 ca19 cb19 ca20 cb20 ca21 cb21 ca22 cb22 ca23 cb23 ca24 cb24
  clear hb
  go_wp2_with fail
  refine (eqEnd_k a.2.2 _ _ _ (end_mk r3_1_2 r3_1_4 r3_4 r3_5 r3_6_1 r3_6_2 r3_6_3 r3_6_4) (end_mk rb3_1_2 rb3_1_4 rb3_4 rb3_5 rb3_6_1 rb3_6_2 rb3_6_3 rb3_6_4)).mono ?_
  rintro e w2 ⟨rfl, hb⟩
  replace A := A.stay hb
  replace B := B.stay hb
  replace BW := Below.step BW hb
  replace r2_1_2 := r2_1_2.keep hb
  replace rb2_1_2 := rb2_1_2.keep hb
  replace r2_1_4 := r2_1_4.keep hb
  replace rb2_1_4 := rb2_1_4.keep hb
  replace r2_4 := r2_4.keep hb
  replace rb2_4 := rb2_4.keep hb
  replace r2_5 := r2_5.keep hb
  replace rb2_5 := rb2_5.keep hb
  replace r2_6_1 := r2_6_1.keep hb
  replace rb2_6_1 := rb2_6_1.keep hb
  replace r2_6_2 := r2_6_2.keep hb
  replace rb2_6_2 := rb2_6_2.keep hb
  replace r2_6_3 := r2_6_3.keep hb
  replace rb2_6_3 := rb2_6_3.keep hb
  replace r2_6_4 := r2_6_4.keep hb
  replace rb2_6_4 := rb2_6_4.keep hb
  replace r3_1_2 := r3_1_2.keep hb
  replace rb3_1_2 := rb3_1_2.keep hb
  replace r3_1_4 := r3_1_4.keep hb
  replace rb3_1_4 := rb3_1_4.keep hb
  replace r3_4 := r3_4.keep hb
  replace rb3_4 := rb3_4.keep hb
  replace r3_5 := r3_5.keep hb
  replace rb3_5 := rb3_5.keep hb
  replace r3_6_1 := r3_6_1.keep hb
  replace rb3_6_1 := rb3_6_1.keep hb
  replace r3_6_2 := r3_6_2.keep hb
  replace rb3_6_2 := rb3_6_2.keep hb
  replace r3_6_3 := r3_6_3.keep hb
  replace rb3_6_3 := rb3_6_3.keep hb
  replace r3_6_4 := r3_6_4.keep hb
  replace rb3_6_4 := rb3_6_4.keep hb
  have ca0 := A.cell 0
  have cb0 := B.cell 0
  have ca1 := A.cell 1
  have cb1 := B.cell 1
  have ca2 := A.cell 2
  have cb2 := B.cell 2
  have ca3 := A.cell 3
  have cb3 := B.cell 3
  have ca4 := A.cell 4
  have cb4 := B.cell 4
  have ca5 := A.cell 5
  have cb5 := B.cell 5
  have ca6 := A.cell 6
  have cb6 := B.cell 6
  have ca7 := A.cell 7
  have cb7 := B.cell 7
  have ca8 := A.cell 8
  have cb8 := B.cell 8
  have ca9 := A.cell 9
  have cb9 := B.cell 9
  have ca10 := A.cell 10
  have cb10 := B.cell 10
  have ca11 := A.cell 11
  have cb11 := B.cell 11
  have ca12 := A.cell 12
  have cb12 := B.cell 12
  have ca13 := A.cell 13
  have cb13 := B.cell 13
  have ca14 := A.cell 14
  have cb14 := B.cell 14
  have ca15 := A.cell 15
  have cb15 := B.cell 15
  have ca16 := A.cell 16
  have cb16 := B.cell 16
  have ca17 := A.cell 17
  have cb17 := B.cell 17
  have ca18 := A.cell 18
  have cb18 := B.cell 18
  have ca19 := A.cell 19
  have cb19 := B.cell 19
  have ca20 := A.cell 20
  have cb20 := B.cell 20
  have ca21 := A.cell 21
  have cb21 := B.cell 21
  have ca22 := A.cell 22
  have cb22 := B.cell 22
  have ca23 := A.cell 23
  have cb23 := B.cell 23
  have ca24 := A.cell 24
  have cb24 := B.cell 24
  simp at ca0 cb0 ca1 cb1 ca2 cb2 ca3 cb3 ca4 cb4 ca5 cb5 ca6 cb6 ca7 cb7 ca8 cb8 ca9 cb9 ca10 cb10 ca11 cb11 ca12 cb12 ca13 cb13 ca14 cb14 ca15 cb15 ca16 cb16 ca17 cb17 ca18 cb18 ca19 cb19 ca20 cb20 ca21 cb21 ca22 cb22 ca23 cb23 ca24 cb24
  clear hb
  go_wp2
  go_ret
  exact ⟨rfl, BW⟩

set_option maxRecDepth 4000 in
set_option maxHeartbeats 1000000 in
theorem markPairResult_k (a : PairResultD) (us : List Value) (fp : List Nat) (B m : Nat) (mi : Int) (hmi : mi = (m : Int)) (w : World) (h : pairResultC.own w B a us fp) (hm : m + pairResultT a ≤ 1000000000) :
    Calls Tryz.prog 32 #[.agg us.toArray, .int .i64 mi] w fun e w' => e = .returned (.int .i64 (mi + (pairResultT a : Int))) ∧ pairResultC.own w' B (pairResultM a m) us fp ∧ Only fp w w' := by
  subst hmi
  obtain ⟨us0, ts0, f0, g0, rfl, rfl, nd0, k0, us1, ts1, f1, g1, rfl, rfl, nd1, k1, k2⟩ := h
  obtain ⟨e0, ef0⟩ := k0
  subst e0 ef0
  obtain ⟨p2_1_2, q2_1_2, p2_1_4, q2_1_4, p2_4, q2_4, p2_5, q2_5, p2_6_1, q2_6_1, p2_6_2, q2_6_2, p2_6_3, q2_6_3, p2_6_4, q2_6_4, e1, -, -, -, -, -, -, -, -⟩ := end_rep (endC.toRep k1)
  subst e1
  obtain ⟨p3_1_2, q3_1_2, p3_1_4, q3_1_4, p3_4, q3_4, p3_5, q3_5, p3_6_1, q3_6_1, p3_6_2, q3_6_2, p3_6_3, q3_6_3, p3_6_4, q3_6_4, e2, -, -, -, -, -, -, -, -⟩ := end_rep (endC.toRep k2)
  subst e2
  have z1 : Hid (∀ x, x ∈ f1 → x < w.heap.size) := fun x hx => (endC.ins k1 x hx).2
  have z2 : Hid (∀ x, x ∈ g1 → x < w.heap.size) := fun x hx => (endC.ins k2 x hx).2
  have d1_2 : Hid (∀ x, x ∈ f1 → x ∉ g1) := fun x h1 h2 => nodup_apart nd1 x h1 (by simp [h2])
  have s1 : Hid (∀ x, x ∈ f1 → x ∈ [] ++ (f1 ++ g1)) := fun x hx => by simp [hx]
  have s2 : Hid (∀ x, x ∈ g1 → x ∈ [] ++ (f1 ++ g1)) := fun x hx => by simp [hx]
  have A := Arr.new w [.int .i64 a.1, .int .i64 a.2.1.1.1, .slice p2_1_2 a.2.1.1.2.1.length q2_1_2, .int .i64 a.2.1.1.2.2.1, .slice p2_1_4 a.2.1.1.2.2.2.length q2_1_4, .int .i64 a.2.1.2.1, .int .i64 a.2.1.2.2.1, .slice p2_4 a.2.1.2.2.2.1.length q2_4, .slice p2_5 a.2.1.2.2.2.2.1.length q2_5, .slice p2_6_1 a.2.1.2.2.2.2.2.1.length q2_6_1, .slice p2_6_2 a.2.1.2.2.2.2.2.2.1.length q2_6_2, .slice p2_6_3 a.2.1.2.2.2.2.2.2.2.1.length q2_6_3, .slice p2_6_4 a.2.1.2.2.2.2.2.2.2.2.length q2_6_4, .int .i64 a.2.2.1.1, .slice p3_1_2 a.2.2.1.2.1.length q3_1_2, .int .i64 a.2.2.1.2.2.1, .slice p3_1_4 a.2.2.1.2.2.2.length q3_1_4, .int .i64 a.2.2.2.1, .int .i64 a.2.2.2.2.1, .slice p3_4 a.2.2.2.2.2.1.length q3_4, .slice p3_5 a.2.2.2.2.2.2.1.length q3_5, .slice p3_6_1 a.2.2.2.2.2.2.2.1.length q3_6_1, .slice p3_6_2 a.2.2.2.2.2.2.2.2.1.length q3_6_2, .slice p3_6_3 a.2.2.2.2.2.2.2.2.2.1.length q3_6_3, .slice p3_6_4 a.2.2.2.2.2.2.2.2.2.2.length q3_6_4] 60
  have ON : Only ([] ++ (f1 ++ g1)) w (w.alloc (.cells #[.int .i64 a.1, .int .i64 a.2.1.1.1, .slice p2_1_2 a.2.1.1.2.1.length q2_1_2, .int .i64 a.2.1.1.2.2.1, .slice p2_1_4 a.2.1.1.2.2.2.length q2_1_4, .int .i64 a.2.1.2.1, .int .i64 a.2.1.2.2.1, .slice p2_4 a.2.1.2.2.2.1.length q2_4, .slice p2_5 a.2.1.2.2.2.2.1.length q2_5, .slice p2_6_1 a.2.1.2.2.2.2.2.1.length q2_6_1, .slice p2_6_2 a.2.1.2.2.2.2.2.2.1.length q2_6_2, .slice p2_6_3 a.2.1.2.2.2.2.2.2.2.1.length q2_6_3, .slice p2_6_4 a.2.1.2.2.2.2.2.2.2.2.length q2_6_4, .int .i64 a.2.2.1.1, .slice p3_1_2 a.2.2.1.2.1.length q3_1_2, .int .i64 a.2.2.1.2.2.1, .slice p3_1_4 a.2.2.1.2.2.2.length q3_1_4, .int .i64 a.2.2.2.1, .int .i64 a.2.2.2.2.1, .slice p3_4 a.2.2.2.2.2.1.length q3_4, .slice p3_5 a.2.2.2.2.2.2.1.length q3_5, .slice p3_6_1 a.2.2.2.2.2.2.2.1.length q3_6_1, .slice p3_6_2 a.2.2.2.2.2.2.2.2.1.length q3_6_2, .slice p3_6_3 a.2.2.2.2.2.2.2.2.2.1.length q3_6_3, .slice p3_6_4 a.2.2.2.2.2.2.2.2.2.2.length q3_6_4] 60)) := Only.below (alloc_below _ _)
  replace k1 := endC.stay k1 (alloc_below _ (.cells #[.int .i64 a.1, .int .i64 a.2.1.1.1, .slice p2_1_2 a.2.1.1.2.1.length q2_1_2, .int .i64 a.2.1.1.2.2.1, .slice p2_1_4 a.2.1.1.2.2.2.length q2_1_4, .int .i64 a.2.1.2.1, .int .i64 a.2.1.2.2.1, .slice p2_4 a.2.1.2.2.2.1.length q2_4, .slice p2_5 a.2.1.2.2.2.2.1.length q2_5, .slice p2_6_1 a.2.1.2.2.2.2.2.1.length q2_6_1, .slice p2_6_2 a.2.1.2.2.2.2.2.2.1.length q2_6_2, .slice p2_6_3 a.2.1.2.2.2.2.2.2.2.1.length q2_6_3, .slice p2_6_4 a.2.1.2.2.2.2.2.2.2.2.length q2_6_4, .int .i64 a.2.2.1.1, .slice p3_1_2 a.2.2.1.2.1.length q3_1_2, .int .i64 a.2.2.1.2.2.1, .slice p3_1_4 a.2.2.1.2.2.2.length q3_1_4, .int .i64 a.2.2.2.1, .int .i64 a.2.2.2.2.1, .slice p3_4 a.2.2.2.2.2.1.length q3_4, .slice p3_5 a.2.2.2.2.2.2.1.length q3_5, .slice p3_6_1 a.2.2.2.2.2.2.2.1.length q3_6_1, .slice p3_6_2 a.2.2.2.2.2.2.2.2.1.length q3_6_2, .slice p3_6_3 a.2.2.2.2.2.2.2.2.2.1.length q3_6_3, .slice p3_6_4 a.2.2.2.2.2.2.2.2.2.2.length q3_6_4] 60))
  replace k2 := endC.stay k2 (alloc_below _ (.cells #[.int .i64 a.1, .int .i64 a.2.1.1.1, .slice p2_1_2 a.2.1.1.2.1.length q2_1_2, .int .i64 a.2.1.1.2.2.1, .slice p2_1_4 a.2.1.1.2.2.2.length q2_1_4, .int .i64 a.2.1.2.1, .int .i64 a.2.1.2.2.1, .slice p2_4 a.2.1.2.2.2.1.length q2_4, .slice p2_5 a.2.1.2.2.2.2.1.length q2_5, .slice p2_6_1 a.2.1.2.2.2.2.2.1.length q2_6_1, .slice p2_6_2 a.2.1.2.2.2.2.2.2.1.length q2_6_2, .slice p2_6_3 a.2.1.2.2.2.2.2.2.2.1.length q2_6_3, .slice p2_6_4 a.2.1.2.2.2.2.2.2.2.2.length q2_6_4, .int .i64 a.2.2.1.1, .slice p3_1_2 a.2.2.1.2.1.length q3_1_2, .int .i64 a.2.2.1.2.2.1, .slice p3_1_4 a.2.2.1.2.2.2.length q3_1_4, .int .i64 a.2.2.2.1, .int .i64 a.2.2.2.2.1, .slice p3_4 a.2.2.2.2.2.1.length q3_4, .slice p3_5 a.2.2.2.2.2.2.1.length q3_5, .slice p3_6_1 a.2.2.2.2.2.2.2.1.length q3_6_1, .slice p3_6_2 a.2.2.2.2.2.2.2.2.1.length q3_6_2, .slice p3_6_3 a.2.2.2.2.2.2.2.2.2.1.length q3_6_3, .slice p3_6_4 a.2.2.2.2.2.2.2.2.2.2.length q3_6_4] 60))
  have ND0 : Hid _ := nd0
  have ND1 : Hid _ := nd1
  clear nd0 nd1
  have hT : Hid (m + (endT a.2.1 + endT a.2.2) ≤ 1000000000) := hm
  clear hm
  go_enter Tryz.func32, Tryz.ntmps32
  go_wp2_with fail
  refine (markEnd_k a.2.1 _ _ B m _ (by first | rfl | simp | (simp; omega) | (push_cast; omega)) _ k1 (by have := hT.out; omega)).mono ?_
  rintro e w1 ⟨rfl, k1, ho⟩
  replace k2 := endC.other k2 ho (fun x h1 h2 => d1_2.out x h2 h1)
  replace A := A.only ho (fun h => Nat.lt_irrefl _ (z1.out _ h))
  replace ON := ON.trans_sub ho s1.out
  have ca0 := A.cell 0
  have ca1 := A.cell 1
  have ca2 := A.cell 2
  have ca3 := A.cell 3
  have ca4 := A.cell 4
  have ca5 := A.cell 5
  have ca6 := A.cell 6
  have ca7 := A.cell 7
  have ca8 := A.cell 8
  have ca9 := A.cell 9
  have ca10 := A.cell 10
  have ca11 := A.cell 11
  have ca12 := A.cell 12
  have ca13 := A.cell 13
  have ca14 := A.cell 14
  have ca15 := A.cell 15
  have ca16 := A.cell 16
  have ca17 := A.cell 17
  have ca18 := A.cell 18
  have ca19 := A.cell 19
  have ca20 := A.cell 20
  have ca21 := A.cell 21
  have ca22 := A.cell 22
  have ca23 := A.cell 23
  have ca24 := A.cell 24
  simp at ca0 ca1 ca2 ca3 ca4 ca5 ca6 ca7 ca8 ca9 ca10 ca11 ca12 ca13 ca14 ca15 ca16 ca17 ca18 ca19 ca20 ca21 ca22 ca23 ca24
  clear ho
  go_wp2_with fail
  refine (markEnd_k a.2.2 _ _ B (m + endT a.2.1) _ (by first | rfl | simp | (simp; omega) | (push_cast; omega)) _ k2 (by have := hT.out; omega)).mono ?_
  rintro e w2 ⟨rfl, k2, ho⟩
  replace k1 := endC.other k1 ho (fun x h1 h2 => d1_2.out x h1 h2)
  replace A := A.only ho (fun h => Nat.lt_irrefl _ (z2.out _ h))
  replace ON := ON.trans_sub ho s2.out
  have ca0 := A.cell 0
  have ca1 := A.cell 1
  have ca2 := A.cell 2
  have ca3 := A.cell 3
  have ca4 := A.cell 4
  have ca5 := A.cell 5
  have ca6 := A.cell 6
  have ca7 := A.cell 7
  have ca8 := A.cell 8
  have ca9 := A.cell 9
  have ca10 := A.cell 10
  have ca11 := A.cell 11
  have ca12 := A.cell 12
  have ca13 := A.cell 13
  have ca14 := A.cell 14
  have ca15 := A.cell 15
  have ca16 := A.cell 16
  have ca17 := A.cell 17
  have ca18 := A.cell 18
  have ca19 := A.cell 19
  have ca20 := A.cell 20
  have ca21 := A.cell 21
  have ca22 := A.cell 22
  have ca23 := A.cell 23
  have ca24 := A.cell 24
  simp at ca0 ca1 ca2 ca3 ca4 ca5 ca6 ca7 ca8 ca9 ca10 ca11 ca12 ca13 ca14 ca15 ca16 ca17 ca18 ca19 ca20 ca21 ca22 ca23 ca24
  clear ho
  go_wp2
  go_ret
  exact ⟨by unfold pairResultT; simp; try omega, ⟨_, _, [], _, rfl, rfl, ND0.out, ⟨rfl, rfl⟩, ⟨_, _, _, _, rfl, rfl, ND1.out, k1, k2⟩⟩, ON⟩

set_option maxRecDepth 4000 in
set_option maxHeartbeats 1000000 in
theorem heldPairResult_k (a : PairResultD) (us : List Value) (m : Nat) (mi : Int) (hmi : mi = (m : Int)) (w : World) (h : pairResultC.rep w (pairResultM a m) us) (hm : m + pairResultT a ≤ 1048577) :
    Calls Tryz.prog 33 #[.agg us.toArray, .int .i64 mi] w fun e w' => e = .returned (.int .i64 (mi + (pairResultT a : Int))) ∧ Below w.heap.size w w' := by
  subst hmi
  obtain ⟨us0, ts0, rfl, h0, us1, ts1, rfl, h1, h2⟩ := h
  have e0 : us0 = [Value.int .i64 (pairResultM a m).1] := h0
  subst e0
  replace h1 : endC.rep w (endM a.2.1 m) _ := h1
  obtain ⟨p2_1_2, q2_1_2, p2_1_4, q2_1_4, p2_4, q2_4, p2_5, q2_5, p2_6_1, q2_6_1, p2_6_2, q2_6_2, p2_6_3, q2_6_3, p2_6_4, q2_6_4, e1, -, -, -, -, -, -, -, -⟩ := end_rep h1
  subst e1
  replace h2 : endC.rep w (endM a.2.2 (m + endT a.2.1)) _ := h2
  obtain ⟨p3_1_2, q3_1_2, p3_1_4, q3_1_4, p3_4, q3_4, p3_5, q3_5, p3_6_1, q3_6_1, p3_6_2, q3_6_2, p3_6_3, q3_6_3, p3_6_4, q3_6_4, e2, -, -, -, -, -, -, -, -⟩ := end_rep h2
  subst e2
  have A := Arr.new w [.int .i64 (pairResultM a m).1, .int .i64 (endM a.2.1 m).1.1, .slice p2_1_2 (endM a.2.1 m).1.2.1.length q2_1_2, .int .i64 (endM a.2.1 m).1.2.2.1, .slice p2_1_4 (endM a.2.1 m).1.2.2.2.length q2_1_4, .int .i64 (endM a.2.1 m).2.1, .int .i64 (endM a.2.1 m).2.2.1, .slice p2_4 (endM a.2.1 m).2.2.2.1.length q2_4, .slice p2_5 (endM a.2.1 m).2.2.2.2.1.length q2_5, .slice p2_6_1 (endM a.2.1 m).2.2.2.2.2.1.length q2_6_1, .slice p2_6_2 (endM a.2.1 m).2.2.2.2.2.2.1.length q2_6_2, .slice p2_6_3 (endM a.2.1 m).2.2.2.2.2.2.2.1.length q2_6_3, .slice p2_6_4 (endM a.2.1 m).2.2.2.2.2.2.2.2.length q2_6_4, .int .i64 (endM a.2.2 (m + endT a.2.1)).1.1, .slice p3_1_2 (endM a.2.2 (m + endT a.2.1)).1.2.1.length q3_1_2, .int .i64 (endM a.2.2 (m + endT a.2.1)).1.2.2.1, .slice p3_1_4 (endM a.2.2 (m + endT a.2.1)).1.2.2.2.length q3_1_4, .int .i64 (endM a.2.2 (m + endT a.2.1)).2.1, .int .i64 (endM a.2.2 (m + endT a.2.1)).2.2.1, .slice p3_4 (endM a.2.2 (m + endT a.2.1)).2.2.2.1.length q3_4, .slice p3_5 (endM a.2.2 (m + endT a.2.1)).2.2.2.2.1.length q3_5, .slice p3_6_1 (endM a.2.2 (m + endT a.2.1)).2.2.2.2.2.1.length q3_6_1, .slice p3_6_2 (endM a.2.2 (m + endT a.2.1)).2.2.2.2.2.2.1.length q3_6_2, .slice p3_6_3 (endM a.2.2 (m + endT a.2.1)).2.2.2.2.2.2.2.1.length q3_6_3, .slice p3_6_4 (endM a.2.2 (m + endT a.2.1)).2.2.2.2.2.2.2.2.length q3_6_4] 60
  have BW := alloc_below w (.cells #[.int .i64 (pairResultM a m).1, .int .i64 (endM a.2.1 m).1.1, .slice p2_1_2 (endM a.2.1 m).1.2.1.length q2_1_2, .int .i64 (endM a.2.1 m).1.2.2.1, .slice p2_1_4 (endM a.2.1 m).1.2.2.2.length q2_1_4, .int .i64 (endM a.2.1 m).2.1, .int .i64 (endM a.2.1 m).2.2.1, .slice p2_4 (endM a.2.1 m).2.2.2.1.length q2_4, .slice p2_5 (endM a.2.1 m).2.2.2.2.1.length q2_5, .slice p2_6_1 (endM a.2.1 m).2.2.2.2.2.1.length q2_6_1, .slice p2_6_2 (endM a.2.1 m).2.2.2.2.2.2.1.length q2_6_2, .slice p2_6_3 (endM a.2.1 m).2.2.2.2.2.2.2.1.length q2_6_3, .slice p2_6_4 (endM a.2.1 m).2.2.2.2.2.2.2.2.length q2_6_4, .int .i64 (endM a.2.2 (m + endT a.2.1)).1.1, .slice p3_1_2 (endM a.2.2 (m + endT a.2.1)).1.2.1.length q3_1_2, .int .i64 (endM a.2.2 (m + endT a.2.1)).1.2.2.1, .slice p3_1_4 (endM a.2.2 (m + endT a.2.1)).1.2.2.2.length q3_1_4, .int .i64 (endM a.2.2 (m + endT a.2.1)).2.1, .int .i64 (endM a.2.2 (m + endT a.2.1)).2.2.1, .slice p3_4 (endM a.2.2 (m + endT a.2.1)).2.2.2.1.length q3_4, .slice p3_5 (endM a.2.2 (m + endT a.2.1)).2.2.2.2.1.length q3_5, .slice p3_6_1 (endM a.2.2 (m + endT a.2.1)).2.2.2.2.2.1.length q3_6_1, .slice p3_6_2 (endM a.2.2 (m + endT a.2.1)).2.2.2.2.2.2.1.length q3_6_2, .slice p3_6_3 (endM a.2.2 (m + endT a.2.1)).2.2.2.2.2.2.2.1.length q3_6_3, .slice p3_6_4 (endM a.2.2 (m + endT a.2.1)).2.2.2.2.2.2.2.2.length q3_6_4] 60)
  replace h1 := endC.keep h1 BW
  replace h2 := endC.keep h2 BW
  have hT : Hid (m + (endT a.2.1 + endT a.2.2) ≤ 1048577) := hm
  clear hm
  go_enter Tryz.func33, Tryz.ntmps33
  go_wp2_with fail
  refine (heldEnd_k a.2.1 _ m _ (by first | rfl | simp | (simp; omega) | (push_cast; omega)) _ h1 (by have := hT.out; omega)).mono ?_
  rintro e w1 ⟨rfl, hb⟩
  replace A := A.stay hb
  replace BW := Below.step BW hb
  replace h1 := endC.keep h1 hb
  replace h2 := endC.keep h2 hb
  have ca0 := A.cell 0
  have ca1 := A.cell 1
  have ca2 := A.cell 2
  have ca3 := A.cell 3
  have ca4 := A.cell 4
  have ca5 := A.cell 5
  have ca6 := A.cell 6
  have ca7 := A.cell 7
  have ca8 := A.cell 8
  have ca9 := A.cell 9
  have ca10 := A.cell 10
  have ca11 := A.cell 11
  have ca12 := A.cell 12
  have ca13 := A.cell 13
  have ca14 := A.cell 14
  have ca15 := A.cell 15
  have ca16 := A.cell 16
  have ca17 := A.cell 17
  have ca18 := A.cell 18
  have ca19 := A.cell 19
  have ca20 := A.cell 20
  have ca21 := A.cell 21
  have ca22 := A.cell 22
  have ca23 := A.cell 23
  have ca24 := A.cell 24
  simp at ca0 ca1 ca2 ca3 ca4 ca5 ca6 ca7 ca8 ca9 ca10 ca11 ca12 ca13 ca14 ca15 ca16 ca17 ca18 ca19 ca20 ca21 ca22 ca23 ca24
  clear hb
  go_wp2_with fail
  refine (heldEnd_k a.2.2 _ (m + endT a.2.1) _ (by first | rfl | simp | (simp; omega) | (push_cast; omega)) _ h2 (by have := hT.out; omega)).mono ?_
  rintro e w2 ⟨rfl, hb⟩
  replace A := A.stay hb
  replace BW := Below.step BW hb
  replace h1 := endC.keep h1 hb
  replace h2 := endC.keep h2 hb
  have ca0 := A.cell 0
  have ca1 := A.cell 1
  have ca2 := A.cell 2
  have ca3 := A.cell 3
  have ca4 := A.cell 4
  have ca5 := A.cell 5
  have ca6 := A.cell 6
  have ca7 := A.cell 7
  have ca8 := A.cell 8
  have ca9 := A.cell 9
  have ca10 := A.cell 10
  have ca11 := A.cell 11
  have ca12 := A.cell 12
  have ca13 := A.cell 13
  have ca14 := A.cell 14
  have ca15 := A.cell 15
  have ca16 := A.cell 16
  have ca17 := A.cell 17
  have ca18 := A.cell 18
  have ca19 := A.cell 19
  have ca20 := A.cell 20
  have ca21 := A.cell 21
  have ca22 := A.cell 22
  have ca23 := A.cell 23
  have ca24 := A.cell 24
  simp at ca0 ca1 ca2 ca3 ca4 ca5 ca6 ca7 ca8 ca9 ca10 ca11 ca12 ca13 ca14 ca15 ca16 ca17 ca18 ca19 ca20 ca21 ca22 ca23 ca24
  clear hb
  go_wp2
  go_ret
  exact ⟨by unfold pairResultT; simp; try omega, BW⟩

end Go.Proofs.YtiabacnmmojfjabGreatDoor

