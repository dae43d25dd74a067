/- How PairResult lies in memory, and the contracts of the laws' helpers on it (written by tools/codgen.py). -/
import Derived.Test.YtiabacnmmojfjaaJoint9
import Derived.Test.YtiabacnmmojfjaaEndC
namespace Go.Proofs.Ytiabacnmmojfjaa
open Go.ChangeShapes Go.WideShapes Go.ChangeAt Go.RowKit

abbrev PairResultD := Int × EndD × EndD
def pairResultC : Cod PairResultD := prodC (intC .i64) (prodC endC endC)
theorem pairResult_rep {w : World} {a : PairResultD} {vs : List Value} (h : pairResultC.rep w a vs) : ∃ p2_1_2 q2_1_2 p2_1_4 q2_1_4 p2_4 q2_4 p2_5 q2_5 p2_6_1 q2_6_1 p2_6_2 q2_6_2 p2_6_3 q2_6_3 p2_6_4 q2_6_4 p3_1_2 q3_1_2 p3_1_4 q3_1_4 p3_4 q3_4 p3_5 q3_5 p3_6_1 q3_6_1 p3_6_2 q3_6_2 p3_6_3 q3_6_3 p3_6_4 q3_6_4, vs = [.int .i64 a.1, .int .i64 a.2.1.1.1, .slice p2_1_2 a.2.1.1.2.1.length q2_1_2, .int .i64 a.2.1.1.2.2.1, .slice p2_1_4 a.2.1.1.2.2.2.length q2_1_4, .int .i64 a.2.1.2.1, .int .i64 a.2.1.2.2.1, .slice p2_4 a.2.1.2.2.2.1.length q2_4, .slice p2_5 a.2.1.2.2.2.2.1.length q2_5, .slice p2_6_1 a.2.1.2.2.2.2.2.1.length q2_6_1, .slice p2_6_2 a.2.1.2.2.2.2.2.2.1.length q2_6_2, .slice p2_6_3 a.2.1.2.2.2.2.2.2.2.1.length q2_6_3, .slice p2_6_4 a.2.1.2.2.2.2.2.2.2.2.length q2_6_4, .int .i64 a.2.2.1.1, .slice p3_1_2 a.2.2.1.2.1.length q3_1_2, .int .i64 a.2.2.1.2.2.1, .slice p3_1_4 a.2.2.1.2.2.2.length q3_1_4, .int .i64 a.2.2.2.1, .int .i64 a.2.2.2.2.1, .slice p3_4 a.2.2.2.2.2.1.length q3_4, .slice p3_5 a.2.2.2.2.2.2.1.length q3_5, .slice p3_6_1 a.2.2.2.2.2.2.2.1.length q3_6_1, .slice p3_6_2 a.2.2.2.2.2.2.2.2.1.length q3_6_2, .slice p3_6_3 a.2.2.2.2.2.2.2.2.2.1.length q3_6_3, .slice p3_6_4 a.2.2.2.2.2.2.2.2.2.2.length q3_6_4] ∧ Rd w p2_1_2 q2_1_2 a.2.1.1.2.1 ∧ Rd w p2_1_4 q2_1_4 a.2.1.1.2.2.2 ∧ RdL msgC w p2_4 q2_4 a.2.1.2.2.2.1 ∧ Rd w p2_5 q2_5 a.2.1.2.2.2.2.1 ∧ Rd w p2_6_1 q2_6_1 a.2.1.2.2.2.2.2.1 ∧ Rd w p2_6_2 q2_6_2 a.2.1.2.2.2.2.2.2.1 ∧ Rd w p2_6_3 q2_6_3 a.2.1.2.2.2.2.2.2.2.1 ∧ Rd w p2_6_4 q2_6_4 a.2.1.2.2.2.2.2.2.2.2 ∧ Rd w p3_1_2 q3_1_2 a.2.2.1.2.1 ∧ Rd w p3_1_4 q3_1_4 a.2.2.1.2.2.2 ∧ RdL msgC w p3_4 q3_4 a.2.2.2.2.2.1 ∧ Rd w p3_5 q3_5 a.2.2.2.2.2.2.1 ∧ Rd w p3_6_1 q3_6_1 a.2.2.2.2.2.2.2.1 ∧ Rd w p3_6_2 q3_6_2 a.2.2.2.2.2.2.2.2.1 ∧ Rd w p3_6_3 q3_6_3 a.2.2.2.2.2.2.2.2.2.1 ∧ Rd w p3_6_4 q3_6_4 a.2.2.2.2.2.2.2.2.2.2 := by
  obtain ⟨us0, ts0, rfl, h0, us1, ts1, rfl, h1, h2⟩ := h
  have e0 : us0 = [Value.int .i64 _] := h0
  subst e0
  obtain ⟨p2_1_2, q2_1_2, p2_1_4, q2_1_4, p2_4, q2_4, p2_5, q2_5, p2_6_1, q2_6_1, p2_6_2, q2_6_2, p2_6_3, q2_6_3, p2_6_4, q2_6_4, rfl, r2_1_2, r2_1_4, r2_4, r2_5, r2_6_1, r2_6_2, r2_6_3, r2_6_4⟩ := end_rep h1
  obtain ⟨p3_1_2, q3_1_2, p3_1_4, q3_1_4, p3_4, q3_4, p3_5, q3_5, p3_6_1, q3_6_1, p3_6_2, q3_6_2, p3_6_3, q3_6_3, p3_6_4, q3_6_4, rfl, r3_1_2, r3_1_4, r3_4, r3_5, r3_6_1, r3_6_2, r3_6_3, r3_6_4⟩ := end_rep h2
  exact ⟨p2_1_2, q2_1_2, p2_1_4, q2_1_4, p2_4, q2_4, p2_5, q2_5, p2_6_1, q2_6_1, p2_6_2, q2_6_2, p2_6_3, q2_6_3, p2_6_4, q2_6_4, p3_1_2, q3_1_2, p3_1_4, q3_1_4, p3_4, q3_4, p3_5, q3_5, p3_6_1, q3_6_1, p3_6_2, q3_6_2, p3_6_3, q3_6_3, p3_6_4, q3_6_4, rfl, r2_1_2, r2_1_4, r2_4, r2_5, r2_6_1, r2_6_2, r2_6_3, r2_6_4, r3_1_2, r3_1_4, r3_4, r3_5, r3_6_1, r3_6_2, r3_6_3, r3_6_4⟩
theorem pairResult_mk {w : World} {a : PairResultD} {p2_1_2 : Option Addr} {q2_1_2 : Nat} {p2_1_4 : Option Addr} {q2_1_4 : Nat} {p2_4 : Option Addr} {q2_4 : Nat} {p2_5 : Option Addr} {q2_5 : Nat} {p2_6_1 : Option Addr} {q2_6_1 : Nat} {p2_6_2 : Option Addr} {q2_6_2 : Nat} {p2_6_3 : Option Addr} {q2_6_3 : Nat} {p2_6_4 : Option Addr} {q2_6_4 : Nat} {p3_1_2 : Option Addr} {q3_1_2 : Nat} {p3_1_4 : Option Addr} {q3_1_4 : Nat} {p3_4 : Option Addr} {q3_4 : Nat} {p3_5 : Option Addr} {q3_5 : Nat} {p3_6_1 : Option Addr} {q3_6_1 : Nat} {p3_6_2 : Option Addr} {q3_6_2 : Nat} {p3_6_3 : Option Addr} {q3_6_3 : Nat} {p3_6_4 : Option Addr} {q3_6_4 : Nat} (r2_1_2 : Rd w p2_1_2 q2_1_2 a.2.1.1.2.1) (r2_1_4 : Rd w p2_1_4 q2_1_4 a.2.1.1.2.2.2) (r2_4 : RdL msgC w p2_4 q2_4 a.2.1.2.2.2.1) (r2_5 : Rd w p2_5 q2_5 a.2.1.2.2.2.2.1) (r2_6_1 : Rd w p2_6_1 q2_6_1 a.2.1.2.2.2.2.2.1) (r2_6_2 : Rd w p2_6_2 q2_6_2 a.2.1.2.2.2.2.2.2.1) (r2_6_3 : Rd w p2_6_3 q2_6_3 a.2.1.2.2.2.2.2.2.2.1) (r2_6_4 : Rd w p2_6_4 q2_6_4 a.2.1.2.2.2.2.2.2.2.2) (r3_1_2 : Rd w p3_1_2 q3_1_2 a.2.2.1.2.1) (r3_1_4 : Rd w p3_1_4 q3_1_4 a.2.2.1.2.2.2) (r3_4 : RdL msgC w p3_4 q3_4 a.2.2.2.2.2.1) (r3_5 : Rd w p3_5 q3_5 a.2.2.2.2.2.2.1) (r3_6_1 : Rd w p3_6_1 q3_6_1 a.2.2.2.2.2.2.2.1) (r3_6_2 : Rd w p3_6_2 q3_6_2 a.2.2.2.2.2.2.2.2.1) (r3_6_3 : Rd w p3_6_3 q3_6_3 a.2.2.2.2.2.2.2.2.2.1) (r3_6_4 : Rd w p3_6_4 q3_6_4 a.2.2.2.2.2.2.2.2.2.2) : pairResultC.rep w a [.int .i64 a.1, .int .i64 a.2.1.1.1, .slice p2_1_2 a.2.1.1.2.1.length q2_1_2, .int .i64 a.2.1.1.2.2.1, .slice p2_1_4 a.2.1.1.2.2.2.length q2_1_4, .int .i64 a.2.1.2.1, .int .i64 a.2.1.2.2.1, .slice p2_4 a.2.1.2.2.2.1.length q2_4, .slice p2_5 a.2.1.2.2.2.2.1.length q2_5, .slice p2_6_1 a.2.1.2.2.2.2.2.1.length q2_6_1, .slice p2_6_2 a.2.1.2.2.2.2.2.2.1.length q2_6_2, .slice p2_6_3 a.2.1.2.2.2.2.2.2.2.1.length q2_6_3, .slice p2_6_4 a.2.1.2.2.2.2.2.2.2.2.length q2_6_4, .int .i64 a.2.2.1.1, .slice p3_1_2 a.2.2.1.2.1.length q3_1_2, .int .i64 a.2.2.1.2.2.1, .slice p3_1_4 a.2.2.1.2.2.2.length q3_1_4, .int .i64 a.2.2.2.1, .int .i64 a.2.2.2.2.1, .slice p3_4 a.2.2.2.2.2.1.length q3_4, .slice p3_5 a.2.2.2.2.2.2.1.length q3_5, .slice p3_6_1 a.2.2.2.2.2.2.2.1.length q3_6_1, .slice p3_6_2 a.2.2.2.2.2.2.2.2.1.length q3_6_2, .slice p3_6_3 a.2.2.2.2.2.2.2.2.2.1.length q3_6_3, .slice p3_6_4 a.2.2.2.2.2.2.2.2.2.2.length q3_6_4] := ⟨[.int .i64 a.1], _, rfl, rfl, ⟨[.int .i64 a.2.1.1.1, .slice p2_1_2 a.2.1.1.2.1.length q2_1_2, .int .i64 a.2.1.1.2.2.1, .slice p2_1_4 a.2.1.1.2.2.2.length q2_1_4, .int .i64 a.2.1.2.1, .int .i64 a.2.1.2.2.1, .slice p2_4 a.2.1.2.2.2.1.length q2_4, .slice p2_5 a.2.1.2.2.2.2.1.length q2_5, .slice p2_6_1 a.2.1.2.2.2.2.2.1.length q2_6_1, .slice p2_6_2 a.2.1.2.2.2.2.2.2.1.length q2_6_2, .slice p2_6_3 a.2.1.2.2.2.2.2.2.2.1.length q2_6_3, .slice p2_6_4 a.2.1.2.2.2.2.2.2.2.2.length q2_6_4], _, rfl, (end_mk r2_1_2 r2_1_4 r2_4 r2_5 r2_6_1 r2_6_2 r2_6_3 r2_6_4), (end_mk r3_1_2 r3_1_4 r3_4 r3_5 r3_6_1 r3_6_2 r3_6_3 r3_6_4)⟩⟩
def pairResultT (a : PairResultD) : Nat := endT a.2.1 + endT a.2.2
def pairResultM (a : PairResultD) (m : Nat) : PairResultD := (a.1, endM a.2.1 m, endM a.2.2 (m + endT a.2.1))

def pairResultN (a : PairResultD) : Nat := endN a.2.1 + endN a.2.2
theorem pairResultT_le (a : PairResultD) : pairResultT a ≤ 8 * pairResultN a := by
  have h1 := endT_le a.2.1
  have h2 := endT_le a.2.2
  unfold pairResultT pairResultN
  omega






end Go.Proofs.Ytiabacnmmojfjaa

