/- How RecordResult lies in memory, and the contracts of the laws' helpers on it (written by tools/codgen.py). -/
import Derived.Test.YtdemfbbjdnjolaaCodK
import Derived.Test.YtdemfbbjdnjolaaStreamC
namespace Go.Proofs.Ytdemfbbjdnjolaa
open Go.ChangeShapes Go.WideShapes Go.ChangeAt Go.RowKit

abbrev RecordResultD := Int × Int × List UInt8 × StreamD
def recordResultC : Cod RecordResultD := prodC (intC .i64) (prodC (intC .i64) (prodC bytC streamC))
theorem recordResult_rep {w : World} {a : RecordResultD} {vs : List Value} (h : recordResultC.rep w a vs) : ∃ p3 q3 p4_1 q4_1, vs = [.int .i64 a.1, .int .i64 a.2.1, .slice p3 a.2.2.1.length q3, .slice p4_1 a.2.2.2.1.length q4_1, .int .i64 a.2.2.2.2.1, .int .i64 a.2.2.2.2.2] ∧ Rd w p3 q3 a.2.2.1 ∧ Rd w p4_1 q4_1 a.2.2.2.1 := by
  obtain ⟨us0, ts0, rfl, h0, us1, ts1, rfl, h1, us2, ts2, rfl, h2, h3⟩ := h
  have e0 : us0 = [Value.int .i64 _] := h0
  subst e0
  have e1 : us1 = [Value.int .i64 _] := h1
  subst e1
  obtain ⟨p3, q3, rfl, r3⟩ := h2
  obtain ⟨p4_1, q4_1, rfl, r4_1⟩ := stream_rep h3
  exact ⟨p3, q3, p4_1, q4_1, rfl, r3, r4_1⟩
theorem recordResult_mk {w : World} {a : RecordResultD} {p3 : Option Addr} {q3 : Nat} {p4_1 : Option Addr} {q4_1 : Nat} (r3 : Rd w p3 q3 a.2.2.1) (r4_1 : Rd w p4_1 q4_1 a.2.2.2.1) : recordResultC.rep w a [.int .i64 a.1, .int .i64 a.2.1, .slice p3 a.2.2.1.length q3, .slice p4_1 a.2.2.2.1.length q4_1, .int .i64 a.2.2.2.2.1, .int .i64 a.2.2.2.2.2] := ⟨[.int .i64 a.1], _, rfl, rfl, ⟨[.int .i64 a.2.1], _, rfl, rfl, ⟨[.slice p3 a.2.2.1.length q3], _, rfl, ⟨p3, q3, rfl, r3⟩, (stream_mk r4_1)⟩⟩⟩
def recordResultT (a : RecordResultD) : Nat := a.2.2.1.length + streamT a.2.2.2
def recordResultM (a : RecordResultD) (m : Nat) : RecordResultD := (a.1, a.2.1, marks m a.2.2.1.length, streamM a.2.2.2 (m + a.2.2.1.length))

def recordResultN (a : RecordResultD) : Nat := a.2.2.1.length + streamN a.2.2.2
theorem recordResultT_le (a : RecordResultD) : recordResultT a ≤ 8 * recordResultN a := by
  have h3 := streamT_le a.2.2.2
  unfold recordResultT recordResultN
  omega






end Go.Proofs.Ytdemfbbjdnjolaa
