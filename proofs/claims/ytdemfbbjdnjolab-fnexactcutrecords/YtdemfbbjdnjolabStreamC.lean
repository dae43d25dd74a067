/- How Stream lies in memory, and the contracts of the laws' helpers on it (written by tools/codgen.py). -/
import Derived.Test.YtdemfbbjdnjolabCodK
namespace Go.Proofs.Ytdemfbbjdnjolab
open Go.ChangeShapes Go.WideShapes Go.ChangeAt Go.RowKit

abbrev StreamD := List UInt8 × Int × Int
def streamC : Cod StreamD := prodC bytC (prodC (intC .i64) ((intC .i64)))
theorem stream_rep {w : World} {a : StreamD} {vs : List Value} (h : streamC.rep w a vs) : ∃ p1 q1, vs = [.slice p1 a.1.length q1, .int .i64 a.2.1, .int .i64 a.2.2] ∧ Rd w p1 q1 a.1 := by
  obtain ⟨us0, ts0, rfl, h0, us1, ts1, rfl, h1, h2⟩ := h
  obtain ⟨p1, q1, rfl, r1⟩ := h0
  have e1 : us1 = [Value.int .i64 _] := h1
  subst e1
  have e2 : _ = [Value.int .i64 _] := h2
  subst e2
  exact ⟨p1, q1, rfl, r1⟩
theorem stream_mk {w : World} {a : StreamD} {p1 : Option Addr} {q1 : Nat} (r1 : Rd w p1 q1 a.1) : streamC.rep w a [.slice p1 a.1.length q1, .int .i64 a.2.1, .int .i64 a.2.2] := ⟨[.slice p1 a.1.length q1], _, rfl, ⟨p1, q1, rfl, r1⟩, ⟨[.int .i64 a.2.1], _, rfl, rfl, rfl⟩⟩
def streamT (a : StreamD) : Nat := a.1.length
def streamM (a : StreamD) (m : Nat) : StreamD := (marks m a.1.length, a.2.1, a.2.2)

def streamN (a : StreamD) : Nat := a.1.length
theorem streamT_le (a : StreamD) : streamT a ≤ 8 * streamN a := by
  unfold streamT streamN
  omega






end Go.Proofs.Ytdemfbbjdnjolab
