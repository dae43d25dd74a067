/- How KeysResult lies in memory, and the contracts of the laws' helpers on it (written by tools/codgen.py). -/
import Derived.Test.YtdemfbbjdnjolaaCodK
namespace Go.Proofs.Ytdemfbbjdnjolaa
open Go.ChangeShapes Go.WideShapes Go.ChangeAt Go.RowKit

abbrev KeysResultD := Int × List UInt8 × List UInt8
def keysResultC : Cod KeysResultD := prodC (intC .i64) (prodC bytC bytC)
theorem keysResult_rep {w : World} {a : KeysResultD} {vs : List Value} (h : keysResultC.rep w a vs) : ∃ p2 q2 p3 q3, vs = [.int .i64 a.1, .slice p2 a.2.1.length q2, .slice p3 a.2.2.length q3] ∧ Rd w p2 q2 a.2.1 ∧ Rd w p3 q3 a.2.2 := by
  obtain ⟨us0, ts0, rfl, h0, us1, ts1, rfl, h1, h2⟩ := h
  have e0 : us0 = [Value.int .i64 _] := h0
  subst e0
  obtain ⟨p2, q2, rfl, r2⟩ := h1
  obtain ⟨p3, q3, rfl, r3⟩ := h2
  exact ⟨p2, q2, p3, q3, rfl, r2, r3⟩
theorem keysResult_mk {w : World} {a : KeysResultD} {p2 : Option Addr} {q2 : Nat} {p3 : Option Addr} {q3 : Nat} (r2 : Rd w p2 q2 a.2.1) (r3 : Rd w p3 q3 a.2.2) : keysResultC.rep w a [.int .i64 a.1, .slice p2 a.2.1.length q2, .slice p3 a.2.2.length q3] := ⟨[.int .i64 a.1], _, rfl, rfl, ⟨[.slice p2 a.2.1.length q2], _, rfl, ⟨p2, q2, rfl, r2⟩, ⟨p3, q3, rfl, r3⟩⟩⟩
def keysResultT (a : KeysResultD) : Nat := a.2.1.length + a.2.2.length
def keysResultM (a : KeysResultD) (m : Nat) : KeysResultD := (a.1, marks m a.2.1.length, marks (m + a.2.1.length) a.2.2.length)

def keysResultN (a : KeysResultD) : Nat := a.2.1.length + a.2.2.length
theorem keysResultT_le (a : KeysResultD) : keysResultT a ≤ 8 * keysResultN a := by
  unfold keysResultT keysResultN
  omega






end Go.Proofs.Ytdemfbbjdnjolaa
