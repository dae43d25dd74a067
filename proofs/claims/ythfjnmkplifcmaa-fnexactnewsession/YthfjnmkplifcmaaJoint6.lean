/- How Cert lies in memory, alone and in lists, and the contracts of the laws' helpers on it (written by tools/certgen.py). -/
import Derived.Test.YthfjnmkplifcmaaCodK
import Derived.Test.YthfjnmkplifcmaaClass
namespace Go.Proofs.Ythfjnmkplifcmaa
open Go.ChangeShapes Go.WideShapes Go.ChangeAt Go.RowKit

abbrev CertD := Int × Int × Int
def certC : Cod CertD := prodC (intC .i64) (prodC (intC .i64) (intC .i64))
theorem cert_rep {w : World} {a : CertD} {vs : List Value} (h : certC.rep w a vs) : vs = [.int .i64 a.1, .int .i64 a.2.1, .int .i64 a.2.2] := by
  obtain ⟨us0, ts0, rfl, h0, us1, ts1, rfl, h1, h2⟩ := h
  have e0 : us0 = [Value.int .i64 _] := h0
  have e1 : us1 = [Value.int .i64 _] := h1
  have e2 : ts1 = [Value.int .i64 _] := h2
  rw [e0, e1, e2]
  rfl
theorem cert_mk {w : World} {a : CertD} : certC.rep w a [.int .i64 a.1, .int .i64 a.2.1, .int .i64 a.2.2] := ⟨[_], _, rfl, rfl, [_], _, rfl, rfl, rfl⟩
theorem cert_own {w : World} {B : Nat} {a : CertD} : certC.own w B a [.int .i64 a.1, .int .i64 a.2.1, .int .i64 a.2.2] [] := ⟨[_], _, [], [], rfl, rfl, List.nodup_nil, ⟨rfl, rfl⟩, [_], _, [], [], rfl, rfl, List.nodup_nil, ⟨rfl, rfl⟩, rfl, rfl⟩
theorem cert_own_inv {w : World} {B : Nat} {a : CertD} {vs : List Value} {fp : List Nat} (h : certC.own w B a vs fp) : vs = [.int .i64 a.1, .int .i64 a.2.1, .int .i64 a.2.2] ∧ fp = [] := by
  obtain ⟨us0, ts0, f0, g0, rfl, rfl, -, ⟨rfl, rfl⟩, us1, ts1, f1, g1, rfl, rfl, -, ⟨rfl, rfl⟩, ⟨rfl, rfl⟩⟩ := h
  exact ⟨rfl, rfl⟩
end Go.Proofs.Ythfjnmkplifcmaa

/- How Sign lies in memory, and the contracts of the laws' helpers on it (written by tools/codgen.py). -/
namespace Go.Proofs.Ythfjnmkplifcmaa
open Go.ChangeShapes Go.WideShapes Go.ChangeAt Go.RowKit

abbrev SignD := Int × Int × List UInt8
def signC : Cod SignD := prodC (intC .i64) (prodC (intC .i64) bytC)
theorem sign_rep {w : World} {a : SignD} {vs : List Value} (h : signC.rep w a vs) : ∃ p3 q3, vs = [.int .i64 a.1, .int .i64 a.2.1, .slice p3 a.2.2.length q3] ∧ Rd w p3 q3 a.2.2 := by
  obtain ⟨us0, ts0, rfl, h0, us1, ts1, rfl, h1, h2⟩ := h
  have e0 : us0 = [Value.int .i64 _] := h0
  subst e0
  have e1 : us1 = [Value.int .i64 _] := h1
  subst e1
  obtain ⟨p3, q3, rfl, r3⟩ := h2
  exact ⟨p3, q3, rfl, r3⟩
theorem sign_mk {w : World} {a : SignD} {p3 : Option Addr} {q3 : Nat} (r3 : Rd w p3 q3 a.2.2) : signC.rep w a [.int .i64 a.1, .int .i64 a.2.1, .slice p3 a.2.2.length q3] := ⟨[.int .i64 a.1], _, rfl, rfl, ⟨[.int .i64 a.2.1], _, rfl, rfl, ⟨p3, q3, rfl, r3⟩⟩⟩
def signT (a : SignD) : Nat := a.2.2.length
def signM (a : SignD) (m : Nat) : SignD := (a.1, a.2.1, marks m a.2.2.length)

def signN (a : SignD) : Nat := a.2.2.length
theorem signT_le (a : SignD) : signT a ≤ 8 * signN a := by
  unfold signT signN
  omega






end Go.Proofs.Ythfjnmkplifcmaa

/- How Auth lies in memory, and the contracts of the laws' helpers on it (written by tools/codgen.py). -/
namespace Go.Proofs.Ythfjnmkplifcmaa
open Go.ChangeShapes Go.WideShapes Go.ChangeAt Go.RowKit

abbrev AuthD := List UInt8 × CertD × Int × List UInt8
def authC : Cod AuthD := prodC bytC (prodC certC (prodC (intC .i64) bytC))
theorem auth_rep {w : World} {a : AuthD} {vs : List Value} (h : authC.rep w a vs) : ∃ p1 q1 p4 q4, vs = [.slice p1 a.1.length q1, .int .i64 a.2.1.1, .int .i64 a.2.1.2.1, .int .i64 a.2.1.2.2, .int .i64 a.2.2.1, .slice p4 a.2.2.2.length q4] ∧ Rd w p1 q1 a.1 ∧ Rd w p4 q4 a.2.2.2 := by
  obtain ⟨us0, ts0, rfl, h0, us1, ts1, rfl, h1, us2, ts2, rfl, h2, h3⟩ := h
  obtain ⟨p1, q1, rfl, r1⟩ := h0
  have e1 := cert_rep h1
  subst e1
  have e2 : us2 = [Value.int .i64 _] := h2
  subst e2
  obtain ⟨p4, q4, rfl, r4⟩ := h3
  exact ⟨p1, q1, p4, q4, rfl, r1, r4⟩
theorem auth_mk {w : World} {a : AuthD} {p1 : Option Addr} {q1 : Nat} {p4 : Option Addr} {q4 : Nat} (r1 : Rd w p1 q1 a.1) (r4 : Rd w p4 q4 a.2.2.2) : authC.rep w a [.slice p1 a.1.length q1, .int .i64 a.2.1.1, .int .i64 a.2.1.2.1, .int .i64 a.2.1.2.2, .int .i64 a.2.2.1, .slice p4 a.2.2.2.length q4] := ⟨[.slice p1 a.1.length q1], _, rfl, ⟨p1, q1, rfl, r1⟩, ⟨[.int .i64 a.2.1.1, .int .i64 a.2.1.2.1, .int .i64 a.2.1.2.2], _, rfl, cert_mk, ⟨[.int .i64 a.2.2.1], _, rfl, rfl, ⟨p4, q4, rfl, r4⟩⟩⟩⟩
def authT (a : AuthD) : Nat := a.1.length + a.2.2.2.length
def authM (a : AuthD) (m : Nat) : AuthD := (marks m a.1.length, a.2.1, a.2.2.1, marks (m + a.1.length) a.2.2.2.length)

def authN (a : AuthD) : Nat := a.1.length + a.2.2.2.length
theorem authT_le (a : AuthD) : authT a ≤ 8 * authN a := by
  unfold authT authN
  omega






end Go.Proofs.Ythfjnmkplifcmaa

