/- How Sign lies in memory, and the contracts of the laws' helpers on it (written by tools/codgen.py). -/
import Derived.Test.YtdbpnibcblelbaaDoorJoint8
import Derived.Test.YtdbpnibcblelbaaDoorJoint4
namespace Go.Proofs.YtdbpnibcblelbaaDoor
open Go.ChangeShapes Go.WideShapes Go.ChangeAt Go.RowKit

abbrev SignD := Int × Int × List UInt8
def signC : Cod SignD := prodC (intC .i64) (prodC (intC .i64) bytC)
theorem sign_rep {w : World} {a : SignD} {vs : List Value} (h : signC.rep w a vs) : ∃ p3 q3, vs = [.int .i64 a.1, .int .i64 a.2.1, .slice p3 a.2.2.length q3] ∧ Rd w p3 q3 a.2.2 := by
  obtain ⟨us0, ts0, rfl, h0, us1, ts1, rfl, h1, h2⟩ := h
  have e0 : us0 = [Value.int .i64 _] := h0
  subst e0
  have e1 : us1 = [Value.int .i64 _] := h1
  subst e1
  obtain ⟨p3, q3, rfl, r3⟩ := h2
  exact ⟨p3, q3, rfl, r3⟩
theorem sign_mk {w : World} {a : SignD} {p3 : Option Addr} {q3 : Nat} (r3 : Rd w p3 q3 a.2.2) : signC.rep w a [.int .i64 a.1, .int .i64 a.2.1, .slice p3 a.2.2.length q3] := ⟨[.int .i64 a.1], _, rfl, rfl, ⟨[.int .i64 a.2.1], _, rfl, rfl, ⟨p3, q3, rfl, r3⟩⟩⟩
def signT (a : SignD) : Nat := a.2.2.length
def signM (a : SignD) (m : Nat) : SignD := (a.1, a.2.1, marks m a.2.2.length)

def signN (a : SignD) : Nat := a.2.2.length
theorem signT_le (a : SignD) : signT a ≤ 8 * signN a := by
  unfold signT signN
  omega






end Go.Proofs.YtdbpnibcblelbaaDoor

/- How Auth lies in memory, and the contracts of the laws' helpers on it (written by tools/codgen.py). -/
namespace Go.Proofs.YtdbpnibcblelbaaDoor
open Go.ChangeShapes Go.WideShapes Go.ChangeAt Go.RowKit

abbrev AuthD := List UInt8 × CertD × Int × List UInt8
def authC : Cod AuthD := prodC bytC (prodC certC (prodC (intC .i64) bytC))
theorem auth_rep {w : World} {a : AuthD} {vs : List Value} (h : authC.rep w a vs) : ∃ p1 q1 p4 q4, vs = [.slice p1 a.1.length q1, .int .i64 a.2.1.1, .int .i64 a.2.1.2.1, .int .i64 a.2.1.2.2, .int .i64 a.2.2.1, .slice p4 a.2.2.2.length q4] ∧ Rd w p1 q1 a.1 ∧ Rd w p4 q4 a.2.2.2 := by
  obtain ⟨us0, ts0, rfl, h0, us1, ts1, rfl, h1, us2, ts2, rfl, h2, h3⟩ := h
  obtain ⟨p1, q1, rfl, r1⟩ := h0
  have e1 := cert_rep h1
  subst e1
  have e2 : us2 = [Value.int .i64 _] := h2
  subst e2
  obtain ⟨p4, q4, rfl, r4⟩ := h3
  exact ⟨p1, q1, p4, q4, rfl, r1, r4⟩
theorem auth_mk {w : World} {a : AuthD} {p1 : Option Addr} {q1 : Nat} {p4 : Option Addr} {q4 : Nat} (r1 : Rd w p1 q1 a.1) (r4 : Rd w p4 q4 a.2.2.2) : authC.rep w a [.slice p1 a.1.length q1, .int .i64 a.2.1.1, .int .i64 a.2.1.2.1, .int .i64 a.2.1.2.2, .int .i64 a.2.2.1, .slice p4 a.2.2.2.length q4] := ⟨[.slice p1 a.1.length q1], _, rfl, ⟨p1, q1, rfl, r1⟩, ⟨[.int .i64 a.2.1.1, .int .i64 a.2.1.2.1, .int .i64 a.2.1.2.2], _, rfl, cert_mk, ⟨[.int .i64 a.2.2.1], _, rfl, rfl, ⟨p4, q4, rfl, r4⟩⟩⟩⟩
def authT (a : AuthD) : Nat := a.1.length + a.2.2.2.length
def authM (a : AuthD) (m : Nat) : AuthD := (marks m a.1.length, a.2.1, a.2.2.1, marks (m + a.1.length) a.2.2.2.length)

def authN (a : AuthD) : Nat := a.1.length + a.2.2.2.length
theorem authT_le (a : AuthD) : authT a ≤ 8 * authN a := by
  unfold authT authN
  omega






end Go.Proofs.YtdbpnibcblelbaaDoor

/- The contracts of the laws' helpers on lists of bytes, and on answers that hold such a list: toByteSS, szByteSS, eqByteSS, markByteSS, heldByteSS; eqBlocksResult, markBlocksResult, heldBlocksResult. -/
namespace Go.Proofs.YtdbpnibcblelbaaDoor
open Go.ChangeShapes Go.WideShapes Go.ChangeAt Go.RowKit

abbrev BlkD := List UInt8
theorem blk_rep {w : World} {a : BlkD} {vs : List Value} (h : bytC.rep w a vs) : ∃ p q, vs = [.slice p a.length q] ∧ Rd w p q a := h
theorem blk_own {w : World} {B : Nat} {a : BlkD} {vs : List Value} {fp : List Nat} (h : bytC.own w B a vs fp) : ∃ v, vs = [v] ∧ Own w B v a ∧ fp = v.ownBlock.toList := h
theorem blk_own_mk {w : World} {B : Nat} {a : BlkD} {v : Value} (o : Own w B v a) : bytC.own w B a [v] v.ownBlock.toList := ⟨v, rfl, o, rfl⟩
def sumB (l : List BlkD) : Nat := (l.map List.length).sum
def bulkB (l : List BlkD) : Nat := sumB l + l.length
theorem sumB_take {l : List BlkD} {k : Nat} {a : BlkD} (h : l[k]? = some a) : sumB (l.take (k + 1)) = sumB (l.take k) + a.length := by
  rw [List.take_add_one, h]; simp [sumB]
theorem sumB_append (l r : List BlkD) : sumB (l ++ r) = sumB l + sumB r := by simp [sumB]
theorem sumB_le (l : List BlkD) (k : Nat) : sumB (l.take k) ≤ sumB l := by
  conv => rhs; rw [← List.take_append_drop k l, sumB_append]
  omega
theorem sumB_at {l : List BlkD} {k : Nat} {a : BlkD} (h : l[k]? = some a) : a.length ≤ sumB l := by
  have h1 := sumB_take h
  have h2 := sumB_le l (k + 1)
  omega

theorem infoBlk : (Tryd.prog.info? 22).map (fun i => (i.zero, i.size, i.bytes)) = some (some (.slice none 0 0), 1, 24) := by kernel_rfl



def mkB : List BlkD → Nat → List BlkD
  | [], _ => []
  | a :: l, m => marks m a.length :: mkB l (m + a.length)
theorem mkB_append : ∀ (l r : List BlkD) (m : Nat), mkB (l ++ r) m = mkB l m ++ mkB r (m + sumB l)
  | [], r, m => by simp [mkB, sumB]
  | a :: l, r, m => by
    rw [List.cons_append, mkB, mkB, mkB_append l r, List.cons_append, show m + a.length + sumB l = m + sumB (a :: l) by simp [sumB]; omega]
theorem mkB_len : ∀ (l : List BlkD) (m : Nat), (mkB l m).length = l.length
  | [], _ => rfl
  | a :: l, m => by rw [mkB, List.length_cons, mkB_len l, List.length_cons]
theorem mkB_take {l : List BlkD} {k : Nat} {a : BlkD} (h : l[k]? = some a) (m : Nat) : mkB (l.take (k + 1)) m = mkB (l.take k) m ++ [marks (m + sumB (l.take k)) a.length] := by
  rw [List.take_add_one, h, mkB_append]; rfl
theorem mkB_at {l : List BlkD} {k : Nat} {a : BlkD} (h : l[k]? = some a) (m : Nat) : (mkB l m)[k]? = some (marks (m + sumB (l.take k)) a.length) := by
  have hk := (List.getElem?_eq_some_iff.1 h).1
  conv => lhs; rw [← List.take_append_drop k l, drop_at h, mkB_append]
  rw [List.getElem?_append_right (by rw [mkB_len, List.length_take]; omega), mkB_len, List.length_take, Nat.min_eq_left (by omega), Nat.sub_self]
  rfl



end Go.Proofs.YtdbpnibcblelbaaDoor

