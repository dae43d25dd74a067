/- The contracts of the laws' helpers on lists of bytes, and on answers that hold such a list: toByteSS, szByteSS, eqByteSS, markByteSS, heldByteSS; eqBlocksResult, markBlocksResult, heldBlocksResult. -/
import Derived.Test.YtdbpnibcblelbaaGreatDoorJoint10
import Derived.Test.YtdbpnibcblelbaaGreatDoorJoint5
import Derived.Test.YtdbpnibcblelbaaGreatDoorJoint8
import Derived.Deep.AppendLies
import Derived.Test.YtdbpnibcblelbaaGreatDoorJoint2
import Derived.Test.YtdbpnibcblelbaaGreatDoorJoint3
import Derived.Test.YtdbpnibcblelbaaGreatDoorJoint9
namespace Go.Proofs.YtdbpnibcblelbaaGreatDoor
open Go.ChangeShapes Go.WideShapes Go.ChangeAt Go.RowKit

abbrev BlkD := List UInt8
theorem blk_rep {w : World} {a : BlkD} {vs : List Value} (h : bytC.rep w a vs) : ∃ p q, vs = [.slice p a.length q] ∧ Rd w p q a := h
theorem blk_own {w : World} {B : Nat} {a : BlkD} {vs : List Value} {fp : List Nat} (h : bytC.own w B a vs fp) : ∃ v, vs = [v] ∧ Own w B v a ∧ fp = v.ownBlock.toList := h
theorem blk_own_mk {w : World} {B : Nat} {a : BlkD} {v : Value} (o : Own w B v a) : bytC.own w B a [v] v.ownBlock.toList := ⟨v, rfl, o, rfl⟩
def sumB (l : List BlkD) : Nat := (l.map List.length).sum
def bulkB (l : List BlkD) : Nat := sumB l + l.length
theorem sumB_take {l : List BlkD} {k : Nat} {a : BlkD} (h : l[k]? = some a) : sumB (l.take (k + 1)) = sumB (l.take k) + a.length := by
  rw [List.take_add_one, h]; simp [sumB]
theorem sumB_append (l r : List BlkD) : sumB (l ++ r) = sumB l + sumB r := by simp [sumB]
theorem sumB_le (l : List BlkD) (k : Nat) : sumB (l.take k) ≤ sumB l := by
  conv => rhs; rw [← List.take_append_drop k l, sumB_append]
  omega
theorem sumB_at {l : List BlkD} {k : Nat} {a : BlkD} (h : l[k]? = some a) : a.length ≤ sumB l := by
  have h1 := sumB_take h
  have h2 := sumB_le l (k + 1)
  omega

theorem infoBlk : (Tryz.prog.info? 22).map (fun i => (i.zero, i.size, i.bytes)) = some (some (.slice none 0 0), 1, 24) := by kernel_rfl



def mkB : List BlkD → Nat → List BlkD
  | [], _ => []
  | a :: l, m => marks m a.length :: mkB l (m + a.length)
theorem mkB_append : ∀ (l r : List BlkD) (m : Nat), mkB (l ++ r) m = mkB l m ++ mkB r (m + sumB l)
  | [], r, m => by simp [mkB, sumB]
  | a :: l, r, m => by
    rw [List.cons_append, mkB, mkB, mkB_append l r, List.cons_append, show m + a.length + sumB l = m + sumB (a :: l) by simp [sumB]; omega]
theorem mkB_len : ∀ (l : List BlkD) (m : Nat), (mkB l m).length = l.length
  | [], _ => rfl
  | a :: l, m => by rw [mkB, List.length_cons, mkB_len l, List.length_cons]
theorem mkB_take {l : List BlkD} {k : Nat} {a : BlkD} (h : l[k]? = some a) (m : Nat) : mkB (l.take (k + 1)) m = mkB (l.take k) m ++ [marks (m + sumB (l.take k)) a.length] := by
  rw [List.take_add_one, h, mkB_append]; rfl
theorem mkB_at {l : List BlkD} {k : Nat} {a : BlkD} (h : l[k]? = some a) (m : Nat) : (mkB l m)[k]? = some (marks (m + sumB (l.take k)) a.length) := by
  have hk := (List.getElem?_eq_some_iff.1 h).1
  conv => lhs; rw [← List.take_append_drop k l, drop_at h, mkB_append]
  rw [List.getElem?_append_right (by rw [mkB_len, List.length_take]; omega), mkB_len, List.length_take, Nat.min_eq_left (by omega), Nat.sub_self]
  rfl



end Go.Proofs.YtdbpnibcblelbaaGreatDoor

/- How BytesResult lies in memory, and the contracts of the laws' helpers on it (written by tools/codgen.py). -/
namespace Go.Proofs.YtdbpnibcblelbaaGreatDoor
open Go.ChangeShapes Go.WideShapes Go.ChangeAt Go.RowKit

abbrev BytesResultD := Int × List UInt8
def bytesResultC : Cod BytesResultD := prodC (intC .i64) bytC
theorem bytesResult_rep {w : World} {a : BytesResultD} {vs : List Value} (h : bytesResultC.rep w a vs) : ∃ p2 q2, vs = [.int .i64 a.1, .slice p2 a.2.length q2] ∧ Rd w p2 q2 a.2 := by
  obtain ⟨us0, ts0, rfl, h0, h1⟩ := h
  have e0 : us0 = [Value.int .i64 _] := h0
  subst e0
  obtain ⟨p2, q2, rfl, r2⟩ := h1
  exact ⟨p2, q2, rfl, r2⟩
theorem bytesResult_mk {w : World} {a : BytesResultD} {p2 : Option Addr} {q2 : Nat} (r2 : Rd w p2 q2 a.2) : bytesResultC.rep w a [.int .i64 a.1, .slice p2 a.2.length q2] := ⟨[.int .i64 a.1], _, rfl, rfl, ⟨p2, q2, rfl, r2⟩⟩
def bytesResultT (a : BytesResultD) : Nat := a.2.length
def bytesResultM (a : BytesResultD) (m : Nat) : BytesResultD := (a.1, marks m a.2.length)

def bytesResultN (a : BytesResultD) : Nat := a.2.length
theorem bytesResultT_le (a : BytesResultD) : bytesResultT a ≤ 8 * bytesResultN a := by
  unfold bytesResultT bytesResultN
  omega



set_option maxRecDepth 4000 in
set_option maxHeartbeats 1000000 in
theorem eqBytesResult_k (a : BytesResultD) (us vs : List Value) (w : World) (h1 : bytesResultC.rep w a us) (h2 : bytesResultC.rep w a vs) :
    Calls Tryz.prog 29 #[.agg us.toArray, .agg vs.toArray] w fun e w' => e = .returned (.bool true) ∧ Below w.heap.size w w' := by
  obtain ⟨p2, q2, rfl, r2⟩ := bytesResult_rep h1
  obtain ⟨pb2, qb2, rfl, rb2⟩ := bytesResult_rep h2
  clear h1 h2
  have BW : Below w.heap.size w ((w.alloc (.cells #[.int .i64 a.1, .slice p2 a.2.length q2] 43)).alloc (.cells #[.int .i64 a.1, .slice pb2 a.2.length qb2] 43)) := Below.mk (alloc_below _ _) _
  have A : Arr ((w.alloc (.cells #[.int .i64 a.1, .slice p2 a.2.length q2] 43)).alloc (.cells #[.int .i64 a.1, .slice pb2 a.2.length qb2] 43)) w.heap.size 43 [.int .i64 a.1, .slice p2 a.2.length q2] := (Arr.new w [.int .i64 a.1, .slice p2 a.2.length q2] 43).old _ _
  have B : Arr ((w.alloc (.cells #[.int .i64 a.1, .slice p2 a.2.length q2] 43)).alloc (.cells #[.int .i64 a.1, .slice pb2 a.2.length qb2] 43)) (w.heap.size + 1) 43 [.int .i64 a.1, .slice pb2 a.2.length qb2] := by
    have h := Arr.new (w.alloc (.cells #[.int .i64 a.1, .slice p2 a.2.length q2] 43)) [.int .i64 a.1, .slice pb2 a.2.length qb2] 43
    rw [size_alloc] at h
    exact h
  replace r2 := r2.keep BW
  replace rb2 := rb2.keep BW
  go_enter Tryz.func29, Tryz.ntmps29
  go_wp2_with fail
  refine (eqByteS_c p2 pb2 q2 qb2 a.2 _ r2 rb2).mono ?_
  rintro e w1 ⟨rfl, hb⟩
  replace A := A.stay hb
  replace B := B.stay hb
  replace BW := Below.step BW hb
  replace r2 := r2.keep hb
  replace rb2 := rb2.keep hb
  have ca0 := A.cell 0
  have cb0 := B.cell 0
  have ca1 := A.cell 1
  have cb1 := B.cell 1
  simp at ca0 cb0 ca1 cb1
  clear hb
  go_wp2
  go_ret
  exact ⟨rfl, BW⟩

set_option maxRecDepth 4000 in
set_option maxHeartbeats 1000000 in
theorem markBytesResult_k (a : BytesResultD) (us : List Value) (fp : List Nat) (B m : Nat) (mi : Int) (hmi : mi = (m : Int)) (w : World) (h : bytesResultC.own w B a us fp) (hm : m + bytesResultT a ≤ 1000000000) :
    Calls Tryz.prog 32 #[.agg us.toArray, .int .i64 mi] w fun e w' => e = .returned (.int .i64 (mi + (bytesResultT a : Int))) ∧ bytesResultC.own w' B (bytesResultM a m) us fp ∧ Only fp w w' := by
  subst hmi
  obtain ⟨us0, ts0, f0, g0, rfl, rfl, nd0, k0, k1⟩ := h
  obtain ⟨e0, ef0⟩ := k0
  subst e0 ef0
  obtain ⟨p2, q2, e1, -⟩ := bytC.toRep k1
  subst e1
  have z1 : Hid (∀ x, x ∈ g0 → x < w.heap.size) := fun x hx => (bytC.ins k1 x hx).2
  have s1 : Hid (∀ x, x ∈ g0 → x ∈ [] ++ g0) := fun x hx => by simp [hx]
  have A := Arr.new w [.int .i64 a.1, .slice p2 a.2.length q2] 43
  have ON : Only ([] ++ g0) w (w.alloc (.cells #[.int .i64 a.1, .slice p2 a.2.length q2] 43)) := Only.below (alloc_below _ _)
  replace k1 := bytC.stay k1 (alloc_below _ (.cells #[.int .i64 a.1, .slice p2 a.2.length q2] 43))
  have ND0 : Hid _ := nd0
  clear nd0
  have hT : Hid (m + (a.2.length) ≤ 1000000000) := hm
  clear hm
  go_enter Tryz.func32, Tryz.ntmps32
  go_wp2_with fail
  refine (markByteS_k a.2 _ _ B m _ (by first | rfl | simp | (simp; omega) | (push_cast; omega)) _ k1 (by have := hT.out; omega)).mono ?_
  rintro e w1 ⟨rfl, k1, ho⟩
  replace A := A.only ho (fun h => Nat.lt_irrefl _ (z1.out _ h))
  replace ON := ON.trans_sub ho s1.out
  have ca0 := A.cell 0
  have ca1 := A.cell 1
  simp at ca0 ca1
  clear ho
  go_wp2
  go_ret
  exact ⟨by unfold bytesResultT; simp; try omega, ⟨_, _, [], _, rfl, rfl, ND0.out, ⟨rfl, rfl⟩, k1⟩, ON⟩

set_option maxRecDepth 4000 in
set_option maxHeartbeats 1000000 in
theorem heldBytesResult_k (a : BytesResultD) (us : List Value) (m : Nat) (mi : Int) (hmi : mi = (m : Int)) (w : World) (h : bytesResultC.rep w (bytesResultM a m) us) (hm : m + bytesResultT a ≤ 1048577) :
    Calls Tryz.prog 33 #[.agg us.toArray, .int .i64 mi] w fun e w' => e = .returned (.int .i64 (mi + (bytesResultT a : Int))) ∧ Below w.heap.size w w' := by
  subst hmi
  obtain ⟨us0, ts0, rfl, h0, h1⟩ := h
  have e0 : us0 = [Value.int .i64 (bytesResultM a m).1] := h0
  subst e0
  obtain ⟨p2, q2, rfl, r2⟩ := h1
  have A := Arr.new w [.int .i64 (bytesResultM a m).1, .slice p2 (bytesResultM a m).2.length q2] 43
  have BW := alloc_below w (.cells #[.int .i64 (bytesResultM a m).1, .slice p2 (bytesResultM a m).2.length q2] 43)
  replace r2 := r2.keep BW
  have hT : Hid (m + (a.2.length) ≤ 1048577) := hm
  clear hm
  go_enter Tryz.func33, Tryz.ntmps33
  go_wp2_with fail
  refine (heldByteS_k (bytesResultM a m).2 p2 q2 a.2.length m rfl _ (by first | rfl | simp | (simp; omega) | (push_cast; omega)) _ r2 (by have := hT.out; omega)).mono ?_
  rintro e w1 ⟨rfl, hw⟩
  subst hw
  go_wp2
  go_ret
  exact ⟨by unfold bytesResultT; simp; try omega, BW⟩

end Go.Proofs.YtdbpnibcblelbaaGreatDoor

/- How SecretsResult lies in memory, and the contracts of the laws' helpers on it (written by tools/codgen.py). -/
namespace Go.Proofs.YtdbpnibcblelbaaGreatDoor
open Go.ChangeShapes Go.WideShapes Go.ChangeAt Go.RowKit

abbrev SecretsResultD := Int × SecretsD
def secretsResultC : Cod SecretsResultD := prodC (intC .i64) secretsC
theorem secretsResult_rep {w : World} {a : SecretsResultD} {vs : List Value} (h : secretsResultC.rep w a vs) : ∃ p2_1 q2_1 p2_2 q2_2 p2_3 q2_3 p2_4 q2_4, vs = [.int .i64 a.1, .slice p2_1 a.2.1.length q2_1, .slice p2_2 a.2.2.1.length q2_2, .slice p2_3 a.2.2.2.1.length q2_3, .slice p2_4 a.2.2.2.2.length q2_4] ∧ Rd w p2_1 q2_1 a.2.1 ∧ Rd w p2_2 q2_2 a.2.2.1 ∧ Rd w p2_3 q2_3 a.2.2.2.1 ∧ Rd w p2_4 q2_4 a.2.2.2.2 := by
  obtain ⟨us0, ts0, rfl, h0, h1⟩ := h
  have e0 : us0 = [Value.int .i64 _] := h0
  subst e0
  obtain ⟨p2_1, q2_1, p2_2, q2_2, p2_3, q2_3, p2_4, q2_4, rfl, r2_1, r2_2, r2_3, r2_4⟩ := secrets_rep h1
  exact ⟨p2_1, q2_1, p2_2, q2_2, p2_3, q2_3, p2_4, q2_4, rfl, r2_1, r2_2, r2_3, r2_4⟩
theorem secretsResult_mk {w : World} {a : SecretsResultD} {p2_1 : Option Addr} {q2_1 : Nat} {p2_2 : Option Addr} {q2_2 : Nat} {p2_3 : Option Addr} {q2_3 : Nat} {p2_4 : Option Addr} {q2_4 : Nat} (r2_1 : Rd w p2_1 q2_1 a.2.1) (r2_2 : Rd w p2_2 q2_2 a.2.2.1) (r2_3 : Rd w p2_3 q2_3 a.2.2.2.1) (r2_4 : Rd w p2_4 q2_4 a.2.2.2.2) : secretsResultC.rep w a [.int .i64 a.1, .slice p2_1 a.2.1.length q2_1, .slice p2_2 a.2.2.1.length q2_2, .slice p2_3 a.2.2.2.1.length q2_3, .slice p2_4 a.2.2.2.2.length q2_4] := ⟨[.int .i64 a.1], _, rfl, rfl, (secrets_mk r2_1 r2_2 r2_3 r2_4)⟩
def secretsResultT (a : SecretsResultD) : Nat := secretsT a.2
def secretsResultM (a : SecretsResultD) (m : Nat) : SecretsResultD := (a.1, secretsM a.2 m)

def secretsResultN (a : SecretsResultD) : Nat := secretsN a.2
theorem secretsResultT_le (a : SecretsResultD) : secretsResultT a ≤ 8 * secretsResultN a := by
  have h1 := secretsT_le a.2
  unfold secretsResultT secretsResultN
  omega






end Go.Proofs.YtdbpnibcblelbaaGreatDoor

/- How Stream lies in memory, and the contracts of the laws' helpers on it (written by tools/codgen.py). -/
namespace Go.Proofs.YtdbpnibcblelbaaGreatDoor
open Go.ChangeShapes Go.WideShapes Go.ChangeAt Go.RowKit

abbrev StreamD := List UInt8 × Int × Int
def streamC : Cod StreamD := prodC bytC (prodC (intC .i64) ((intC .i64)))
theorem stream_rep {w : World} {a : StreamD} {vs : List Value} (h : streamC.rep w a vs) : ∃ p1 q1, vs = [.slice p1 a.1.length q1, .int .i64 a.2.1, .int .i64 a.2.2] ∧ Rd w p1 q1 a.1 := by
  obtain ⟨us0, ts0, rfl, h0, us1, ts1, rfl, h1, h2⟩ := h
  obtain ⟨p1, q1, rfl, r1⟩ := h0
  have e1 : us1 = [Value.int .i64 _] := h1
  subst e1
  have e2 : _ = [Value.int .i64 _] := h2
  subst e2
  exact ⟨p1, q1, rfl, r1⟩
theorem stream_mk {w : World} {a : StreamD} {p1 : Option Addr} {q1 : Nat} (r1 : Rd w p1 q1 a.1) : streamC.rep w a [.slice p1 a.1.length q1, .int .i64 a.2.1, .int .i64 a.2.2] := ⟨[.slice p1 a.1.length q1], _, rfl, ⟨p1, q1, rfl, r1⟩, ⟨[.int .i64 a.2.1], _, rfl, rfl, rfl⟩⟩
def streamT (a : StreamD) : Nat := a.1.length
def streamM (a : StreamD) (m : Nat) : StreamD := (marks m a.1.length, a.2.1, a.2.2)

def streamN (a : StreamD) : Nat := a.1.length
theorem streamT_le (a : StreamD) : streamT a ≤ 8 * streamN a := by
  unfold streamT streamN
  omega






end Go.Proofs.YtdbpnibcblelbaaGreatDoor

/- How KeysResult lies in memory, and the contracts of the laws' helpers on it (written by tools/codgen.py). -/
namespace Go.Proofs.YtdbpnibcblelbaaGreatDoor
open Go.ChangeShapes Go.WideShapes Go.ChangeAt Go.RowKit

abbrev KeysResultD := Int × List UInt8 × List UInt8
def keysResultC : Cod KeysResultD := prodC (intC .i64) (prodC bytC bytC)
theorem keysResult_rep {w : World} {a : KeysResultD} {vs : List Value} (h : keysResultC.rep w a vs) : ∃ p2 q2 p3 q3, vs = [.int .i64 a.1, .slice p2 a.2.1.length q2, .slice p3 a.2.2.length q3] ∧ Rd w p2 q2 a.2.1 ∧ Rd w p3 q3 a.2.2 := by
  obtain ⟨us0, ts0, rfl, h0, us1, ts1, rfl, h1, h2⟩ := h
  have e0 : us0 = [Value.int .i64 _] := h0
  subst e0
  obtain ⟨p2, q2, rfl, r2⟩ := h1
  obtain ⟨p3, q3, rfl, r3⟩ := h2
  exact ⟨p2, q2, p3, q3, rfl, r2, r3⟩
theorem keysResult_mk {w : World} {a : KeysResultD} {p2 : Option Addr} {q2 : Nat} {p3 : Option Addr} {q3 : Nat} (r2 : Rd w p2 q2 a.2.1) (r3 : Rd w p3 q3 a.2.2) : keysResultC.rep w a [.int .i64 a.1, .slice p2 a.2.1.length q2, .slice p3 a.2.2.length q3] := ⟨[.int .i64 a.1], _, rfl, rfl, ⟨[.slice p2 a.2.1.length q2], _, rfl, ⟨p2, q2, rfl, r2⟩, ⟨p3, q3, rfl, r3⟩⟩⟩
def keysResultT (a : KeysResultD) : Nat := a.2.1.length + a.2.2.length
def keysResultM (a : KeysResultD) (m : Nat) : KeysResultD := (a.1, marks m a.2.1.length, marks (m + a.2.1.length) a.2.2.length)

def keysResultN (a : KeysResultD) : Nat := a.2.1.length + a.2.2.length
theorem keysResultT_le (a : KeysResultD) : keysResultT a ≤ 8 * keysResultN a := by
  unfold keysResultT keysResultN
  omega






end Go.Proofs.YtdbpnibcblelbaaGreatDoor

/- How RecordResult lies in memory, and the contracts of the laws' helpers on it (written by tools/codgen.py). -/
namespace Go.Proofs.YtdbpnibcblelbaaGreatDoor
open Go.ChangeShapes Go.WideShapes Go.ChangeAt Go.RowKit

abbrev RecordResultD := Int × Int × List UInt8 × StreamD
def recordResultC : Cod RecordResultD := prodC (intC .i64) (prodC (intC .i64) (prodC bytC streamC))
theorem recordResult_rep {w : World} {a : RecordResultD} {vs : List Value} (h : recordResultC.rep w a vs) : ∃ p3 q3 p4_1 q4_1, vs = [.int .i64 a.1, .int .i64 a.2.1, .slice p3 a.2.2.1.length q3, .slice p4_1 a.2.2.2.1.length q4_1, .int .i64 a.2.2.2.2.1, .int .i64 a.2.2.2.2.2] ∧ Rd w p3 q3 a.2.2.1 ∧ Rd w p4_1 q4_1 a.2.2.2.1 := by
  obtain ⟨us0, ts0, rfl, h0, us1, ts1, rfl, h1, us2, ts2, rfl, h2, h3⟩ := h
  have e0 : us0 = [Value.int .i64 _] := h0
  subst e0
  have e1 : us1 = [Value.int .i64 _] := h1
  subst e1
  obtain ⟨p3, q3, rfl, r3⟩ := h2
  obtain ⟨p4_1, q4_1, rfl, r4_1⟩ := stream_rep h3
  exact ⟨p3, q3, p4_1, q4_1, rfl, r3, r4_1⟩
theorem recordResult_mk {w : World} {a : RecordResultD} {p3 : Option Addr} {q3 : Nat} {p4_1 : Option Addr} {q4_1 : Nat} (r3 : Rd w p3 q3 a.2.2.1) (r4_1 : Rd w p4_1 q4_1 a.2.2.2.1) : recordResultC.rep w a [.int .i64 a.1, .int .i64 a.2.1, .slice p3 a.2.2.1.length q3, .slice p4_1 a.2.2.2.1.length q4_1, .int .i64 a.2.2.2.2.1, .int .i64 a.2.2.2.2.2] := ⟨[.int .i64 a.1], _, rfl, rfl, ⟨[.int .i64 a.2.1], _, rfl, rfl, ⟨[.slice p3 a.2.2.1.length q3], _, rfl, ⟨p3, q3, rfl, r3⟩, (stream_mk r4_1)⟩⟩⟩
def recordResultT (a : RecordResultD) : Nat := a.2.2.1.length + streamT a.2.2.2
def recordResultM (a : RecordResultD) (m : Nat) : RecordResultD := (a.1, a.2.1, marks m a.2.2.1.length, streamM a.2.2.2 (m + a.2.2.1.length))

def recordResultN (a : RecordResultD) : Nat := a.2.2.1.length + streamN a.2.2.2
theorem recordResultT_le (a : RecordResultD) : recordResultT a ≤ 8 * recordResultN a := by
  have h3 := streamT_le a.2.2.2
  unfold recordResultT recordResultN
  omega






end Go.Proofs.YtdbpnibcblelbaaGreatDoor

/- How Cert lies in memory, alone and in lists, and the contracts of the laws' helpers on it (written by tools/certgen.py). -/
namespace Go.Proofs.YtdbpnibcblelbaaGreatDoor
open Go.ChangeShapes Go.WideShapes Go.ChangeAt Go.RowKit

abbrev CertD := Int × Int × Int
def certC : Cod CertD := prodC (intC .i64) (prodC (intC .i64) (intC .i64))
theorem cert_rep {w : World} {a : CertD} {vs : List Value} (h : certC.rep w a vs) : vs = [.int .i64 a.1, .int .i64 a.2.1, .int .i64 a.2.2] := by
  obtain ⟨us0, ts0, rfl, h0, us1, ts1, rfl, h1, h2⟩ := h
  have e0 : us0 = [Value.int .i64 _] := h0
  have e1 : us1 = [Value.int .i64 _] := h1
  have e2 : ts1 = [Value.int .i64 _] := h2
  rw [e0, e1, e2]
  rfl
theorem cert_mk {w : World} {a : CertD} : certC.rep w a [.int .i64 a.1, .int .i64 a.2.1, .int .i64 a.2.2] := ⟨[_], _, rfl, rfl, [_], _, rfl, rfl, rfl⟩
theorem cert_own {w : World} {B : Nat} {a : CertD} : certC.own w B a [.int .i64 a.1, .int .i64 a.2.1, .int .i64 a.2.2] [] := ⟨[_], _, [], [], rfl, rfl, List.nodup_nil, ⟨rfl, rfl⟩, [_], _, [], [], rfl, rfl, List.nodup_nil, ⟨rfl, rfl⟩, rfl, rfl⟩
theorem cert_own_inv {w : World} {B : Nat} {a : CertD} {vs : List Value} {fp : List Nat} (h : certC.own w B a vs fp) : vs = [.int .i64 a.1, .int .i64 a.2.1, .int .i64 a.2.2] ∧ fp = [] := by
  obtain ⟨us0, ts0, f0, g0, rfl, rfl, -, ⟨rfl, rfl⟩, us1, ts1, f1, g1, rfl, rfl, -, ⟨rfl, rfl⟩, ⟨rfl, rfl⟩⟩ := h
  exact ⟨rfl, rfl⟩
abbrev certsC : Cod (List CertD) := listC 46 certC
theorem infoCert : (Tryz.prog.info? 46).map (fun i => (i.zero, i.size, i.bytes)) = some (some (.agg #[.int .i64 0, .int .i64 0, .int .i64 0]), 3, 24) := by kernel_rfl
set_option maxRecDepth 4000 in
set_option maxHeartbeats 1000000 in
theorem toCert_c (a : CertD) (w : World) :
    Calls Tryz.prog 28 #[.agg #[.int .i64 a.1, .int .i64 a.2.1, .int .i64 a.2.2]] w fun e w' => e = .returned (.agg #[.int .i64 a.1, .int .i64 a.2.1, .int .i64 a.2.2]) ∧ Below w.heap.size w w' := by
  have R : Arr (((w.alloc (.cells #[.int .i64 a.1, .int .i64 a.2.1, .int .i64 a.2.2] 69)).alloc (.cells #[.int .i64 a.1, .int .i64 a.2.1, .int .i64 a.2.2] 46)).alloc (.cells #[.int .i64 a.1, .int .i64 a.2.1, .int .i64 a.2.2] 46)) (w.heap.size + 1) 46 [.int .i64 a.1, .int .i64 a.2.1, .int .i64 a.2.2] := by
    have h := Arr.new (w.alloc (.cells #[.int .i64 a.1, .int .i64 a.2.1, .int .i64 a.2.2] 69)) [.int .i64 a.1, .int .i64 a.2.1, .int .i64 a.2.2] 46
    rw [size_alloc] at h
    exact h.old _ _
  have BW : Below w.heap.size w (((w.alloc (.cells #[.int .i64 a.1, .int .i64 a.2.1, .int .i64 a.2.2] 69)).alloc (.cells #[.int .i64 a.1, .int .i64 a.2.1, .int .i64 a.2.2] 46)).alloc (.cells #[.int .i64 a.1, .int .i64 a.2.1, .int .i64 a.2.2] 46)) := Below.mk (Below.mk (alloc_below _ _) _) _
  have c0 := (R.cell 0).trans (show _ = some _ from rfl)
  have c1 := (R.cell 1).trans (show _ = some _ from rfl)
  have c2 := (R.cell 2).trans (show _ = some _ from rfl)
  clear R
  go_enter Tryz.func28, Tryz.ntmps28
  go_wp2_with fail
  exact bodyPost_ret (v := .agg #[.int .i64 a.1, .int .i64 a.2.1, .int .i64 a.2.2]) (by simp [results, Tryz.results28, go_sem, c0, c1, c2]) rfl ⟨rfl, BW⟩
end Go.Proofs.YtdbpnibcblelbaaGreatDoor

/- How Sign lies in memory, and the contracts of the laws' helpers on it (written by tools/codgen.py). -/
namespace Go.Proofs.YtdbpnibcblelbaaGreatDoor
open Go.ChangeShapes Go.WideShapes Go.ChangeAt Go.RowKit

abbrev SignD := Int × Int × List UInt8
def signC : Cod SignD := prodC (intC .i64) (prodC (intC .i64) bytC)
theorem sign_rep {w : World} {a : SignD} {vs : List Value} (h : signC.rep w a vs) : ∃ p3 q3, vs = [.int .i64 a.1, .int .i64 a.2.1, .slice p3 a.2.2.length q3] ∧ Rd w p3 q3 a.2.2 := by
  obtain ⟨us0, ts0, rfl, h0, us1, ts1, rfl, h1, h2⟩ := h
  have e0 : us0 = [Value.int .i64 _] := h0
  subst e0
  have e1 : us1 = [Value.int .i64 _] := h1
  subst e1
  obtain ⟨p3, q3, rfl, r3⟩ := h2
  exact ⟨p3, q3, rfl, r3⟩
theorem sign_mk {w : World} {a : SignD} {p3 : Option Addr} {q3 : Nat} (r3 : Rd w p3 q3 a.2.2) : signC.rep w a [.int .i64 a.1, .int .i64 a.2.1, .slice p3 a.2.2.length q3] := ⟨[.int .i64 a.1], _, rfl, rfl, ⟨[.int .i64 a.2.1], _, rfl, rfl, ⟨p3, q3, rfl, r3⟩⟩⟩
def signT (a : SignD) : Nat := a.2.2.length
def signM (a : SignD) (m : Nat) : SignD := (a.1, a.2.1, marks m a.2.2.length)

def signN (a : SignD) : Nat := a.2.2.length
theorem signT_le (a : SignD) : signT a ≤ 8 * signN a := by
  unfold signT signN
  omega






end Go.Proofs.YtdbpnibcblelbaaGreatDoor

/- How Auth lies in memory, and the contracts of the laws' helpers on it (written by tools/codgen.py). -/
namespace Go.Proofs.YtdbpnibcblelbaaGreatDoor
open Go.ChangeShapes Go.WideShapes Go.ChangeAt Go.RowKit

abbrev AuthD := List UInt8 × CertD × Int × List UInt8
def authC : Cod AuthD := prodC bytC (prodC certC (prodC (intC .i64) bytC))
theorem auth_rep {w : World} {a : AuthD} {vs : List Value} (h : authC.rep w a vs) : ∃ p1 q1 p4 q4, vs = [.slice p1 a.1.length q1, .int .i64 a.2.1.1, .int .i64 a.2.1.2.1, .int .i64 a.2.1.2.2, .int .i64 a.2.2.1, .slice p4 a.2.2.2.length q4] ∧ Rd w p1 q1 a.1 ∧ Rd w p4 q4 a.2.2.2 := by
  obtain ⟨us0, ts0, rfl, h0, us1, ts1, rfl, h1, us2, ts2, rfl, h2, h3⟩ := h
  obtain ⟨p1, q1, rfl, r1⟩ := h0
  have e1 := cert_rep h1
  subst e1
  have e2 : us2 = [Value.int .i64 _] := h2
  subst e2
  obtain ⟨p4, q4, rfl, r4⟩ := h3
  exact ⟨p1, q1, p4, q4, rfl, r1, r4⟩
theorem auth_mk {w : World} {a : AuthD} {p1 : Option Addr} {q1 : Nat} {p4 : Option Addr} {q4 : Nat} (r1 : Rd w p1 q1 a.1) (r4 : Rd w p4 q4 a.2.2.2) : authC.rep w a [.slice p1 a.1.length q1, .int .i64 a.2.1.1, .int .i64 a.2.1.2.1, .int .i64 a.2.1.2.2, .int .i64 a.2.2.1, .slice p4 a.2.2.2.length q4] := ⟨[.slice p1 a.1.length q1], _, rfl, ⟨p1, q1, rfl, r1⟩, ⟨[.int .i64 a.2.1.1, .int .i64 a.2.1.2.1, .int .i64 a.2.1.2.2], _, rfl, cert_mk, ⟨[.int .i64 a.2.2.1], _, rfl, rfl, ⟨p4, q4, rfl, r4⟩⟩⟩⟩
def authT (a : AuthD) : Nat := a.1.length + a.2.2.2.length
def authM (a : AuthD) (m : Nat) : AuthD := (marks m a.1.length, a.2.1, a.2.2.1, marks (m + a.1.length) a.2.2.2.length)

def authN (a : AuthD) : Nat := a.1.length + a.2.2.2.length
theorem authT_le (a : AuthD) : authT a ≤ 8 * authN a := by
  unfold authT authN
  omega






end Go.Proofs.YtdbpnibcblelbaaGreatDoor

/- What the laws ask of lists of certificates: how great they are (szCertS), and (where a law has it) their marks. -/
namespace Go.Proofs.YtdbpnibcblelbaaGreatDoor
open Go.ChangeShapes Go.WideShapes Go.ChangeAt Go.RowKit

end Go.Proofs.YtdbpnibcblelbaaGreatDoor

/- How AuthResult lies in memory, and the contracts of the laws' helpers on it (written by tools/codgen.py). -/
namespace Go.Proofs.YtdbpnibcblelbaaGreatDoor
open Go.ChangeShapes Go.WideShapes Go.ChangeAt Go.RowKit

abbrev AuthResultD := Int × AuthD
def authResultC : Cod AuthResultD := prodC (intC .i64) authC
theorem authResult_rep {w : World} {a : AuthResultD} {vs : List Value} (h : authResultC.rep w a vs) : ∃ p2_1 q2_1 p2_4 q2_4, vs = [.int .i64 a.1, .slice p2_1 a.2.1.length q2_1, .int .i64 a.2.2.1.1, .int .i64 a.2.2.1.2.1, .int .i64 a.2.2.1.2.2, .int .i64 a.2.2.2.1, .slice p2_4 a.2.2.2.2.length q2_4] ∧ Rd w p2_1 q2_1 a.2.1 ∧ Rd w p2_4 q2_4 a.2.2.2.2 := by
  obtain ⟨us0, ts0, rfl, h0, h1⟩ := h
  have e0 : us0 = [Value.int .i64 _] := h0
  subst e0
  obtain ⟨p2_1, q2_1, p2_4, q2_4, rfl, r2_1, r2_4⟩ := auth_rep h1
  exact ⟨p2_1, q2_1, p2_4, q2_4, rfl, r2_1, r2_4⟩
theorem authResult_mk {w : World} {a : AuthResultD} {p2_1 : Option Addr} {q2_1 : Nat} {p2_4 : Option Addr} {q2_4 : Nat} (r2_1 : Rd w p2_1 q2_1 a.2.1) (r2_4 : Rd w p2_4 q2_4 a.2.2.2.2) : authResultC.rep w a [.int .i64 a.1, .slice p2_1 a.2.1.length q2_1, .int .i64 a.2.2.1.1, .int .i64 a.2.2.1.2.1, .int .i64 a.2.2.1.2.2, .int .i64 a.2.2.2.1, .slice p2_4 a.2.2.2.2.length q2_4] := ⟨[.int .i64 a.1], _, rfl, rfl, (auth_mk r2_1 r2_4)⟩
def authResultT (a : AuthResultD) : Nat := authT a.2
def authResultM (a : AuthResultD) (m : Nat) : AuthResultD := (a.1, authM a.2 m)

def authResultN (a : AuthResultD) : Nat := authN a.2
theorem authResultT_le (a : AuthResultD) : authResultT a ≤ 8 * authResultN a := by
  have h1 := authT_le a.2
  unfold authResultT authResultN
  omega






end Go.Proofs.YtdbpnibcblelbaaGreatDoor

/- Lists of Sign as data (Cod), and the contracts of the laws' helpers on them (written by tools/listgen.py). -/
namespace Go.Proofs.YtdbpnibcblelbaaGreatDoor
open Go.ChangeShapes Go.WideShapes Go.ChangeAt Go.RowKit

abbrev signsC : Cod (List SignD) := listC 53 signC
theorem infoSign : (Tryz.prog.info? 53).map (fun i => (i.zero, i.size, i.bytes)) = some (some (.agg #[.int .i64 0, .int .i64 0, .slice none 0 0]), 3, 40) := by kernel_rfl
def sumSign (l : List SignD) : Nat := (l.map (fun a => a.2.2.length)).sum
def sizeSign (l : List SignD) : Nat := sumSign l + l.length
def bulkSign (l : List SignD) : Nat := sumSign l + 2 * l.length
theorem bulkSign_le8 (l : List SignD) : bulkSign l ≤ 8 * sizeSign l := by unfold bulkSign sizeSign; omega
theorem sumSign_at {l : List SignD} {i : Nat} {a : SignD} (h : l[i]? = some a) : a.2.2.length ≤ sumSign l := by
  have hm := List.mem_of_getElem? h
  have h2 : ∀ l : List SignD, a ∈ l → a.2.2.length ≤ (l.map (fun a : SignD => a.2.2.length)).sum := fun l => by
    induction l with
    | nil => intro h; cases h
    | cons b l ih =>
      intro h
      rw [List.map_cons, List.sum_cons]
      rcases List.mem_cons.1 h with rfl | h
      · omega
      · have := ih h; omega
  exact h2 l hm
theorem sumSign_take {l : List SignD} {k : Nat} {a : SignD} (h : l[k]? = some a) : sumSign (l.take (k + 1)) = sumSign (l.take k) + a.2.2.length := by
  rw [List.take_add_one, h]; simp [sumSign]
theorem sumSign_le (l : List SignD) (k : Nat) : sumSign (l.take k) ≤ sumSign l := by
  conv => rhs; rw [← List.take_append_drop k l]
  unfold sumSign
  rw [List.map_append, List.sum_append]; omega
theorem sign_own {w : World} {B : Nat} {a : SignD} {vs : List Value} {fp : List Nat} (h : signC.own w B a vs fp) : ∃ v, vs = [.int .i64 a.1, .int .i64 a.2.1, v] ∧ Own w B v a.2.2 ∧ fp = v.ownBlock.toList := by
  obtain ⟨us0, ts0, f0, g0, rfl, rfl, _, ⟨rfl, rfl⟩, us1, ts1, f1, g1, rfl, rfl, _, ⟨rfl, rfl⟩, v, rfl, o, rfl⟩ := h
  exact ⟨v, rfl, o, rfl⟩
theorem sign_own_mk {w : World} {B : Nat} {a : SignD} {v : Value} (o : Own w B v a.2.2) : signC.own w B a [.int .i64 a.1, .int .i64 a.2.1, v] v.ownBlock.toList :=
  ⟨[_], _, [], _, rfl, rfl, nodup_opt _, ⟨rfl, rfl⟩, [_], _, [], _, rfl, rfl, nodup_opt _, ⟨rfl, rfl⟩, v, rfl, o, rfl⟩
def mkSign : List SignD → Nat → List SignD
  | [], _ => []
  | a :: l, m => (((m : Nat) : Int), ((m : Nat) : Int) + 1, marks (m + 2) a.2.2.length) :: mkSign l (m + 2 + a.2.2.length)
theorem bulkSign_cons (a : SignD) (l : List SignD) : bulkSign (a :: l) = a.2.2.length + 2 + bulkSign l := by simp [bulkSign, sumSign]; omega
theorem bulkSign_append (l r : List SignD) : bulkSign (l ++ r) = bulkSign l + bulkSign r := by simp [bulkSign, sumSign]; omega
theorem mkSign_append : ∀ (l r : List SignD) (m : Nat), mkSign (l ++ r) m = mkSign l m ++ mkSign r (m + bulkSign l)
  | [], r, m => by simp [mkSign, bulkSign, sumSign]
  | a :: l, r, m => by
    rw [List.cons_append, mkSign, mkSign, mkSign_append l r, bulkSign_cons, List.cons_append, show m + 2 + a.2.2.length + bulkSign l = m + (a.2.2.length + 2 + bulkSign l) by omega]
theorem mkSign_len : ∀ (l : List SignD) (m : Nat), (mkSign l m).length = l.length
  | [], _ => rfl
  | a :: l, m => by rw [mkSign, List.length_cons, mkSign_len l, List.length_cons]
theorem mkSign_take {l : List SignD} {k : Nat} {a : SignD} (h : l[k]? = some a) (m : Nat) : mkSign (l.take (k + 1)) m = mkSign (l.take k) m ++ [(((m + bulkSign (l.take k) : Nat) : Int), ((m + bulkSign (l.take k) : Nat) : Int) + 1, marks (m + bulkSign (l.take k) + 2) a.2.2.length)] := by
  rw [List.take_add_one, h, mkSign_append]; rfl
theorem bulkSign_take {l : List SignD} {k : Nat} {a : SignD} (h : l[k]? = some a) : bulkSign (l.take (k + 1)) = bulkSign (l.take k) + a.2.2.length + 2 := by
  rw [List.take_add_one, h, bulkSign_append]; simp [bulkSign, sumSign]; omega
theorem bulkSign_le (l : List SignD) (k : Nat) : bulkSign (l.take k) ≤ bulkSign l := by
  conv => rhs; rw [← List.take_append_drop k l, bulkSign_append]
  omega
theorem mkSign_at {l : List SignD} {k : Nat} {a : SignD} (h : l[k]? = some a) (m : Nat) : (mkSign l m)[k]? = some (((m + bulkSign (l.take k) : Nat) : Int), ((m + bulkSign (l.take k) : Nat) : Int) + 1, marks (m + bulkSign (l.take k) + 2) a.2.2.length) := by
  have hk := (List.getElem?_eq_some_iff.1 h).1
  conv => lhs; rw [← List.take_append_drop k l, drop_at h, mkSign_append]
  rw [List.getElem?_append_right (by rw [mkSign_len, List.length_take]; omega), mkSign_len, List.length_take, Nat.min_eq_left (by omega), Nat.sub_self]
  rfl
end Go.Proofs.YtdbpnibcblelbaaGreatDoor

/- Lists of whole numbers (int64) as arguments of the laws: read as such, kept in a stretch of memory, marked. What was there stays. -/
namespace Go.Proofs.YtdbpnibcblelbaaGreatDoor
open Go.ChangeShapes Go.WideShapes Go.ChangeAt Go.RowKit

theorem rdI_cod {w : World} {p : Option Addr} {q : Nat} {l : List Int} (h : RdL (intC .i64) w p q l) : RdI w p q l := by
  obtain ⟨h1, h2, h3, h4⟩ := h
  refine ⟨h1, h2, h3, fun hp => ?_⟩
  obtain ⟨b, o, rfl, hc⟩ := h4 hp
  refine ⟨b, o, rfl, fun i hi => ?_⟩
  obtain ⟨us, hu, hcell⟩ := hc i l[i] (by simp [hi])
  have e : us = [Value.int .i64 l[i]] := hu
  subst e
  have h5 := hcell 0 _ rfl
  rw [show (intC .i64).n = 1 from rfl, Nat.mul_one, Nat.add_zero] at h5
  rw [h5, atI_get hi]
theorem OwnI.fr {w w' : World} {B : Nat} {v : Value} {l : List Int} (h : OwnI w B v l) (hk : ∀ k, v.ownBlock = some k → w'.heap[k]? = w.heap[k]?) : OwnI w' B v l := ownsRow_fr h hk
theorem OwnI.ins {w : World} {B : Nat} {v : Value} {l : List Int} (h : OwnI w B v l) : ∀ k, k ∈ v.ownBlock.toList → B ≤ k ∧ k < w.heap.size := fun k hk => World.ownsRow.lt h k (mem_opt.1 hk)
theorem OwnI.win {w : World} {B lo hi : Nat} {v : Value} {l : List Int} (h : OwnI w B v l) (ht : hi ≤ w.heap.size) (hin : ∀ k, k ∈ v.ownBlock.toList → lo ≤ k ∧ k < hi) : Win (fun w => OwnI w B v l) lo hi w :=
  ⟨h, ht, fun _ hs => h.fr fun k hk => hs k (hin k (mem_opt.2 hk)).1 (hin k (mem_opt.2 hk)).2⟩
end Go.Proofs.YtdbpnibcblelbaaGreatDoor

/- The contracts of the draws of bytes and of texts: some bytes, at most so many; some text. -/
namespace Go.Proofs.YtdbpnibcblelbaaGreatDoor
open Go.ChangeShapes Go.WideShapes Go.ChangeAt Go.RowKit

/-- Behind a call that writes, of what lay there, block b alone: a step that writes new blocks alone. -/
theorem grownBy_step {w x y : World} {b : Nat} {row : Option Nat} (h : w.grownBy x (some b)) (k : x.grownBy y row) (hr : ∀ j, row = some j → w.heap.size ≤ j ∨ j = b) : w.grownBy y (some b) :=
  ⟨k.os.trans h.os, k.tape.trans h.tape, k.output.trans h.output, Nat.le_trans h.size k.size, fun i hi hne =>
    (k.block i (Nat.lt_of_lt_of_le hi h.size) (fun e => by
      rcases hr i e.symm with h1 | h1
      · omega
      · exact hne (by rw [h1]))).trans (h.block i hi hne)⟩


set_option maxRecDepth 4000 in
set_option maxHeartbeats 2000000 in
theorem l1Some_c (b : Nat) (p : Option Addr) (q : Nat) (cs : List UInt8) (t n : Int) (w : World) (hs : Src w b p q cs t) (ht : 0 ≤ t) (ht2 : t ≤ 900000000) (hn : 0 ≤ n) (hn2 : n ≤ 1000000) :
    Calls Tryz.prog 76 #[.pointer (some ⟨b, 0, none⟩), .int .i64 n] w fun e w' => ∃ (u : Value) (bs : List UInt8), e = .returned u ∧ bs.length = n.toNat ∧ Own w' w.heap.size u bs ∧ Src w' b p q cs (t + n) ∧ w.grownBy w' (some b) := by
  obtain ⟨i0, hi, hz0, hz1, hz2⟩ := info_parts info8
  have hbw := hs.lt
  go_enter Tryz.func76, Tryz.ntmps76
  go_wp2
  go_loopw [1, 5] (fun m v wr => ∃ (k : Nat) (bs : List UInt8), (k : Int) ≤ n ∧ m = .int .i64 (n - k) ∧ bs.length = k ∧ Own wr w.heap.size v bs ∧ Src wr b p q cs (t + k) ∧ w.grownBy wr (some b))
    (fun m _ _ => (intOf m).toNat)
  case atStart => exact ⟨0, [], by omega, by simp, rfl, ⟨by simp, .inr ⟨w.heap.size, 0, #[], rfl, Nat.le_refl _, heap_alloc_new w _, Nat.le_refl _, by simp [maxLen], by simp, by simp⟩⟩, by simpa using hs.keep (alloc_below _ _), World.grownBy_alloc _ _ _⟩
  case round =>
    obtain ⟨k, bs, hk, rfl, hbs, ho, hs1, hg⟩ := hrel
    obtain ⟨pv, cv, rfl, -⟩ := ho.rd
    by_cases hend : (k : Int) = n
    · have hge : n - (k : Int) ≤ 0 := by omega
      have HE : Hid ((k : Int) = n) := hend
      clear hend
      go_wp2
      go_ret
      exact ⟨_, bs, rfl, by have := HE.out; omega, ho, by have := HE.out; rw [← this]; exact hs1, hg⟩
    · have hpos : 0 < n - (k : Int) := by omega
      go_wp2_with fail
      refine (l1Next_c b p q cs (t + k) 256 wr hs1 (by omega) (by omega) (by omega) (by omega)).mono ?_
      rintro e w1 ⟨r, rfl, hr0, hr1, hs2, hg2⟩
      have ho1 := ho.other hg2 (fun j hj e => by have := ho.ge j hj; simp at e; omega)
      have ho2 : w1.ownsRow w.heap.size 5 1 (.slice pv k cv) k (bs.map u8v) := by have h := ho1; unfold Own at h; rw [hbs] at h; exact h
      have hge : Hid (∀ j, (Value.slice pv k cv).ownBlock = some j → w.heap.size ≤ j) := fun j hj => (World.ownsRow.lt ho2 j hj).1
      have hsz : w.heap.size ≤ w1.heap.size := Nat.le_trans hg.size hg2.size
      have hkk : k ≤ 1000000 := by omega
      rw [hbs]
      go_wp2_with (first
        | (at_builtin; refine wpList_append_lies _ rfl (.tmp 11) (.tmp 15) 22 rfl w.heap.size 5 i0 (.int .u8 0) 1 1 Tryz.underlying22 hi hz0 hz1 hz2 rfl (by decide) (.slice pv k cv) k (bs.map u8v) rfl (World.ownsRow.alloc ho2 _) ⟨w1.heap.size, 0, none⟩ 1 1 [.int .u8 r] rfl rfl (cell_one_new w1 _ _) (by intro u hu; simp at hu; subst hu; rfl) (by decide) (by unfold maxLen; omega) (by omega) (by simp; omega) (w1.heap.size + 1) (by simp) ?_; intro g cap2 w3 hown3 hgrow3 hat3 hlt3)
        | go_in)
      have er : r = ((UInt8.ofNat r.toNat).toNat : Int) := by rw [UInt8.toNat_ofNat']; omega
      have R : Own w3 w.heap.size (.slice (some ⟨g, 0, none⟩) (k + 1) cap2) (bs ++ [UInt8.ofNat r.toNat]) := by
        refine own_one ?_
        rw [← er, hbs]
        exact hown3
      have RS : Src w3 b p q cs (t + k + 1) := (hs2.keep (alloc_below _ _)).other hgrow3 (fun j hj => by have := hge.out j hj; omega)
      have RG : w.grownBy w3 (some b) := grownBy_step (grownBy_step (grownBy_step hg hg2 (fun j hj => .inr (by simpa using hj.symm))) (World.grownBy_alloc _ _ none) (fun j hj => by simp at hj)) hgrow3 (fun j hj => .inl (hge.out j hj))
      go_roundw
      case rel => exact ⟨k + 1, bs ++ [UInt8.ofNat r.toNat], by omega, by go_num, by simp [hbs], R, by rw [show t + ((k + 1 : Nat) : Int) = t + k + 1 by omega]; exact RS, RG⟩
      case measure => simp [intOf]; omega


end Go.Proofs.YtdbpnibcblelbaaGreatDoor

/- The contract of the draws of chapter 2: spec.l2Draw, spec.DrawDigestOf: some bytes, at most 601. -/
namespace Go.Proofs.YtdbpnibcblelbaaGreatDoor
open Go.ChangeShapes Go.WideShapes Go.ChangeAt Go.RowKit


end Go.Proofs.YtdbpnibcblelbaaGreatDoor

/- The contracts of the draws of chapter 3: keys, data, labels, contexts, numbers: within bounds, no more. -/
namespace Go.Proofs.YtdbpnibcblelbaaGreatDoor
open Go.ChangeShapes Go.WideShapes Go.ChangeAt Go.RowKit



/-- A row that was drawn ahead of other draws. -/
theorem Own.draw {w w' : World} {B b : Nat} {v : Value} {bs : List UInt8} (h : Own w B v bs) (hg : w.grownBy w' (some b)) (hb : b < B) : Own w' B v bs :=
  h.other hg (fun k hk e => by have := h.ge k hk; simp at e; omega)




def labs : List (List UInt8) := [[100, 101, 114, 105, 118, 101, 100], [99, 32, 104, 115, 32, 116, 114, 97, 102, 102, 105, 99], [102, 105, 110, 105, 115, 104, 101, 100], [97], [], [120, 10], [97, 98, 99, 100, 101, 102, 103, 104, 105, 106, 107, 108, 109, 110, 111, 112, 113, 114, 115, 116, 117, 118, 119, 120, 121, 122, 97, 98, 99, 100, 101, 102, 103, 104, 105, 106, 107, 108, 109, 110, 111]]
def labsV : List Value := labs.map (fun l => .string (strB l))
theorem labsV_at {k : Nat} (h : k < 7) : ∃ l : List UInt8, labsV[k]? = some (.string (strB l)) ∧ l.length ≤ 41 := by
  have hl : k < labs.length := h
  refine ⟨labs[k], by simp [labsV, hl], ?_⟩
  have : ∀ x ∈ labs, x.length ≤ 41 := by unfold labs; decide
  exact this _ (List.getElem_mem hl)




end Go.Proofs.YtdbpnibcblelbaaGreatDoor

/- The contracts of MixRound and of what it calls besides a round, in the specification and in the program: both answer mixCode and mixList, at every argument. -/
namespace Go.Proofs.YtdbpnibcblelbaaGreatDoor
open Go.ChangeShapes Go.WideShapes Go.ChangeAt Go.RowKit

def isW (v : Int) : Bool := inB v 0 4294967295
def mixOk (l : List Int) (word key : Int) : Bool := l.all isW && isW word && isW key
def s8 (l : List Int) : S8 := ⟨(atI l 0).toNat, (atI l 1).toNat, (atI l 2).toNat, (atI l 3).toNat, (atI l 4).toNat, (atI l 5).toNat, (atI l 6).toNat, (atI l 7).toNat⟩
def mixCode (l : List Int) (word key : Int) : Int := if l.length = 8 then (if mixOk l word key then 0 else 3) else 1
def mixList (l : List Int) (word key : Int) : List Int := if l.length = 8 then (if mixOk l word key then (roundN (s8 l) word.toNat key.toNat).list.map Int.ofNat else []) else []
theorem mixList_len (l : List Int) (word key : Int) : (mixList l word key).length ≤ 8 := by
  unfold mixList; split
  · split <;> simp [S8.list]
  · simp
theorem isW_at {l : List Int} (h : l.all isW = true) (i : Nat) : 0 ≤ atI l i ∧ atI l i ≤ 4294967295 := by
  unfold atI
  rw [List.getD_eq_getElem?_getD]
  cases e : l[i]? with
  | none => simp
  | some x =>
    have h2 := (List.all_eq_true.1 h) x (List.mem_of_getElem? e)
    simpa [isW, inB] using h2
theorem all_of_at {l : List Int} (h : ∀ j, j < l.length → isW (atI l j) = true) : l.all isW = true := by
  rw [List.all_eq_true]
  intro x hx
  obtain ⟨i, hi, rfl⟩ := List.mem_iff_getElem.1 hx
  rw [← atI_get hi]; exact h i hi
theorem not_all_at {l : List Int} {j : Nat} (hj : j < l.length) (h : isW (atI l j) = false) : l.all isW = false := by
  rw [List.all_eq_false]
  exact ⟨l[j], List.getElem_mem hj, by rw [← atI_get hj, h]; simp⟩
theorem partI_arr (l : List Int) (k : Nat) (h : k < l.length) : (partI l l.length k).set k (.int .i64 (atI l k)) = partI l l.length (k + 1) := partI_set l k h

theorem i64_of_l {l : List Int} (h : l.length = 8) (ha : l.all isW = true) : (l.map i64z).toArray = (s8 l).i64 := by
  have e := fun i => Int.toNat_of_nonneg (isW_at ha i).1
  have e0 := e 0; have e1 := e 1; have e2 := e 2; have e3 := e 3; have e4 := e 4; have e5 := e 5; have e6 := e 6; have e7 := e 7
  unfold S8.i64 s8
  simp only [e0, e1, e2, e3, e4, e5, e6, e7]
  match l, h with
  | [a, b, c, d, e, f, g, q], _ => rfl
theorem s8_ok {l : List Int} (ha : l.all isW = true) : (s8 l).ok := by
  have e : ∀ i, (atI l i).toNat < 4294967296 := fun i => by have := isW_at ha i; omega
  exact ⟨e 0, e 1, e 2, e 3, e 4, e 5, e 6, e 7⟩
theorem isW_nat {v : Int} (h : isW v = true) : ∃ n : Nat, v = n ∧ n < 4294967296 := by
  simp [isW, inB] at h
  exact ⟨v.toNat, by omega, by omega⟩
theorem l2Round_s (s : S8) (word key : Nat) (w : World) (h : s.ok) (hw : word < 4294967296) (hk : key < 4294967296) :
    Calls Tryz.prog 204 #[.agg s.i64, .int .i64 word, .int .i64 key] w fun r w' => r = .returned (.agg (roundN s word key).i64) ∧ Below w.heap.size w w' :=
  l2Round_c s.a s.b s.c s.d s.e s.f s.g s.h word key w h.1 h.2.1 h.2.2.1 h.2.2.2.1 h.2.2.2.2.1 h.2.2.2.2.2.1 h.2.2.2.2.2.2.1 h.2.2.2.2.2.2.2 hw hk
theorem mixed_s (s : S8) (word key : Nat) (w : World) (h : s.ok) :
    Calls Tryz.prog 197 #[.agg s.u32, .int .u32 word, .int .u32 key] w fun r w' => r = .returned (.agg (roundN s word key).u32) ∧ Below w.heap.size w w' :=
  mixed_c s.a s.b s.c s.d s.e s.f s.g s.h word key w h.1 h.2.1 h.2.2.1 h.2.2.2.2.1 h.2.2.2.2.2.1 h.2.2.2.2.2.2.1


def u32z (z : Int) : Value := .int .u32 z
theorem u32z_at {l : List Int} {i : Nat} (h : i < l.length) : (l.map u32z)[i]? = some (.int .u32 (atI l i)) := by simp [u32z, atI, h]
theorem u32_of_l {l : List Int} (h : l.length = 8) (ha : l.all isW = true) : (l.map u32z).toArray = (s8 l).u32 := by
  have e := fun i => Int.toNat_of_nonneg (isW_at ha i).1
  have e0 := e 0; have e1 := e 1; have e2 := e 2; have e3 := e 3; have e4 := e 4; have e5 := e 5; have e6 := e 6; have e7 := e 7
  unfold S8.u32 s8
  simp only [e0, e1, e2, e3, e4, e5, e6, e7]
  match l, h with
  | [a, b, c, d, e, f, g, q], _ => rfl



theorem allW_nat {ws : List Nat} (h : Words ws) : (ws.map Int.ofNat).all isW = true := by
  rw [List.all_eq_true]
  intro x hx
  obtain ⟨n, hn, rfl⟩ := List.mem_map.1 hx
  have := h n hn
  simp [isW, inB]
  omega
theorem S8.words {s : S8} (h : s.ok) : Words s.list := by
  intro x hx
  simp only [S8.list, List.mem_cons, List.not_mem_nil, or_false] at hx
  obtain ⟨h1, h2, h3, h4, h5, h6, h7, h8⟩ := h
  rcases hx with rfl | rfl | rfl | rfl | rfl | rfl | rfl | rfl <;> assumption

end Go.Proofs.YtdbpnibcblelbaaGreatDoor

