/- How KeysResult lies in memory, and the contracts of the laws' helpers on it (written by tools/codgen.py). -/
import Derived.Test.YtdemfbbjdnjolaaDoorJoint9
namespace Go.Proofs.YtdemfbbjdnjolaaDoor
open Go.ChangeShapes Go.WideShapes Go.ChangeAt Go.RowKit

abbrev KeysResultD := Int × List UInt8 × List UInt8
def keysResultC : Cod KeysResultD := prodC (intC .i64) (prodC bytC bytC)
theorem keysResult_rep {w : World} {a : KeysResultD} {vs : List Value} (h : keysResultC.rep w a vs) : ∃ p2 q2 p3 q3, vs = [.int .i64 a.1, .slice p2 a.2.1.length q2, .slice p3 a.2.2.length q3] ∧ Rd w p2 q2 a.2.1 ∧ Rd w p3 q3 a.2.2 := by
  obtain ⟨us0, ts0, rfl, h0, us1, ts1, rfl, h1, h2⟩ := h
  have e0 : us0 = [Value.int .i64 _] := h0
  subst e0
  obtain ⟨p2, q2, rfl, r2⟩ := h1
  obtain ⟨p3, q3, rfl, r3⟩ := h2
  exact ⟨p2, q2, p3, q3, rfl, r2, r3⟩
theorem keysResult_mk {w : World} {a : KeysResultD} {p2 : Option Addr} {q2 : Nat} {p3 : Option Addr} {q3 : Nat} (r2 : Rd w p2 q2 a.2.1) (r3 : Rd w p3 q3 a.2.2) : keysResultC.rep w a [.int .i64 a.1, .slice p2 a.2.1.length q2, .slice p3 a.2.2.length q3] := ⟨[.int .i64 a.1], _, rfl, rfl, ⟨[.slice p2 a.2.1.length q2], _, rfl, ⟨p2, q2, rfl, r2⟩, ⟨p3, q3, rfl, r3⟩⟩⟩
def keysResultT (a : KeysResultD) : Nat := a.2.1.length + a.2.2.length
def keysResultM (a : KeysResultD) (m : Nat) : KeysResultD := (a.1, marks m a.2.1.length, marks (m + a.2.1.length) a.2.2.length)

def keysResultN (a : KeysResultD) : Nat := a.2.1.length + a.2.2.length
theorem keysResultT_le (a : KeysResultD) : keysResultT a ≤ 8 * keysResultN a := by
  unfold keysResultT keysResultN
  omega



set_option maxRecDepth 4000 in
set_option maxHeartbeats 1000000 in
theorem eqKeysResult_k (a : KeysResultD) (us vs : List Value) (w : World) (h1 : keysResultC.rep w a us) (h2 : keysResultC.rep w a vs) :
    Calls Tryd.prog 16 #[.agg us.toArray, .agg vs.toArray] w fun e w' => e = .returned (.bool true) ∧ Below w.heap.size w w' := by
  obtain ⟨p2, q2, p3, q3, rfl, r2, r3⟩ := keysResult_rep h1
  obtain ⟨pb2, qb2, pb3, qb3, rfl, rb2, rb3⟩ := keysResult_rep h2
  clear h1 h2
  have BW : Below w.heap.size w ((w.alloc (.cells #[.int .i64 a.1, .slice p2 a.2.1.length q2, .slice p3 a.2.2.length q3] 35)).alloc (.cells #[.int .i64 a.1, .slice pb2 a.2.1.length qb2, .slice pb3 a.2.2.length qb3] 35)) := Below.mk (alloc_below _ _) _
  have A : Arr ((w.alloc (.cells #[.int .i64 a.1, .slice p2 a.2.1.length q2, .slice p3 a.2.2.length q3] 35)).alloc (.cells #[.int .i64 a.1, .slice pb2 a.2.1.length qb2, .slice pb3 a.2.2.length qb3] 35)) w.heap.size 35 [.int .i64 a.1, .slice p2 a.2.1.length q2, .slice p3 a.2.2.length q3] := (Arr.new w [.int .i64 a.1, .slice p2 a.2.1.length q2, .slice p3 a.2.2.length q3] 35).old _ _
  have B : Arr ((w.alloc (.cells #[.int .i64 a.1, .slice p2 a.2.1.length q2, .slice p3 a.2.2.length q3] 35)).alloc (.cells #[.int .i64 a.1, .slice pb2 a.2.1.length qb2, .slice pb3 a.2.2.length qb3] 35)) (w.heap.size + 1) 35 [.int .i64 a.1, .slice pb2 a.2.1.length qb2, .slice pb3 a.2.2.length qb3] := by
    have h := Arr.new (w.alloc (.cells #[.int .i64 a.1, .slice p2 a.2.1.length q2, .slice p3 a.2.2.length q3] 35)) [.int .i64 a.1, .slice pb2 a.2.1.length qb2, .slice pb3 a.2.2.length qb3] 35
    rw [size_alloc] at h
    exact h
  replace r2 := r2.keep BW
  replace rb2 := rb2.keep BW
  replace r3 := r3.keep BW
  replace rb3 := rb3.keep BW
  go_enter Tryd.func16, Tryd.ntmps16
  go_wp2_with fail
  refine (eqByteS_c p2 pb2 q2 qb2 a.2.1 _ r2 rb2).mono ?_
  rintro e w1 ⟨rfl, hb⟩
  replace A := A.stay hb
  replace B := B.stay hb
  replace BW := Below.step BW hb
  replace r2 := r2.keep hb
  replace rb2 := rb2.keep hb
  replace r3 := r3.keep hb
  replace rb3 := rb3.keep hb
  have ca0 := A.cell 0
  have cb0 := B.cell 0
  have ca1 := A.cell 1
  have cb1 := B.cell 1
  have ca2 := A.cell 2
  have cb2 := B.cell 2
  simp at ca0 cb0 ca1 cb1 ca2 cb2
  clear hb
  go_wp2_with fail
  refine (eqByteS_c p3 pb3 q3 qb3 a.2.2 _ r3 rb3).mono ?_
  rintro e w2 ⟨rfl, hb⟩
  replace A := A.stay hb
  replace B := B.stay hb
  replace BW := Below.step BW hb
  replace r2 := r2.keep hb
  replace rb2 := rb2.keep hb
  replace r3 := r3.keep hb
  replace rb3 := rb3.keep hb
  have ca0 := A.cell 0
  have cb0 := B.cell 0
  have ca1 := A.cell 1
  have cb1 := B.cell 1
  have ca2 := A.cell 2
  have cb2 := B.cell 2
  simp at ca0 cb0 ca1 cb1 ca2 cb2
  clear hb
  go_wp2
  go_ret
  exact ⟨rfl, BW⟩

set_option maxRecDepth 4000 in
set_option maxHeartbeats 1000000 in
theorem markKeysResult_k (a : KeysResultD) (us : List Value) (fp : List Nat) (B m : Nat) (mi : Int) (hmi : mi = (m : Int)) (w : World) (h : keysResultC.own w B a us fp) (hm : m + keysResultT a ≤ 1000000000) :
    Calls Tryd.prog 19 #[.agg us.toArray, .int .i64 mi] w fun e w' => e = .returned (.int .i64 (mi + (keysResultT a : Int))) ∧ keysResultC.own w' B (keysResultM a m) us fp ∧ Only fp w w' := by
  subst hmi
  obtain ⟨us0, ts0, f0, g0, rfl, rfl, nd0, k0, us1, ts1, f1, g1, rfl, rfl, nd1, k1, k2⟩ := h
  obtain ⟨e0, ef0⟩ := k0
  subst e0 ef0
  obtain ⟨p2, q2, e1, -⟩ := bytC.toRep k1
  subst e1
  obtain ⟨p3, q3, e2, -⟩ := bytC.toRep k2
  subst e2
  have z1 : Hid (∀ x, x ∈ f1 → x < w.heap.size) := fun x hx => (bytC.ins k1 x hx).2
  have z2 : Hid (∀ x, x ∈ g1 → x < w.heap.size) := fun x hx => (bytC.ins k2 x hx).2
  have d1_2 : Hid (∀ x, x ∈ f1 → x ∉ g1) := fun x h1 h2 => nodup_apart nd1 x h1 (by simp [h2])
  have s1 : Hid (∀ x, x ∈ f1 → x ∈ [] ++ (f1 ++ g1)) := fun x hx => by simp [hx]
  have s2 : Hid (∀ x, x ∈ g1 → x ∈ [] ++ (f1 ++ g1)) := fun x hx => by simp [hx]
  have A := Arr.new w [.int .i64 a.1, .slice p2 a.2.1.length q2, .slice p3 a.2.2.length q3] 35
  have ON : Only ([] ++ (f1 ++ g1)) w (w.alloc (.cells #[.int .i64 a.1, .slice p2 a.2.1.length q2, .slice p3 a.2.2.length q3] 35)) := Only.below (alloc_below _ _)
  replace k1 := bytC.stay k1 (alloc_below _ (.cells #[.int .i64 a.1, .slice p2 a.2.1.length q2, .slice p3 a.2.2.length q3] 35))
  replace k2 := bytC.stay k2 (alloc_below _ (.cells #[.int .i64 a.1, .slice p2 a.2.1.length q2, .slice p3 a.2.2.length q3] 35))
  have ND0 : Hid _ := nd0
  have ND1 : Hid _ := nd1
  clear nd0 nd1
  have hT : Hid (m + (a.2.1.length + a.2.2.length) ≤ 1000000000) := hm
  clear hm
  go_enter Tryd.func19, Tryd.ntmps19
  go_wp2_with fail
  refine (markByteS_k a.2.1 _ _ B m _ (by first | rfl | simp | (simp; omega) | (push_cast; omega)) _ k1 (by have := hT.out; omega)).mono ?_
  rintro e w1 ⟨rfl, k1, ho⟩
  replace k2 := bytC.other k2 ho (fun x h1 h2 => d1_2.out x h2 h1)
  replace A := A.only ho (fun h => Nat.lt_irrefl _ (z1.out _ h))
  replace ON := ON.trans_sub ho s1.out
  have ca0 := A.cell 0
  have ca1 := A.cell 1
  have ca2 := A.cell 2
  simp at ca0 ca1 ca2
  clear ho
  go_wp2_with fail
  refine (markByteS_k a.2.2 _ _ B (m + a.2.1.length) _ (by first | rfl | simp | (simp; omega) | (push_cast; omega)) _ k2 (by have := hT.out; omega)).mono ?_
  rintro e w2 ⟨rfl, k2, ho⟩
  replace k1 := bytC.other k1 ho (fun x h1 h2 => d1_2.out x h1 h2)
  replace A := A.only ho (fun h => Nat.lt_irrefl _ (z2.out _ h))
  replace ON := ON.trans_sub ho s2.out
  have ca0 := A.cell 0
  have ca1 := A.cell 1
  have ca2 := A.cell 2
  simp at ca0 ca1 ca2
  clear ho
  go_wp2
  go_ret
  exact ⟨by unfold keysResultT; simp; try omega, ⟨_, _, [], _, rfl, rfl, ND0.out, ⟨rfl, rfl⟩, ⟨_, _, _, _, rfl, rfl, ND1.out, k1, k2⟩⟩, ON⟩

set_option maxRecDepth 4000 in
set_option maxHeartbeats 1000000 in
theorem heldKeysResult_k (a : KeysResultD) (us : List Value) (m : Nat) (mi : Int) (hmi : mi = (m : Int)) (w : World) (h : keysResultC.rep w (keysResultM a m) us) (hm : m + keysResultT a ≤ 1048577) :
    Calls Tryd.prog 20 #[.agg us.toArray, .int .i64 mi] w fun e w' => e = .returned (.int .i64 (mi + (keysResultT a : Int))) ∧ Below w.heap.size w w' := by
  subst hmi
  obtain ⟨us0, ts0, rfl, h0, us1, ts1, rfl, h1, h2⟩ := h
  have e0 : us0 = [Value.int .i64 (keysResultM a m).1] := h0
  subst e0
  obtain ⟨p2, q2, rfl, r2⟩ := h1
  obtain ⟨p3, q3, rfl, r3⟩ := h2
  have A := Arr.new w [.int .i64 (keysResultM a m).1, .slice p2 (keysResultM a m).2.1.length q2, .slice p3 (keysResultM a m).2.2.length q3] 35
  have BW := alloc_below w (.cells #[.int .i64 (keysResultM a m).1, .slice p2 (keysResultM a m).2.1.length q2, .slice p3 (keysResultM a m).2.2.length q3] 35)
  replace r2 := r2.keep BW
  replace r3 := r3.keep BW
  have hT : Hid (m + (a.2.1.length + a.2.2.length) ≤ 1048577) := hm
  clear hm
  go_enter Tryd.func20, Tryd.ntmps20
  go_wp2_with fail
  refine (heldByteS_k (keysResultM a m).2.1 p2 q2 a.2.1.length m rfl _ (by first | rfl | simp | (simp; omega) | (push_cast; omega)) _ r2 (by have := hT.out; omega)).mono ?_
  rintro e w1 ⟨rfl, hw⟩
  subst hw
  go_wp2_with fail
  refine (heldByteS_k (keysResultM a m).2.2 p3 q3 a.2.2.length (m + a.2.1.length) rfl _ (by first | rfl | simp | (simp; omega) | (push_cast; omega)) _ r3 (by have := hT.out; omega)).mono ?_
  rintro e w2 ⟨rfl, hw⟩
  subst hw
  go_wp2
  go_ret
  exact ⟨by unfold keysResultT; simp; try omega, BW⟩

end Go.Proofs.YtdemfbbjdnjolaaDoor

