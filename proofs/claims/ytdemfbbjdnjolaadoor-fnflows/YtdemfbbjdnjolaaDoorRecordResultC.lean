/- How RecordResult lies in memory, and the contracts of the laws' helpers on it (written by tools/codgen.py). -/
import Derived.Test.YtdemfbbjdnjolaaDoorJoint9
import Derived.Test.YtdemfbbjdnjolaaDoorStreamC
namespace Go.Proofs.YtdemfbbjdnjolaaDoor
open Go.ChangeShapes Go.WideShapes Go.ChangeAt Go.RowKit

abbrev RecordResultD := Int × Int × List UInt8 × StreamD
def recordResultC : Cod RecordResultD := prodC (intC .i64) (prodC (intC .i64) (prodC bytC streamC))
theorem recordResult_rep {w : World} {a : RecordResultD} {vs : List Value} (h : recordResultC.rep w a vs) : ∃ p3 q3 p4_1 q4_1, vs = [.int .i64 a.1, .int .i64 a.2.1, .slice p3 a.2.2.1.length q3, .slice p4_1 a.2.2.2.1.length q4_1, .int .i64 a.2.2.2.2.1, .int .i64 a.2.2.2.2.2] ∧ Rd w p3 q3 a.2.2.1 ∧ Rd w p4_1 q4_1 a.2.2.2.1 := by
  obtain ⟨us0, ts0, rfl, h0, us1, ts1, rfl, h1, us2, ts2, rfl, h2, h3⟩ := h
  have e0 : us0 = [Value.int .i64 _] := h0
  subst e0
  have e1 : us1 = [Value.int .i64 _] := h1
  subst e1
  obtain ⟨p3, q3, rfl, r3⟩ := h2
  obtain ⟨p4_1, q4_1, rfl, r4_1⟩ := stream_rep h3
  exact ⟨p3, q3, p4_1, q4_1, rfl, r3, r4_1⟩
theorem recordResult_mk {w : World} {a : RecordResultD} {p3 : Option Addr} {q3 : Nat} {p4_1 : Option Addr} {q4_1 : Nat} (r3 : Rd w p3 q3 a.2.2.1) (r4_1 : Rd w p4_1 q4_1 a.2.2.2.1) : recordResultC.rep w a [.int .i64 a.1, .int .i64 a.2.1, .slice p3 a.2.2.1.length q3, .slice p4_1 a.2.2.2.1.length q4_1, .int .i64 a.2.2.2.2.1, .int .i64 a.2.2.2.2.2] := ⟨[.int .i64 a.1], _, rfl, rfl, ⟨[.int .i64 a.2.1], _, rfl, rfl, ⟨[.slice p3 a.2.2.1.length q3], _, rfl, ⟨p3, q3, rfl, r3⟩, (stream_mk r4_1)⟩⟩⟩
def recordResultT (a : RecordResultD) : Nat := a.2.2.1.length + streamT a.2.2.2
def recordResultM (a : RecordResultD) (m : Nat) : RecordResultD := (a.1, a.2.1, marks m a.2.2.1.length, streamM a.2.2.2 (m + a.2.2.1.length))

def recordResultN (a : RecordResultD) : Nat := a.2.2.1.length + streamN a.2.2.2
theorem recordResultT_le (a : RecordResultD) : recordResultT a ≤ 8 * recordResultN a := by
  have h3 := streamT_le a.2.2.2
  unfold recordResultT recordResultN
  omega



set_option maxRecDepth 4000 in
set_option maxHeartbeats 1000000 in
theorem eqRecordResult_k (a : RecordResultD) (us vs : List Value) (w : World) (h1 : recordResultC.rep w a us) (h2 : recordResultC.rep w a vs) :
    Calls Tryd.prog 24 #[.agg us.toArray, .agg vs.toArray] w fun e w' => e = .returned (.bool true) ∧ Below w.heap.size w w' := by
  obtain ⟨p3, q3, p4_1, q4_1, rfl, r3, r4_1⟩ := recordResult_rep h1
  obtain ⟨pb3, qb3, pb4_1, qb4_1, rfl, rb3, rb4_1⟩ := recordResult_rep h2
  clear h1 h2
  have BW : Below w.heap.size w ((w.alloc (.cells #[.int .i64 a.1, .int .i64 a.2.1, .slice p3 a.2.2.1.length q3, .slice p4_1 a.2.2.2.1.length q4_1, .int .i64 a.2.2.2.2.1, .int .i64 a.2.2.2.2.2] 29)).alloc (.cells #[.int .i64 a.1, .int .i64 a.2.1, .slice pb3 a.2.2.1.length qb3, .slice pb4_1 a.2.2.2.1.length qb4_1, .int .i64 a.2.2.2.2.1, .int .i64 a.2.2.2.2.2] 29)) := Below.mk (alloc_below _ _) _
  have A : Arr ((w.alloc (.cells #[.int .i64 a.1, .int .i64 a.2.1, .slice p3 a.2.2.1.length q3, .slice p4_1 a.2.2.2.1.length q4_1, .int .i64 a.2.2.2.2.1, .int .i64 a.2.2.2.2.2] 29)).alloc (.cells #[.int .i64 a.1, .int .i64 a.2.1, .slice pb3 a.2.2.1.length qb3, .slice pb4_1 a.2.2.2.1.length qb4_1, .int .i64 a.2.2.2.2.1, .int .i64 a.2.2.2.2.2] 29)) w.heap.size 29 [.int .i64 a.1, .int .i64 a.2.1, .slice p3 a.2.2.1.length q3, .slice p4_1 a.2.2.2.1.length q4_1, .int .i64 a.2.2.2.2.1, .int .i64 a.2.2.2.2.2] := (Arr.new w [.int .i64 a.1, .int .i64 a.2.1, .slice p3 a.2.2.1.length q3, .slice p4_1 a.2.2.2.1.length q4_1, .int .i64 a.2.2.2.2.1, .int .i64 a.2.2.2.2.2] 29).old _ _
  have B : Arr ((w.alloc (.cells #[.int .i64 a.1, .int .i64 a.2.1, .slice p3 a.2.2.1.length q3, .slice p4_1 a.2.2.2.1.length q4_1, .int .i64 a.2.2.2.2.1, .int .i64 a.2.2.2.2.2] 29)).alloc (.cells #[.int .i64 a.1, .int .i64 a.2.1, .slice pb3 a.2.2.1.length qb3, .slice pb4_1 a.2.2.2.1.length qb4_1, .int .i64 a.2.2.2.2.1, .int .i64 a.2.2.2.2.2] 29)) (w.heap.size + 1) 29 [.int .i64 a.1, .int .i64 a.2.1, .slice pb3 a.2.2.1.length qb3, .slice pb4_1 a.2.2.2.1.length qb4_1, .int .i64 a.2.2.2.2.1, .int .i64 a.2.2.2.2.2] := by
    have h := Arr.new (w.alloc (.cells #[.int .i64 a.1, .int .i64 a.2.1, .slice p3 a.2.2.1.length q3, .slice p4_1 a.2.2.2.1.length q4_1, .int .i64 a.2.2.2.2.1, .int .i64 a.2.2.2.2.2] 29)) [.int .i64 a.1, .int .i64 a.2.1, .slice pb3 a.2.2.1.length qb3, .slice pb4_1 a.2.2.2.1.length qb4_1, .int .i64 a.2.2.2.2.1, .int .i64 a.2.2.2.2.2] 29
    rw [size_alloc] at h
    exact h
  replace r3 := r3.keep BW
  replace rb3 := rb3.keep BW
  replace r4_1 := r4_1.keep BW
  replace rb4_1 := rb4_1.keep BW
  go_enter Tryd.func24, Tryd.ntmps24
  go_wp2_with fail
  refine (eqByteS_c p3 pb3 q3 qb3 a.2.2.1 _ r3 rb3).mono ?_
  rintro e w1 ⟨rfl, hb⟩
  replace A := A.stay hb
  replace B := B.stay hb
  replace BW := Below.step BW hb
  replace r3 := r3.keep hb
  replace rb3 := rb3.keep hb
  replace r4_1 := r4_1.keep hb
  replace rb4_1 := rb4_1.keep hb
  have ca0 := A.cell 0
  have cb0 := B.cell 0
  have ca1 := A.cell 1
  have cb1 := B.cell 1
  have ca2 := A.cell 2
  have cb2 := B.cell 2
  have ca3 := A.cell 3
  have cb3 := B.cell 3
  have ca4 := A.cell 4
  have cb4 := B.cell 4
  have ca5 := A.cell 5
  have cb5 := B.cell 5
  simp at ca0 cb0 ca1 cb1 ca2 cb2 ca3 cb3 ca4 cb4 ca5 cb5
  clear hb
  go_wp2_with fail
  refine (eqStream_k a.2.2.2 _ _ _ (stream_mk r4_1) (stream_mk rb4_1)).mono ?_
  rintro e w2 ⟨rfl, hb⟩
  replace A := A.stay hb
  replace B := B.stay hb
  replace BW := Below.step BW hb
  replace r3 := r3.keep hb
  replace rb3 := rb3.keep hb
  replace r4_1 := r4_1.keep hb
  replace rb4_1 := rb4_1.keep hb
  have ca0 := A.cell 0
  have cb0 := B.cell 0
  have ca1 := A.cell 1
  have cb1 := B.cell 1
  have ca2 := A.cell 2
  have cb2 := B.cell 2
  have ca3 := A.cell 3
  have cb3 := B.cell 3
  have ca4 := A.cell 4
  have cb4 := B.cell 4
  have ca5 := A.cell 5
  have cb5 := B.cell 5
  simp at ca0 cb0 ca1 cb1 ca2 cb2 ca3 cb3 ca4 cb4 ca5 cb5
  clear hb
  go_wp2
  go_ret
  exact ⟨rfl, BW⟩

set_option maxRecDepth 4000 in
set_option maxHeartbeats 1000000 in
theorem markRecordResult_k (a : RecordResultD) (us : List Value) (fp : List Nat) (B m : Nat) (mi : Int) (hmi : mi = (m : Int)) (w : World) (h : recordResultC.own w B a us fp) (hm : m + recordResultT a ≤ 1000000000) :
    Calls Tryd.prog 27 #[.agg us.toArray, .int .i64 mi] w fun e w' => e = .returned (.int .i64 (mi + (recordResultT a : Int))) ∧ recordResultC.own w' B (recordResultM a m) us fp ∧ Only fp w w' := by
  subst hmi
  obtain ⟨us0, ts0, f0, g0, rfl, rfl, nd0, k0, us1, ts1, f1, g1, rfl, rfl, nd1, k1, us2, ts2, f2, g2, rfl, rfl, nd2, k2, k3⟩ := h
  obtain ⟨e0, ef0⟩ := k0
  subst e0 ef0
  obtain ⟨e1, ef1⟩ := k1
  subst e1 ef1
  obtain ⟨p3, q3, e2, -⟩ := bytC.toRep k2
  subst e2
  obtain ⟨p4_1, q4_1, e3, -⟩ := stream_rep (streamC.toRep k3)
  subst e3
  have z2 : Hid (∀ x, x ∈ f2 → x < w.heap.size) := fun x hx => (bytC.ins k2 x hx).2
  have z3 : Hid (∀ x, x ∈ g2 → x < w.heap.size) := fun x hx => (streamC.ins k3 x hx).2
  have d2_3 : Hid (∀ x, x ∈ f2 → x ∉ g2) := fun x h1 h2 => nodup_apart nd2 x h1 (by simp [h2])
  have s2 : Hid (∀ x, x ∈ f2 → x ∈ [] ++ ([] ++ (f2 ++ g2))) := fun x hx => by simp [hx]
  have s3 : Hid (∀ x, x ∈ g2 → x ∈ [] ++ ([] ++ (f2 ++ g2))) := fun x hx => by simp [hx]
  have A := Arr.new w [.int .i64 a.1, .int .i64 a.2.1, .slice p3 a.2.2.1.length q3, .slice p4_1 a.2.2.2.1.length q4_1, .int .i64 a.2.2.2.2.1, .int .i64 a.2.2.2.2.2] 29
  have ON : Only ([] ++ ([] ++ (f2 ++ g2))) w (w.alloc (.cells #[.int .i64 a.1, .int .i64 a.2.1, .slice p3 a.2.2.1.length q3, .slice p4_1 a.2.2.2.1.length q4_1, .int .i64 a.2.2.2.2.1, .int .i64 a.2.2.2.2.2] 29)) := Only.below (alloc_below _ _)
  replace k2 := bytC.stay k2 (alloc_below _ (.cells #[.int .i64 a.1, .int .i64 a.2.1, .slice p3 a.2.2.1.length q3, .slice p4_1 a.2.2.2.1.length q4_1, .int .i64 a.2.2.2.2.1, .int .i64 a.2.2.2.2.2] 29))
  replace k3 := streamC.stay k3 (alloc_below _ (.cells #[.int .i64 a.1, .int .i64 a.2.1, .slice p3 a.2.2.1.length q3, .slice p4_1 a.2.2.2.1.length q4_1, .int .i64 a.2.2.2.2.1, .int .i64 a.2.2.2.2.2] 29))
  have ND0 : Hid _ := nd0
  have ND1 : Hid _ := nd1
  have ND2 : Hid _ := nd2
  clear nd0 nd1 nd2
  have hT : Hid (m + (a.2.2.1.length + streamT a.2.2.2) ≤ 1000000000) := hm
  clear hm
  go_enter Tryd.func27, Tryd.ntmps27
  go_wp2_with fail
  refine (markByteS_k a.2.2.1 _ _ B m _ (by first | rfl | simp | (simp; omega) | (push_cast; omega)) _ k2 (by have := hT.out; omega)).mono ?_
  rintro e w1 ⟨rfl, k2, ho⟩
  replace k3 := streamC.other k3 ho (fun x h1 h2 => d2_3.out x h2 h1)
  replace A := A.only ho (fun h => Nat.lt_irrefl _ (z2.out _ h))
  replace ON := ON.trans_sub ho s2.out
  have ca0 := A.cell 0
  have ca1 := A.cell 1
  have ca2 := A.cell 2
  have ca3 := A.cell 3
  have ca4 := A.cell 4
  have ca5 := A.cell 5
  simp at ca0 ca1 ca2 ca3 ca4 ca5
  clear ho
  go_wp2_with fail
  refine (markStream_k a.2.2.2 _ _ B (m + a.2.2.1.length) _ (by first | rfl | simp | (simp; omega) | (push_cast; omega)) _ k3 (by have := hT.out; omega)).mono ?_
  rintro e w2 ⟨rfl, k3, ho⟩
  replace k2 := bytC.other k2 ho (fun x h1 h2 => d2_3.out x h1 h2)
  replace A := A.only ho (fun h => Nat.lt_irrefl _ (z3.out _ h))
  replace ON := ON.trans_sub ho s3.out
  have ca0 := A.cell 0
  have ca1 := A.cell 1
  have ca2 := A.cell 2
  have ca3 := A.cell 3
  have ca4 := A.cell 4
  have ca5 := A.cell 5
  simp at ca0 ca1 ca2 ca3 ca4 ca5
  clear ho
  go_wp2
  go_ret
  exact ⟨by unfold recordResultT; simp; try omega, ⟨_, _, [], _, rfl, rfl, ND0.out, ⟨rfl, rfl⟩, ⟨_, _, [], _, rfl, rfl, ND1.out, ⟨rfl, rfl⟩, ⟨_, _, _, _, rfl, rfl, ND2.out, k2, k3⟩⟩⟩, ON⟩

set_option maxRecDepth 4000 in
set_option maxHeartbeats 1000000 in
theorem heldRecordResult_k (a : RecordResultD) (us : List Value) (m : Nat) (mi : Int) (hmi : mi = (m : Int)) (w : World) (h : recordResultC.rep w (recordResultM a m) us) (hm : m + recordResultT a ≤ 1048577) :
    Calls Tryd.prog 28 #[.agg us.toArray, .int .i64 mi] w fun e w' => e = .returned (.int .i64 (mi + (recordResultT a : Int))) ∧ Below w.heap.size w w' := by
  subst hmi
  obtain ⟨us0, ts0, rfl, h0, us1, ts1, rfl, h1, us2, ts2, rfl, h2, h3⟩ := h
  have e0 : us0 = [Value.int .i64 (recordResultM a m).1] := h0
  subst e0
  have e1 : us1 = [Value.int .i64 (recordResultM a m).2.1] := h1
  subst e1
  obtain ⟨p3, q3, rfl, r3⟩ := h2
  replace h3 : streamC.rep w (streamM a.2.2.2 (m + a.2.2.1.length)) _ := h3
  obtain ⟨p4_1, q4_1, e3, -⟩ := stream_rep h3
  subst e3
  have A := Arr.new w [.int .i64 (recordResultM a m).1, .int .i64 (recordResultM a m).2.1, .slice p3 (recordResultM a m).2.2.1.length q3, .slice p4_1 (streamM a.2.2.2 (m + a.2.2.1.length)).1.length q4_1, .int .i64 (streamM a.2.2.2 (m + a.2.2.1.length)).2.1, .int .i64 (streamM a.2.2.2 (m + a.2.2.1.length)).2.2] 29
  have BW := alloc_below w (.cells #[.int .i64 (recordResultM a m).1, .int .i64 (recordResultM a m).2.1, .slice p3 (recordResultM a m).2.2.1.length q3, .slice p4_1 (streamM a.2.2.2 (m + a.2.2.1.length)).1.length q4_1, .int .i64 (streamM a.2.2.2 (m + a.2.2.1.length)).2.1, .int .i64 (streamM a.2.2.2 (m + a.2.2.1.length)).2.2] 29)
  replace r3 := r3.keep BW
  replace h3 := streamC.keep h3 BW
  have hT : Hid (m + (a.2.2.1.length + streamT a.2.2.2) ≤ 1048577) := hm
  clear hm
  go_enter Tryd.func28, Tryd.ntmps28
  go_wp2_with fail
  refine (heldByteS_k (recordResultM a m).2.2.1 p3 q3 a.2.2.1.length m rfl _ (by first | rfl | simp | (simp; omega) | (push_cast; omega)) _ r3 (by have := hT.out; omega)).mono ?_
  rintro e w1 ⟨rfl, hw⟩
  subst hw
  go_wp2_with fail
  refine (heldStream_k a.2.2.2 _ (m + a.2.2.1.length) _ (by first | rfl | simp | (simp; omega) | (push_cast; omega)) _ h3 (by have := hT.out; omega)).mono ?_
  rintro e w2 ⟨rfl, hb⟩
  replace A := A.stay hb
  replace BW := Below.step BW hb
  replace r3 := r3.keep hb
  replace h3 := streamC.keep h3 hb
  have ca0 := A.cell 0
  have ca1 := A.cell 1
  have ca2 := A.cell 2
  have ca3 := A.cell 3
  have ca4 := A.cell 4
  have ca5 := A.cell 5
  simp at ca0 ca1 ca2 ca3 ca4 ca5
  clear hb
  go_wp2
  go_ret
  exact ⟨by unfold recordResultT; simp; try omega, BW⟩

end Go.Proofs.YtdemfbbjdnjolaaDoor

