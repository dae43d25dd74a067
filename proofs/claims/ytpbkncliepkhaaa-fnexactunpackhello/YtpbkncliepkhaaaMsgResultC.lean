/- How MsgResult lies in memory, and the contracts of the laws' helpers on it (written by tools/codgen.py). -/
import Derived.Test.YtpbkncliepkhaaaJoint8
import Derived.Test.YtpbkncliepkhaaaMsgK
namespace Go.Proofs.Ytpbkncliepkhaaa
open Go.ChangeShapes Go.WideShapes Go.ChangeAt Go.RowKit

abbrev MsgResultD := Int × MsgD
def msgResultC : Cod MsgResultD := prodC (intC .i64) msgC
theorem msgResult_rep {w : World} {a : MsgResultD} {vs : List Value} (h : msgResultC.rep w a vs) : ∃ p2_2 q2_2, vs = [.int .i64 a.1, .int .i64 a.2.1, .slice p2_2 a.2.2.length q2_2] ∧ Rd w p2_2 q2_2 a.2.2 := by
  obtain ⟨us0, ts0, rfl, h0, h1⟩ := h
  have e0 : us0 = [Value.int .i64 _] := h0
  subst e0
  obtain ⟨p2_2, q2_2, rfl, r2_2⟩ := msg_rep h1
  exact ⟨p2_2, q2_2, rfl, r2_2⟩
theorem msgResult_mk {w : World} {a : MsgResultD} {p2_2 : Option Addr} {q2_2 : Nat} (r2_2 : Rd w p2_2 q2_2 a.2.2) : msgResultC.rep w a [.int .i64 a.1, .int .i64 a.2.1, .slice p2_2 a.2.2.length q2_2] := ⟨[.int .i64 a.1], _, rfl, rfl, (msg_mk r2_2)⟩
def msgResultT (a : MsgResultD) : Nat := msgT a.2
def msgResultM (a : MsgResultD) (m : Nat) : MsgResultD := (a.1, msgM a.2 m)

def msgResultN (a : MsgResultD) : Nat := msgN a.2
theorem msgResultT_le (a : MsgResultD) : msgResultT a ≤ 8 * msgResultN a := by
  have h1 := msgT_le a.2
  unfold msgResultT msgResultN
  omega



set_option maxRecDepth 4000 in
set_option maxHeartbeats 1000000 in
theorem eqMsgResult_k (a : MsgResultD) (us vs : List Value) (w : World) (h1 : msgResultC.rep w a us) (h2 : msgResultC.rep w a vs) :
    Calls Try.prog 22 #[.agg us.toArray, .agg vs.toArray] w fun e w' => e = .returned (.bool true) ∧ Below w.heap.size w w' := by
  obtain ⟨p2_2, q2_2, rfl, r2_2⟩ := msgResult_rep h1
  obtain ⟨pb2_2, qb2_2, rfl, rb2_2⟩ := msgResult_rep h2
  clear h1 h2
  have BW : Below w.heap.size w ((w.alloc (.cells #[.int .i64 a.1, .int .i64 a.2.1, .slice p2_2 a.2.2.length q2_2] 35)).alloc (.cells #[.int .i64 a.1, .int .i64 a.2.1, .slice pb2_2 a.2.2.length qb2_2] 35)) := Below.mk (alloc_below _ _) _
  have A : Arr ((w.alloc (.cells #[.int .i64 a.1, .int .i64 a.2.1, .slice p2_2 a.2.2.length q2_2] 35)).alloc (.cells #[.int .i64 a.1, .int .i64 a.2.1, .slice pb2_2 a.2.2.length qb2_2] 35)) w.heap.size 35 [.int .i64 a.1, .int .i64 a.2.1, .slice p2_2 a.2.2.length q2_2] := (Arr.new w [.int .i64 a.1, .int .i64 a.2.1, .slice p2_2 a.2.2.length q2_2] 35).old _ _
  have B : Arr ((w.alloc (.cells #[.int .i64 a.1, .int .i64 a.2.1, .slice p2_2 a.2.2.length q2_2] 35)).alloc (.cells #[.int .i64 a.1, .int .i64 a.2.1, .slice pb2_2 a.2.2.length qb2_2] 35)) (w.heap.size + 1) 35 [.int .i64 a.1, .int .i64 a.2.1, .slice pb2_2 a.2.2.length qb2_2] := by
    have h := Arr.new (w.alloc (.cells #[.int .i64 a.1, .int .i64 a.2.1, .slice p2_2 a.2.2.length q2_2] 35)) [.int .i64 a.1, .int .i64 a.2.1, .slice pb2_2 a.2.2.length qb2_2] 35
    rw [size_alloc] at h
    exact h
  replace r2_2 := r2_2.keep BW
  replace rb2_2 := rb2_2.keep BW
  go_enter Try.func22, Try.ntmps22
  go_wp2_with fail
  refine (eqMsg_k a.2 _ _ _ (msg_mk r2_2) (msg_mk rb2_2)).mono ?_
  rintro e w1 ⟨rfl, hb⟩
  replace A := A.stay hb
  replace B := B.stay hb
  replace BW := Below.step BW hb
  replace r2_2 := r2_2.keep hb
  replace rb2_2 := rb2_2.keep hb
  have ca0 := A.cell 0
  have cb0 := B.cell 0
  have ca1 := A.cell 1
  have cb1 := B.cell 1
  have ca2 := A.cell 2
  have cb2 := B.cell 2
  simp at ca0 cb0 ca1 cb1 ca2 cb2
  clear hb
  go_wp2
  go_ret
  exact ⟨rfl, BW⟩

set_option maxRecDepth 4000 in
set_option maxHeartbeats 1000000 in
theorem markMsgResult_k (a : MsgResultD) (us : List Value) (fp : List Nat) (B m : Nat) (mi : Int) (hmi : mi = (m : Int)) (w : World) (h : msgResultC.own w B a us fp) (hm : m + msgResultT a ≤ 1000000000) :
    Calls Try.prog 24 #[.agg us.toArray, .int .i64 mi] w fun e w' => e = .returned (.int .i64 (mi + (msgResultT a : Int))) ∧ msgResultC.own w' B (msgResultM a m) us fp ∧ Only fp w w' := by
  subst hmi
  obtain ⟨us0, ts0, f0, g0, rfl, rfl, nd0, k0, k1⟩ := h
  obtain ⟨e0, ef0⟩ := k0
  subst e0 ef0
  obtain ⟨p2_2, q2_2, e1, -⟩ := msg_rep (msgC.toRep k1)
  subst e1
  have z1 : Hid (∀ x, x ∈ g0 → x < w.heap.size) := fun x hx => (msgC.ins k1 x hx).2
  have s1 : Hid (∀ x, x ∈ g0 → x ∈ [] ++ g0) := fun x hx => by simp [hx]
  have A := Arr.new w [.int .i64 a.1, .int .i64 a.2.1, .slice p2_2 a.2.2.length q2_2] 35
  have ON : Only ([] ++ g0) w (w.alloc (.cells #[.int .i64 a.1, .int .i64 a.2.1, .slice p2_2 a.2.2.length q2_2] 35)) := Only.below (alloc_below _ _)
  replace k1 := msgC.stay k1 (alloc_below _ (.cells #[.int .i64 a.1, .int .i64 a.2.1, .slice p2_2 a.2.2.length q2_2] 35))
  have ND0 : Hid _ := nd0
  clear nd0
  have hT : Hid (m + (msgT a.2) ≤ 1000000000) := hm
  clear hm
  go_enter Try.func24, Try.ntmps24
  go_wp2_with fail
  refine (markMsg_k a.2 _ _ B m _ (by first | rfl | simp | (simp; omega) | (push_cast; omega)) _ k1 (by have := hT.out; omega)).mono ?_
  rintro e w1 ⟨rfl, k1, ho⟩
  replace A := A.only ho (fun h => Nat.lt_irrefl _ (z1.out _ h))
  replace ON := ON.trans_sub ho s1.out
  have ca0 := A.cell 0
  have ca1 := A.cell 1
  have ca2 := A.cell 2
  simp at ca0 ca1 ca2
  clear ho
  go_wp2
  go_ret
  exact ⟨by unfold msgResultT; simp; try omega, ⟨_, _, [], _, rfl, rfl, ND0.out, ⟨rfl, rfl⟩, k1⟩, ON⟩

set_option maxRecDepth 4000 in
set_option maxHeartbeats 1000000 in
theorem heldMsgResult_k (a : MsgResultD) (us : List Value) (m : Nat) (mi : Int) (hmi : mi = (m : Int)) (w : World) (h : msgResultC.rep w (msgResultM a m) us) (hm : m + msgResultT a ≤ 1048577) :
    Calls Try.prog 25 #[.agg us.toArray, .int .i64 mi] w fun e w' => e = .returned (.int .i64 (mi + (msgResultT a : Int))) ∧ Below w.heap.size w w' := by
  subst hmi
  obtain ⟨us0, ts0, rfl, h0, h1⟩ := h
  have e0 : us0 = [Value.int .i64 (msgResultM a m).1] := h0
  subst e0
  replace h1 : msgC.rep w (msgM a.2 m) _ := h1
  obtain ⟨p2_2, q2_2, e1, -⟩ := msg_rep h1
  subst e1
  have A := Arr.new w [.int .i64 (msgResultM a m).1, .int .i64 (msgM a.2 m).1, .slice p2_2 (msgM a.2 m).2.length q2_2] 35
  have BW := alloc_below w (.cells #[.int .i64 (msgResultM a m).1, .int .i64 (msgM a.2 m).1, .slice p2_2 (msgM a.2 m).2.length q2_2] 35)
  replace h1 := msgC.keep h1 BW
  have hT : Hid (m + (msgT a.2) ≤ 1048577) := hm
  clear hm
  go_enter Try.func25, Try.ntmps25
  go_wp2_with fail
  refine (heldMsg_k a.2 _ m _ (by first | rfl | simp | (simp; omega) | (push_cast; omega)) _ h1 (by have := hT.out; omega)).mono ?_
  rintro e w1 ⟨rfl, hb⟩
  replace A := A.stay hb
  replace BW := Below.step BW hb
  replace h1 := msgC.keep h1 hb
  have ca0 := A.cell 0
  have ca1 := A.cell 1
  have ca2 := A.cell 2
  simp at ca0 ca1 ca2
  clear hb
  go_wp2
  go_ret
  exact ⟨by unfold msgResultT; simp; try omega, BW⟩

end Go.Proofs.Ytpbkncliepkhaaa

