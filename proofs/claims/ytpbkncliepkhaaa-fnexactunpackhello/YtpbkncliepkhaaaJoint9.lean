/- How HelloResult lies in memory, and the contracts of the laws' helpers on it (written by tools/codgen.py). -/
import Derived.Test.YtpbkncliepkhaaaJoint8
import Derived.Test.YtpbkncliepkhaaaHelloC
import Derived.Test.YtpbkncliepkhaaaCopy
namespace Go.Proofs.Ytpbkncliepkhaaa
open Go.ChangeShapes Go.WideShapes Go.ChangeAt Go.RowKit

abbrev HelloResultD := Int × HelloD
def helloResultC : Cod HelloResultD := prodC (intC .i64) helloC
theorem helloResult_rep {w : World} {a : HelloResultD} {vs : List Value} (h : helloResultC.rep w a vs) : ∃ p2_1 q2_1, vs = [.int .i64 a.1, .slice p2_1 a.2.1.length q2_1, .int .i64 a.2.2.1, .int .i64 a.2.2.2] ∧ Rd w p2_1 q2_1 a.2.1 := by
  obtain ⟨us0, ts0, rfl, h0, h1⟩ := h
  have e0 : us0 = [Value.int .i64 _] := h0
  subst e0
  obtain ⟨p2_1, q2_1, rfl, r2_1⟩ := hello_rep h1
  exact ⟨p2_1, q2_1, rfl, r2_1⟩
theorem helloResult_mk {w : World} {a : HelloResultD} {p2_1 : Option Addr} {q2_1 : Nat} (r2_1 : Rd w p2_1 q2_1 a.2.1) : helloResultC.rep w a [.int .i64 a.1, .slice p2_1 a.2.1.length q2_1, .int .i64 a.2.2.1, .int .i64 a.2.2.2] := ⟨[.int .i64 a.1], _, rfl, rfl, (hello_mk r2_1)⟩
def helloResultT (a : HelloResultD) : Nat := helloT a.2
def helloResultM (a : HelloResultD) (m : Nat) : HelloResultD := (a.1, helloM a.2 m)

def helloResultN (a : HelloResultD) : Nat := helloN a.2
theorem helloResultT_le (a : HelloResultD) : helloResultT a ≤ 8 * helloResultN a := by
  have h1 := helloT_le a.2
  unfold helloResultT helloResultN
  omega



set_option maxRecDepth 4000 in
set_option maxHeartbeats 1000000 in
theorem eqHelloResult_k (a : HelloResultD) (us vs : List Value) (w : World) (h1 : helloResultC.rep w a us) (h2 : helloResultC.rep w a vs) :
    Calls Try.prog 28 #[.agg us.toArray, .agg vs.toArray] w fun e w' => e = .returned (.bool true) ∧ Below w.heap.size w w' := by
  obtain ⟨p2_1, q2_1, rfl, r2_1⟩ := helloResult_rep h1
  obtain ⟨pb2_1, qb2_1, rfl, rb2_1⟩ := helloResult_rep h2
  clear h1 h2
  have BW : Below w.heap.size w ((w.alloc (.cells #[.int .i64 a.1, .slice p2_1 a.2.1.length q2_1, .int .i64 a.2.2.1, .int .i64 a.2.2.2] 31)).alloc (.cells #[.int .i64 a.1, .slice pb2_1 a.2.1.length qb2_1, .int .i64 a.2.2.1, .int .i64 a.2.2.2] 31)) := Below.mk (alloc_below _ _) _
  have A : Arr ((w.alloc (.cells #[.int .i64 a.1, .slice p2_1 a.2.1.length q2_1, .int .i64 a.2.2.1, .int .i64 a.2.2.2] 31)).alloc (.cells #[.int .i64 a.1, .slice pb2_1 a.2.1.length qb2_1, .int .i64 a.2.2.1, .int .i64 a.2.2.2] 31)) w.heap.size 31 [.int .i64 a.1, .slice p2_1 a.2.1.length q2_1, .int .i64 a.2.2.1, .int .i64 a.2.2.2] := (Arr.new w [.int .i64 a.1, .slice p2_1 a.2.1.length q2_1, .int .i64 a.2.2.1, .int .i64 a.2.2.2] 31).old _ _
  have B : Arr ((w.alloc (.cells #[.int .i64 a.1, .slice p2_1 a.2.1.length q2_1, .int .i64 a.2.2.1, .int .i64 a.2.2.2] 31)).alloc (.cells #[.int .i64 a.1, .slice pb2_1 a.2.1.length qb2_1, .int .i64 a.2.2.1, .int .i64 a.2.2.2] 31)) (w.heap.size + 1) 31 [.int .i64 a.1, .slice pb2_1 a.2.1.length qb2_1, .int .i64 a.2.2.1, .int .i64 a.2.2.2] := by
    have h := Arr.new (w.alloc (.cells #[.int .i64 a.1, .slice p2_1 a.2.1.length q2_1, .int .i64 a.2.2.1, .int .i64 a.2.2.2] 31)) [.int .i64 a.1, .slice pb2_1 a.2.1.length qb2_1, .int .i64 a.2.2.1, .int .i64 a.2.2.2] 31
    rw [size_alloc] at h
    exact h
  replace r2_1 := r2_1.keep BW
  replace rb2_1 := rb2_1.keep BW
  go_enter Try.func28, Try.ntmps28
  go_wp2_with fail
  refine (eqHello_k a.2 _ _ _ (hello_mk r2_1) (hello_mk rb2_1)).mono ?_
  rintro e w1 ⟨rfl, hb⟩
  replace A := A.stay hb
  replace B := B.stay hb
  replace BW := Below.step BW hb
  replace r2_1 := r2_1.keep hb
  replace rb2_1 := rb2_1.keep hb
  have ca0 := A.cell 0
  have cb0 := B.cell 0
  have ca1 := A.cell 1
  have cb1 := B.cell 1
  have ca2 := A.cell 2
  have cb2 := B.cell 2
  have ca3 := A.cell 3
  have cb3 := B.cell 3
  simp at ca0 cb0 ca1 cb1 ca2 cb2 ca3 cb3
  clear hb
  go_wp2
  go_ret
  exact ⟨rfl, BW⟩

set_option maxRecDepth 4000 in
set_option maxHeartbeats 1000000 in
theorem markHelloResult_k (a : HelloResultD) (us : List Value) (fp : List Nat) (B m : Nat) (mi : Int) (hmi : mi = (m : Int)) (w : World) (h : helloResultC.own w B a us fp) (hm : m + helloResultT a ≤ 1000000000) :
    Calls Try.prog 31 #[.agg us.toArray, .int .i64 mi] w fun e w' => e = .returned (.int .i64 (mi + (helloResultT a : Int))) ∧ helloResultC.own w' B (helloResultM a m) us fp ∧ Only fp w w' := by
  subst hmi
  obtain ⟨us0, ts0, f0, g0, rfl, rfl, nd0, k0, k1⟩ := h
  obtain ⟨e0, ef0⟩ := k0
  subst e0 ef0
  obtain ⟨p2_1, q2_1, e1, -⟩ := hello_rep (helloC.toRep k1)
  subst e1
  have z1 : Hid (∀ x, x ∈ g0 → x < w.heap.size) := fun x hx => (helloC.ins k1 x hx).2
  have s1 : Hid (∀ x, x ∈ g0 → x ∈ [] ++ g0) := fun x hx => by simp [hx]
  have A := Arr.new w [.int .i64 a.1, .slice p2_1 a.2.1.length q2_1, .int .i64 a.2.2.1, .int .i64 a.2.2.2] 31
  have ON : Only ([] ++ g0) w (w.alloc (.cells #[.int .i64 a.1, .slice p2_1 a.2.1.length q2_1, .int .i64 a.2.2.1, .int .i64 a.2.2.2] 31)) := Only.below (alloc_below _ _)
  replace k1 := helloC.stay k1 (alloc_below _ (.cells #[.int .i64 a.1, .slice p2_1 a.2.1.length q2_1, .int .i64 a.2.2.1, .int .i64 a.2.2.2] 31))
  have ND0 : Hid _ := nd0
  clear nd0
  have hT : Hid (m + (helloT a.2) ≤ 1000000000) := hm
  clear hm
  go_enter Try.func31, Try.ntmps31
  go_wp2_with fail
  refine (markHello_k a.2 _ _ B m _ (by first | rfl | simp | (simp; omega) | (push_cast; omega)) _ k1 (by have := hT.out; omega)).mono ?_
  rintro e w1 ⟨rfl, k1, ho⟩
  replace A := A.only ho (fun h => Nat.lt_irrefl _ (z1.out _ h))
  replace ON := ON.trans_sub ho s1.out
  have ca0 := A.cell 0
  have ca1 := A.cell 1
  have ca2 := A.cell 2
  have ca3 := A.cell 3
  simp at ca0 ca1 ca2 ca3
  clear ho
  go_wp2
  go_ret
  exact ⟨by unfold helloResultT; simp; try omega, ⟨_, _, [], _, rfl, rfl, ND0.out, ⟨rfl, rfl⟩, k1⟩, ON⟩

set_option maxRecDepth 4000 in
set_option maxHeartbeats 1000000 in
theorem heldHelloResult_k (a : HelloResultD) (us : List Value) (m : Nat) (mi : Int) (hmi : mi = (m : Int)) (w : World) (h : helloResultC.rep w (helloResultM a m) us) (hm : m + helloResultT a ≤ 1048577) :
    Calls Try.prog 32 #[.agg us.toArray, .int .i64 mi] w fun e w' => e = .returned (.int .i64 (mi + (helloResultT a : Int))) ∧ Below w.heap.size w w' := by
  subst hmi
  obtain ⟨us0, ts0, rfl, h0, h1⟩ := h
  have e0 : us0 = [Value.int .i64 (helloResultM a m).1] := h0
  subst e0
  replace h1 : helloC.rep w (helloM a.2 m) _ := h1
  obtain ⟨p2_1, q2_1, e1, -⟩ := hello_rep h1
  subst e1
  have A := Arr.new w [.int .i64 (helloResultM a m).1, .slice p2_1 (helloM a.2 m).1.length q2_1, .int .i64 (helloM a.2 m).2.1, .int .i64 (helloM a.2 m).2.2] 31
  have BW := alloc_below w (.cells #[.int .i64 (helloResultM a m).1, .slice p2_1 (helloM a.2 m).1.length q2_1, .int .i64 (helloM a.2 m).2.1, .int .i64 (helloM a.2 m).2.2] 31)
  replace h1 := helloC.keep h1 BW
  have hT : Hid (m + (helloT a.2) ≤ 1048577) := hm
  clear hm
  go_enter Try.func32, Try.ntmps32
  go_wp2_with fail
  refine (heldHello_k a.2 _ m _ (by first | rfl | simp | (simp; omega) | (push_cast; omega)) _ h1 (by have := hT.out; omega)).mono ?_
  rintro e w1 ⟨rfl, hb⟩
  replace A := A.stay hb
  replace BW := Below.step BW hb
  replace h1 := helloC.keep h1 hb
  have ca0 := A.cell 0
  have ca1 := A.cell 1
  have ca2 := A.cell 2
  have ca3 := A.cell 3
  simp at ca0 ca1 ca2 ca3
  clear hb
  go_wp2
  go_ret
  exact ⟨by unfold helloResultT; simp; try omega, BW⟩

end Go.Proofs.Ytpbkncliepkhaaa

/- The contracts of the laws' helpers on BytesResult: eqBytesResult answers true at equal answers; markBytesResult lays marks into the answer's own row; heldBytesResult finds them. For at most 1048576 bytes. -/
namespace Go.Proofs.Ytpbkncliepkhaaa
open Go.ChangeShapes Go.WideShapes Go.ChangeAt Go.RowKit

end Go.Proofs.Ytpbkncliepkhaaa

