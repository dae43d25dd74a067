import Derived.Test.YtiabacnmmojfjabGreatDoorJoint7
import Derived.Test.YtiabacnmmojfjabGreatDoorEndC
import Derived.Test.YtiabacnmmojfjabGreatDoorJoint9
namespace Go.Proofs.YtiabacnmmojfjabGreatDoor
open Go.ChangeShapes Go.WideShapes Go.ChangeAt Go.RowKit
abbrev EndResultD := Int × EndD × List MsgD
def endResultC : Cod EndResultD := prodC (intC .i64) (prodC endC msgsC)
theorem endResult_rep {w : World} {a : EndResultD} {vs : List Value} (h : endResultC.rep w a vs) : ∃ p2_1_2 q2_1_2 p2_1_4 q2_1_4 p2_4 q2_4 p2_5 q2_5 p2_6_1 q2_6_1 p2_6_2 q2_6_2 p2_6_3 q2_6_3 p2_6_4 q2_6_4 p3 q3, vs = [.int .i64 a.1, .int .i64 a.2.1.1.1, .slice p2_1_2 a.2.1.1.2.1.length q2_1_2, .int .i64 a.2.1.1.2.2.1, .slice p2_1_4 a.2.1.1.2.2.2.length q2_1_4, .int .i64 a.2.1.2.1, .int .i64 a.2.1.2.2.1, .slice p2_4 a.2.1.2.2.2.1.length q2_4, .slice p2_5 a.2.1.2.2.2.2.1.length q2_5, .slice p2_6_1 a.2.1.2.2.2.2.2.1.length q2_6_1, .slice p2_6_2 a.2.1.2.2.2.2.2.2.1.length q2_6_2, .slice p2_6_3 a.2.1.2.2.2.2.2.2.2.1.length q2_6_3, .slice p2_6_4 a.2.1.2.2.2.2.2.2.2.2.length q2_6_4, .slice p3 a.2.2.length q3] ∧ Rd w p2_1_2 q2_1_2 a.2.1.1.2.1 ∧ Rd w p2_1_4 q2_1_4 a.2.1.1.2.2.2 ∧ RdL msgC w p2_4 q2_4 a.2.1.2.2.2.1 ∧ Rd w p2_5 q2_5 a.2.1.2.2.2.2.1 ∧ Rd w p2_6_1 q2_6_1 a.2.1.2.2.2.2.2.1 ∧ Rd w p2_6_2 q2_6_2 a.2.1.2.2.2.2.2.2.1 ∧ Rd w p2_6_3 q2_6_3 a.2.1.2.2.2.2.2.2.2.1 ∧ Rd w p2_6_4 q2_6_4 a.2.1.2.2.2.2.2.2.2.2 ∧ RdL msgC w p3 q3 a.2.2 := by
 obtain ⟨us0, ts0, rfl, h0, us1, ts1, rfl, h1, h2⟩ := h
 have e0 : us0 = [Value.int .i64 _] := h0
 subst e0
 obtain ⟨p2_1_2, q2_1_2, p2_1_4, q2_1_4, p2_4, q2_4, p2_5, q2_5, p2_6_1, q2_6_1, p2_6_2, q2_6_2, p2_6_3, q2_6_3, p2_6_4, q2_6_4, rfl, r2_1_2, r2_1_4, r2_4, r2_5, r2_6_1, r2_6_2, r2_6_3, r2_6_4⟩ := end_rep h1
 obtain ⟨p3, q3, rfl, r3⟩ := h2
 exact ⟨p2_1_2, q2_1_2, p2_1_4, q2_1_4, p2_4, q2_4, p2_5, q2_5, p2_6_1, q2_6_1, p2_6_2, q2_6_2, p2_6_3, q2_6_3, p2_6_4, q2_6_4, p3, q3, rfl, r2_1_2, r2_1_4, r2_4, r2_5, r2_6_1, r2_6_2, r2_6_3, r2_6_4, r3⟩
def endResultT (a : EndResultD) : Nat := endT a.2.1 + bulkM a.2.2
def endResultM (a : EndResultD) (m : Nat) : EndResultD := (a.1, endM a.2.1 m, mkM a.2.2 (m + endT a.2.1))
set_option maxRecDepth 4000 in
set_option maxHeartbeats 1000000 in
theorem eqEndResult_k (a : EndResultD) (us vs : List Value) (w : World) (h1 : endResultC.rep w a us) (h2 : endResultC.rep w a vs) :
  Calls Tryz.prog 12 #[.agg us.toArray, .agg vs.toArray] w fun e w' => e = .returned (.bool true) ∧ Below w.heap.size w w' := by
 obtain ⟨p2_1_2, q2_1_2, p2_1_4, q2_1_4, p2_4, q2_4, p2_5, q2_5, p2_6_1, q2_6_1, p2_6_2, q2_6_2, p2_6_3, q2_6_3, p2_6_4, q2_6_4, p3, q3, rfl, r2_1_2, r2_1_4, r2_4, r2_5, r2_6_1, r2_6_2, r2_6_3, r2_6_4, r3⟩ := endResult_rep h1
 obtain ⟨pb2_1_2, qb2_1_2, pb2_1_4, qb2_1_4, pb2_4, qb2_4, pb2_5, qb2_5, pb2_6_1, qb2_6_1, pb2_6_2, qb2_6_2, pb2_6_3, qb2_6_3, pb2_6_4, qb2_6_4, pb3, qb3, rfl, rb2_1_2, rb2_1_4, rb2_4, rb2_5, rb2_6_1, rb2_6_2, rb2_6_3, rb2_6_4, rb3⟩ := endResult_rep h2
 clear h1 h2
 have BW : Below w.heap.size w ((w.alloc (.cells #[.int .i64 a.1, .int .i64 a.2.1.1.1, .slice p2_1_2 a.2.1.1.2.1.length q2_1_2, .int .i64 a.2.1.1.2.2.1, .slice p2_1_4 a.2.1.1.2.2.2.length q2_1_4, .int .i64 a.2.1.2.1, .int .i64 a.2.1.2.2.1, .slice p2_4 a.2.1.2.2.2.1.length q2_4, .slice p2_5 a.2.1.2.2.2.2.1.length q2_5, .slice p2_6_1 a.2.1.2.2.2.2.2.1.length q2_6_1, .slice p2_6_2 a.2.1.2.2.2.2.2.2.1.length q2_6_2, .slice p2_6_3 a.2.1.2.2.2.2.2.2.2.1.length q2_6_3, .slice p2_6_4 a.2.1.2.2.2.2.2.2.2.2.length q2_6_4, .slice p3 a.2.2.length q3] 38)).alloc (.cells #[.int .i64 a.1, .int .i64 a.2.1.1.1, .slice pb2_1_2 a.2.1.1.2.1.length qb2_1_2, .int .i64 a.2.1.1.2.2.1, .slice pb2_1_4 a.2.1.1.2.2.2.length qb2_1_4, .int .i64 a.2.1.2.1, .int .i64 a.2.1.2.2.1, .slice pb2_4 a.2.1.2.2.2.1.length qb2_4, .slice pb2_5 a.2.1.2.2.2.2.1.length qb2_5, .slice pb2_6_1 a.2.1.2.2.2.2.2.1.length qb2_6_1, .slice pb2_6_2 a.2.1.2.2.2.2.2.2.1.length qb2_6_2, .slice pb2_6_3 a.2.1.2.2.2.2.2.2.2.1.length qb2_6_3, .slice pb2_6_4 a.2.1.2.2.2.2.2.2.2.2.length qb2_6_4, .slice pb3 a.2.2.length qb3] 38)) := Below.mk (alloc_below _ _) _
 have A : Arr ((w.alloc (.cells #[.int .i64 a.1, .int .i64 a.2.1.1.1, .slice p2_1_2 a.2.1.1.2.1.length q2_1_2, .int .i64 a.2.1.1.2.2.1, .slice p2_1_4 a.2.1.1.2.2.2.length q2_1_4, .int .i64 a.2.1.2.1, .int .i64 a.2.1.2.2.1, .slice p2_4 a.2.1.2.2.2.1.length q2_4, .slice p2_5 a.2.1.2.2.2.2.1.length q2_5, .slice p2_6_1 a.2.1.2.2.2.2.2.1.length q2_6_1, .slice p2_6_2 a.2.1.2.2.2.2.2.2.1.length q2_6_2, .slice p2_6_3 a.2.1.2.2.2.2.2.2.2.1.length q2_6_3, .slice p2_6_4 a.2.1.2.2.2.2.2.2.2.2.length q2_6_4, .slice p3 a.2.2.length q3] 38)).alloc (.cells #[.int .i64 a.1, .int .i64 a.2.1.1.1, .slice pb2_1_2 a.2.1.1.2.1.length qb2_1_2, .int .i64 a.2.1.1.2.2.1, .slice pb2_1_4 a.2.1.1.2.2.2.length qb2_1_4, .int .i64 a.2.1.2.1, .int .i64 a.2.1.2.2.1, .slice pb2_4 a.2.1.2.2.2.1.length qb2_4, .slice pb2_5 a.2.1.2.2.2.2.1.length qb2_5, .slice pb2_6_1 a.2.1.2.2.2.2.2.1.length qb2_6_1, .slice pb2_6_2 a.2.1.2.2.2.2.2.2.1.length qb2_6_2, .slice pb2_6_3 a.2.1.2.2.2.2.2.2.2.1.length qb2_6_3, .slice pb2_6_4 a.2.1.2.2.2.2.2.2.2.2.length qb2_6_4, .slice pb3 a.2.2.length qb3] 38)) w.heap.size 38 [.int .i64 a.1, .int .i64 a.2.1.1.1, .slice p2_1_2 a.2.1.1.2.1.length q2_1_2, .int .i64 a.2.1.1.2.2.1, .slice p2_1_4 a.2.1.1.2.2.2.length q2_1_4, .int .i64 a.2.1.2.1, .int .i64 a.2.1.2.2.1, .slice p2_4 a.2.1.2.2.2.1.length q2_4, .slice p2_5 a.2.1.2.2.2.2.1.length q2_5, .slice p2_6_1 a.2.1.2.2.2.2.2.1.length q2_6_1, .slice p2_6_2 a.2.1.2.2.2.2.2.2.1.length q2_6_2, .slice p2_6_3 a.2.1.2.2.2.2.2.2.2.1.length q2_6_3, .slice p2_6_4 a.2.1.2.2.2.2.2.2.2.2.length q2_6_4, .slice p3 a.2.2.length q3] := (Arr.new w [.int .i64 a.1, .int .i64 a.2.1.1.1, .slice p2_1_2 a.2.1.1.2.1.length q2_1_2, .int .i64 a.2.1.1.2.2.1, .slice p2_1_4 a.2.1.1.2.2.2.length q2_1_4, .int .i64 a.2.1.2.1, .int .i64 a.2.1.2.2.1, .slice p2_4 a.2.1.2.2.2.1.length q2_4, .slice p2_5 a.2.1.2.2.2.2.1.length q2_5, .slice p2_6_1 a.2.1.2.2.2.2.2.1.length q2_6_1, .slice p2_6_2 a.2.1.2.2.2.2.2.2.1.length q2_6_2, .slice p2_6_3 a.2.1.2.2.2.2.2.2.2.1.length q2_6_3, .slice p2_6_4 a.2.1.2.2.2.2.2.2.2.2.length q2_6_4, .slice p3 a.2.2.length q3] 38).old _ _
 have B : Arr ((w.alloc (.cells #[.int .i64 a.1, .int .i64 a.2.1.1.1, .slice p2_1_2 a.2.1.1.2.1.length q2_1_2, .int .i64 a.2.1.1.2.2.1, .slice p2_1_4 a.2.1.1.2.2.2.length q2_1_4, .int .i64 a.2.1.2.1, .int .i64 a.2.1.2.2.1, .slice p2_4 a.2.1.2.2.2.1.length q2_4, .slice p2_5 a.2.1.2.2.2.2.1.length q2_5, .slice p2_6_1 a.2.1.2.2.2.2.2.1.length q2_6_1, .slice p2_6_2 a.2.1.2.2.2.2.2.2.1.length q2_6_2, .slice p2_6_3 a.2.1.2.2.2.2.2.2.2.1.length q2_6_3, .slice p2_6_4 a.2.1.2.2.2.2.2.2.2.2.length q2_6_4, .slice p3 a.2.2.length q3] 38)).alloc (.cells #[.int .i64 a.1, .int .i64 a.2.1.1.1, .slice pb2_1_2 a.2.1.1.2.1.length qb2_1_2, .int .i64 a.2.1.1.2.2.1, .slice pb2_1_4 a.2.1.1.2.2.2.length qb2_1_4, .int .i64 a.2.1.2.1, .int .i64 a.2.1.2.2.1, .slice pb2_4 a.2.1.2.2.2.1.length qb2_4, .slice pb2_5 a.2.1.2.2.2.2.1.length qb2_5, .slice pb2_6_1 a.2.1.2.2.2.2.2.1.length qb2_6_1, .slice pb2_6_2 a.2.1.2.2.2.2.2.2.1.length qb2_6_2, .slice pb2_6_3 a.2.1.2.2.2.2.2.2.2.1.length qb2_6_3, .slice pb2_6_4 a.2.1.2.2.2.2.2.2.2.2.length qb2_6_4, .slice pb3 a.2.2.length qb3] 38)) (w.heap.size + 1) 38 [.int .i64 a.1, .int .i64 a.2.1.1.1, .slice pb2_1_2 a.2.1.1.2.1.length qb2_1_2, .int .i64 a.2.1.1.2.2.1, .slice pb2_1_4 a.2.1.1.2.2.2.length qb2_1_4, .int .i64 a.2.1.2.1, .int .i64 a.2.1.2.2.1, .slice pb2_4 a.2.1.2.2.2.1.length qb2_4, .slice pb2_5 a.2.1.2.2.2.2.1.length qb2_5, .slice pb2_6_1 a.2.1.2.2.2.2.2.1.length qb2_6_1, .slice pb2_6_2 a.2.1.2.2.2.2.2.2.1.length qb2_6_2, .slice pb2_6_3 a.2.1.2.2.2.2.2.2.2.1.length qb2_6_3, .slice pb2_6_4 a.2.1.2.2.2.2.2.2.2.2.length qb2_6_4, .slice pb3 a.2.2.length qb3] := by
  have h := Arr.new (w.alloc (.cells #[.int .i64 a.1, .int .i64 a.2.1.1.1, .slice p2_1_2 a.2.1.1.2.1.length q2_1_2, .int .i64 a.2.1.1.2.2.1, .slice p2_1_4 a.2.1.1.2.2.2.length q2_1_4, .int .i64 a.2.1.2.1, .int .i64 a.2.1.2.2.1, .slice p2_4 a.2.1.2.2.2.1.length q2_4, .slice p2_5 a.2.1.2.2.2.2.1.length q2_5, .slice p2_6_1 a.2.1.2.2.2.2.2.1.length q2_6_1, .slice p2_6_2 a.2.1.2.2.2.2.2.2.1.length q2_6_2, .slice p2_6_3 a.2.1.2.2.2.2.2.2.2.1.length q2_6_3, .slice p2_6_4 a.2.1.2.2.2.2.2.2.2.2.length q2_6_4, .slice p3 a.2.2.length q3] 38)) [.int .i64 a.1, .int .i64 a.2.1.1.1, .slice pb2_1_2 a.2.1.1.2.1.length qb2_1_2, .int .i64 a.2.1.1.2.2.1, .slice pb2_1_4 a.2.1.1.2.2.2.length qb2_1_4, .int .i64 a.2.1.2.1, .int .i64 a.2.1.2.2.1, .slice pb2_4 a.2.1.2.2.2.1.length qb2_4, .slice pb2_5 a.2.1.2.2.2.2.1.length qb2_5, .slice pb2_6_1 a.2.1.2.2.2.2.2.1.length qb2_6_1, .slice pb2_6_2 a.2.1.2.2.2.2.2.2.1.length qb2_6_2, .slice pb2_6_3 a.2.1.2.2.2.2.2.2.2.1.length qb2_6_3, .slice pb2_6_4 a.2.1.2.2.2.2.2.2.2.2.length qb2_6_4, .slice pb3 a.2.2.length qb3] 38
  rw [size_alloc] at h
  exact h
 replace r2_1_2 := r2_1_2.keep BW
 replace rb2_1_2 := rb2_1_2.keep BW
 replace r2_1_4 := r2_1_4.keep BW
 replace rb2_1_4 := rb2_1_4.keep BW
 replace r2_4 := r2_4.keep BW
 replace rb2_4 := rb2_4.keep BW
 replace r2_5 := r2_5.keep BW
 replace rb2_5 := rb2_5.keep BW
 replace r2_6_1 := r2_6_1.keep BW
 replace rb2_6_1 := rb2_6_1.keep BW
 replace r2_6_2 := r2_6_2.keep BW
 replace rb2_6_2 := rb2_6_2.keep BW
 replace r2_6_3 := r2_6_3.keep BW
 replace rb2_6_3 := rb2_6_3.keep BW
 replace r2_6_4 := r2_6_4.keep BW
 replace rb2_6_4 := rb2_6_4.keep BW
 replace r3 := r3.keep BW
 replace rb3 := rb3.keep BW
 go_enter Tryz.func12, Tryz.ntmps12
 go_wp2_with fail
 refine (eqEnd_k a.2.1 _ _ _ (end_mk r2_1_2 r2_1_4 r2_4 r2_5 r2_6_1 r2_6_2 r2_6_3 r2_6_4) (end_mk rb2_1_2 rb2_1_4 rb2_4 rb2_5 rb2_6_1 rb2_6_2 rb2_6_3 rb2_6_4)).mono ?_
 rintro e w1 ⟨rfl, hb⟩
 replace A := A.stay hb
 replace B := B.stay hb
 replace BW := Below.step BW hb
 replace r2_1_2 := r2_1_2.keep hb
 replace rb2_1_2 := rb2_1_2.keep hb
 replace r2_1_4 := r2_1_4.keep hb
 replace rb2_1_4 := rb2_1_4.keep hb
 replace r2_4 := r2_4.keep hb
 replace rb2_4 := rb2_4.keep hb
 replace r2_5 := r2_5.keep hb
 replace rb2_5 := rb2_5.keep hb
 replace r2_6_1 := r2_6_1.keep hb
 replace rb2_6_1 := rb2_6_1.keep hb
 replace r2_6_2 := r2_6_2.keep hb
 replace rb2_6_2 := rb2_6_2.keep hb
 replace r2_6_3 := r2_6_3.keep hb
 replace rb2_6_3 := rb2_6_3.keep hb
 replace r2_6_4 := r2_6_4.keep hb
 replace rb2_6_4 := rb2_6_4.keep hb
 replace r3 := r3.keep hb
 replace rb3 := rb3.keep hb
 have ca0 := A.cell 0
 have cb0 := B.cell 0
 have ca1 := A.cell 1
 have cb1 := B.cell 1
 have ca2 := A.cell 2
 have cb2 := B.cell 2
 have ca3 := A.cell 3
 have cb3 := B.cell 3
 have ca4 := A.cell 4
 have cb4 := B.cell 4
 have ca5 := A.cell 5
 have cb5 := B.cell 5
 have ca6 := A.cell 6
 have cb6 := B.cell 6
 have ca7 := A.cell 7
 have cb7 := B.cell 7
 have ca8 := A.cell 8
 have cb8 := B.cell 8
 have ca9 := A.cell 9
 have cb9 := B.cell 9
 have ca10 := A.cell 10
 have cb10 := B.cell 10
 have ca11 := A.cell 11
 have cb11 := B.cell 11
 have ca12 := A.cell 12
 have cb12 := B.cell 12
 have ca13 := A.cell 13
 have cb13 := B.cell 13
 simp at ca0 cb0 ca1 cb1 ca2 cb2 ca3 cb3 ca4 cb4 ca5 cb5 ca6 cb6 ca7 cb7 ca8 cb8 ca9 cb9 ca10 cb10 ca11 cb11 ca12 cb12 ca13 cb13
 clear hb
 go_wp2_with fail
 refine (eqMsgS_c a.2.2 p3 pb3 q3 qb3 _ r3 rb3).mono ?_
 rintro e w2 ⟨rfl, hb⟩
 replace A := A.stay hb
 replace B := B.stay hb
 replace BW := Below.step BW hb
 replace r2_1_2 := r2_1_2.keep hb
 replace rb2_1_2 := rb2_1_2.keep hb
 replace r2_1_4 := r2_1_4.keep hb
 replace rb2_1_4 := rb2_1_4.keep hb
 replace r2_4 := r2_4.keep hb
 replace rb2_4 := rb2_4.keep hb
 replace r2_5 := r2_5.keep hb
 replace rb2_5 := rb2_5.keep hb
 replace r2_6_1 := r2_6_1.keep hb
 replace rb2_6_1 := rb2_6_1.keep hb
 replace r2_6_2 := r2_6_2.keep hb
 replace rb2_6_2 := rb2_6_2.keep hb
 replace r2_6_3 := r2_6_3.keep hb
 replace rb2_6_3 := rb2_6_3.keep hb
 replace r2_6_4 := r2_6_4.keep hb
 replace rb2_6_4 := rb2_6_4.keep hb
 replace r3 := r3.keep hb
 replace rb3 := rb3.keep hb
 have ca0 := A.cell 0
 have cb0 := B.cell 0
 have ca1 := A.cell 1
 have cb1 := B.cell 1
 have ca2 := A.cell 2
 have cb2 := B.cell 2
 have ca3 := A.cell 3
 have cb3 := B.cell 3
 have ca4 := A.cell 4
 have cb4 := B.cell 4
 have ca5 := A.cell 5
 have cb5 := B.cell 5
 have ca6 := A.cell 6
 have cb6 := B.cell 6
 have ca7 := A.cell 7
 have cb7 := B.cell 7
 have ca8 := A.cell 8
 have cb8 := B.cell 8
 have ca9 := A.cell 9
 have cb9 := B.cell 9
 have ca10 := A.cell 10
 have cb10 := B.cell 10
 have ca11 := A.cell 11
 have cb11 := B.cell 11
 have ca12 := A.cell 12
 have cb12 := B.cell 12
 have ca13 := A.cell 13
 have cb13 := B.cell 13
 simp at ca0 cb0 ca1 cb1 ca2 cb2 ca3 cb3 ca4 cb4 ca5 cb5 ca6 cb6 ca7 cb7 ca8 cb8 ca9 cb9 ca10 cb10 ca11 cb11 ca12 cb12 ca13 cb13
 clear hb
 go_wp2
 go_ret
 exact ⟨rfl, BW⟩
set_option maxRecDepth 4000 in
set_option maxHeartbeats 1000000 in
theorem markEndResult_k (a : EndResultD) (us : List Value) (fp : List Nat) (B m : Nat) (mi : Int) (hmi : mi = (m : Int)) (w : World) (h : endResultC.own w B a us fp) (hm : m + endResultT a ≤ 1000000000) :
  Calls Tryz.prog 17 #[.agg us.toArray, .int .i64 mi] w fun e w' => e = .returned (.int .i64 (mi + (endResultT a : Int))) ∧ endResultC.own w' B (endResultM a m) us fp ∧ Only fp w w' := by
 subst hmi
 obtain ⟨us0, ts0, f0, g0, rfl, rfl, nd0, k0, us1, ts1, f1, g1, rfl, rfl, nd1, k1, k2⟩ := h
 obtain ⟨e0, ef0⟩ := k0
 subst e0 ef0
 obtain ⟨p2_1_2, q2_1_2, p2_1_4, q2_1_4, p2_4, q2_4, p2_5, q2_5, p2_6_1, q2_6_1, p2_6_2, q2_6_2, p2_6_3, q2_6_3, p2_6_4, q2_6_4, e1, -, -, -, -, -, -, -, -⟩ := end_rep (endC.toRep k1)
 subst e1
 obtain ⟨p3, q3, e2, -⟩ := msgsC.toRep k2
 subst e2
 have z1 : Hid (∀ x, x ∈ f1 → x < w.heap.size) := fun x hx => (endC.ins k1 x hx).2
 have z2 : Hid (∀ x, x ∈ g1 → x < w.heap.size) := fun x hx => (msgsC.ins k2 x hx).2
 have d1_2 : Hid (∀ x, x ∈ f1 → x ∉ g1) := fun x h1 h2 => nodup_apart nd1 x h1 (by simp [h2])
 have s1 : Hid (∀ x, x ∈ f1 → x ∈ [] ++ (f1 ++ g1)) := fun x hx => by simp [hx]
 have s2 : Hid (∀ x, x ∈ g1 → x ∈ [] ++ (f1 ++ g1)) := fun x hx => by simp [hx]
 have A := Arr.new w [.int .i64 a.1, .int .i64 a.2.1.1.1, .slice p2_1_2 a.2.1.1.2.1.length q2_1_2, .int .i64 a.2.1.1.2.2.1, .slice p2_1_4 a.2.1.1.2.2.2.length q2_1_4, .int .i64 a.2.1.2.1, .int .i64 a.2.1.2.2.1, .slice p2_4 a.2.1.2.2.2.1.length q2_4, .slice p2_5 a.2.1.2.2.2.2.1.length q2_5, .slice p2_6_1 a.2.1.2.2.2.2.2.1.length q2_6_1, .slice p2_6_2 a.2.1.2.2.2.2.2.2.1.length q2_6_2, .slice p2_6_3 a.2.1.2.2.2.2.2.2.2.1.length q2_6_3, .slice p2_6_4 a.2.1.2.2.2.2.2.2.2.2.length q2_6_4, .slice p3 a.2.2.length q3] 38
 have ON : Only ([] ++ (f1 ++ g1)) w (w.alloc (.cells #[.int .i64 a.1, .int .i64 a.2.1.1.1, .slice p2_1_2 a.2.1.1.2.1.length q2_1_2, .int .i64 a.2.1.1.2.2.1, .slice p2_1_4 a.2.1.1.2.2.2.length q2_1_4, .int .i64 a.2.1.2.1, .int .i64 a.2.1.2.2.1, .slice p2_4 a.2.1.2.2.2.1.length q2_4, .slice p2_5 a.2.1.2.2.2.2.1.length q2_5, .slice p2_6_1 a.2.1.2.2.2.2.2.1.length q2_6_1, .slice p2_6_2 a.2.1.2.2.2.2.2.2.1.length q2_6_2, .slice p2_6_3 a.2.1.2.2.2.2.2.2.2.1.length q2_6_3, .slice p2_6_4 a.2.1.2.2.2.2.2.2.2.2.length q2_6_4, .slice p3 a.2.2.length q3] 38)) := Only.below (alloc_below _ _)
 replace k1 := endC.stay k1 (alloc_below _ (.cells #[.int .i64 a.1, .int .i64 a.2.1.1.1, .slice p2_1_2 a.2.1.1.2.1.length q2_1_2, .int .i64 a.2.1.1.2.2.1, .slice p2_1_4 a.2.1.1.2.2.2.length q2_1_4, .int .i64 a.2.1.2.1, .int .i64 a.2.1.2.2.1, .slice p2_4 a.2.1.2.2.2.1.length q2_4, .slice p2_5 a.2.1.2.2.2.2.1.length q2_5, .slice p2_6_1 a.2.1.2.2.2.2.2.1.length q2_6_1, .slice p2_6_2 a.2.1.2.2.2.2.2.2.1.length q2_6_2, .slice p2_6_3 a.2.1.2.2.2.2.2.2.2.1.length q2_6_3, .slice p2_6_4 a.2.1.2.2.2.2.2.2.2.2.length q2_6_4, .slice p3 a.2.2.length q3] 38))
 replace k2 := msgsC.stay k2 (alloc_below _ (.cells #[.int .i64 a.1, .int .i64 a.2.1.1.1, .slice p2_1_2 a.2.1.1.2.1.length q2_1_2, .int .i64 a.2.1.1.2.2.1, .slice p2_1_4 a.2.1.1.2.2.2.length q2_1_4, .int .i64 a.2.1.2.1, .int .i64 a.2.1.2.2.1, .slice p2_4 a.2.1.2.2.2.1.length q2_4, .slice p2_5 a.2.1.2.2.2.2.1.length q2_5, .slice p2_6_1 a.2.1.2.2.2.2.2.1.length q2_6_1, .slice p2_6_2 a.2.1.2.2.2.2.2.2.1.length q2_6_2, .slice p2_6_3 a.2.1.2.2.2.2.2.2.2.1.length q2_6_3, .slice p2_6_4 a.2.1.2.2.2.2.2.2.2.2.length q2_6_4, .slice p3 a.2.2.length q3] 38))
 have ND0 : Hid _ := nd0
 have ND1 : Hid _ := nd1
 clear nd0 nd1
 have hT : Hid (m + (endT a.2.1 + bulkM a.2.2) ≤ 1000000000) := hm
 clear hm
 go_enter Tryz.func17, Tryz.ntmps17
 go_wp2_with fail
 refine (markEnd_k a.2.1 _ _ B m _ (by first | rfl | simp | (simp; omega) | (push_cast; omega)) _ k1 (by have := hT.out; omega)).mono ?_
 rintro e w1 ⟨rfl, k1, ho⟩
 replace k2 := msgsC.other k2 ho (fun x h1 h2 => d1_2.out x h2 h1)
 replace A := A.only ho (fun h => Nat.lt_irrefl _ (z1.out _ h))
 replace ON := ON.trans_sub ho s1.out
 have ca0 := A.cell 0
 have ca1 := A.cell 1
 have ca2 := A.cell 2
 have ca3 := A.cell 3
 have ca4 := A.cell 4
 have ca5 := A.cell 5
 have ca6 := A.cell 6
 have ca7 := A.cell 7
 have ca8 := A.cell 8
 have ca9 := A.cell 9
 have ca10 := A.cell 10
 have ca11 := A.cell 11
 have ca12 := A.cell 12
 have ca13 := A.cell 13
 simp at ca0 ca1 ca2 ca3 ca4 ca5 ca6 ca7 ca8 ca9 ca10 ca11 ca12 ca13
 clear ho
 go_wp2_with fail
 refine (markMsgS_k a.2.2 _ _ B (m + endT a.2.1) _ (by first | rfl | simp | (simp; omega) | (push_cast; omega)) _ k2 (by have := hT.out; omega) (by have := hT.out; omega)).mono ?_
 rintro e w2 ⟨rfl, k2, ho⟩
 replace k1 := endC.other k1 ho (fun x h1 h2 => d1_2.out x h1 h2)
 replace A := A.only ho (fun h => Nat.lt_irrefl _ (z2.out _ h))
 replace ON := ON.trans_sub ho s2.out
 have ca0 := A.cell 0
 have ca1 := A.cell 1
 have ca2 := A.cell 2
 have ca3 := A.cell 3
 have ca4 := A.cell 4
 have ca5 := A.cell 5
 have ca6 := A.cell 6
 have ca7 := A.cell 7
 have ca8 := A.cell 8
 have ca9 := A.cell 9
 have ca10 := A.cell 10
 have ca11 := A.cell 11
 have ca12 := A.cell 12
 have ca13 := A.cell 13
 simp at ca0 ca1 ca2 ca3 ca4 ca5 ca6 ca7 ca8 ca9 ca10 ca11 ca12 ca13
 clear ho
 go_wp2
 go_ret
 exact ⟨by unfold endResultT; simp; try omega, ⟨_, _, [], _, rfl, rfl, ND0.out, ⟨rfl, rfl⟩, ⟨_, _, _, _, rfl, rfl, ND1.out, k1, k2⟩⟩, ON⟩
set_option maxRecDepth 4000 in
set_option maxHeartbeats 1000000 in
theorem heldEndResult_k (a : EndResultD) (us : List Value) (m : Nat) (mi : Int) (hmi : mi = (m : Int)) (w : World) (h : endResultC.rep w (endResultM a m) us) (hm : m + endResultT a ≤ 1048577) :
  Calls Tryz.prog 18 #[.agg us.toArray, .int .i64 mi] w fun e w' => e = .returned (.int .i64 (mi + (endResultT a : Int))) ∧ Below w.heap.size w w' := by
 subst hmi
 obtain ⟨us0, ts0, rfl, h0, us1, ts1, rfl, h1, h2⟩ := h
 have e0 : us0 = [Value.int .i64 (endResultM a m).1] := h0
 subst e0
 replace h1 : endC.rep w (endM a.2.1 m) _ := h1
 obtain ⟨p2_1_2, q2_1_2, p2_1_4, q2_1_4, p2_4, q2_4, p2_5, q2_5, p2_6_1, q2_6_1, p2_6_2, q2_6_2, p2_6_3, q2_6_3, p2_6_4, q2_6_4, e1, -, -, -, -, -, -, -, -⟩ := end_rep h1
 subst e1
 replace h2 : msgsC.rep w (mkM a.2.2 (m + endT a.2.1)) _ := h2
 obtain ⟨p3, q3, e2, -⟩ := id h2
 subst e2
 have A := Arr.new w [.int .i64 (endResultM a m).1, .int .i64 (endM a.2.1 m).1.1, .slice p2_1_2 (endM a.2.1 m).1.2.1.length q2_1_2, .int .i64 (endM a.2.1 m).1.2.2.1, .slice p2_1_4 (endM a.2.1 m).1.2.2.2.length q2_1_4, .int .i64 (endM a.2.1 m).2.1, .int .i64 (endM a.2.1 m).2.2.1, .slice p2_4 (endM a.2.1 m).2.2.2.1.length q2_4, .slice p2_5 (endM a.2.1 m).2.2.2.2.1.length q2_5, .slice p2_6_1 (endM a.2.1 m).2.2.2.2.2.1.length q2_6_1, .slice p2_6_2 (endM a.2.1 m).2.2.2.2.2.2.1.length q2_6_2, .slice p2_6_3 (endM a.2.1 m).2.2.2.2.2.2.2.1.length q2_6_3, .slice p2_6_4 (endM a.2.1 m).2.2.2.2.2.2.2.2.length q2_6_4, .slice p3 (mkM a.2.2 (m + endT a.2.1)).length q3] 38
 have BW := alloc_below w (.cells #[.int .i64 (endResultM a m).1, .int .i64 (endM a.2.1 m).1.1, .slice p2_1_2 (endM a.2.1 m).1.2.1.length q2_1_2, .int .i64 (endM a.2.1 m).1.2.2.1, .slice p2_1_4 (endM a.2.1 m).1.2.2.2.length q2_1_4, .int .i64 (endM a.2.1 m).2.1, .int .i64 (endM a.2.1 m).2.2.1, .slice p2_4 (endM a.2.1 m).2.2.2.1.length q2_4, .slice p2_5 (endM a.2.1 m).2.2.2.2.1.length q2_5, .slice p2_6_1 (endM a.2.1 m).2.2.2.2.2.1.length q2_6_1, .slice p2_6_2 (endM a.2.1 m).2.2.2.2.2.2.1.length q2_6_2, .slice p2_6_3 (endM a.2.1 m).2.2.2.2.2.2.2.1.length q2_6_3, .slice p2_6_4 (endM a.2.1 m).2.2.2.2.2.2.2.2.length q2_6_4, .slice p3 (mkM a.2.2 (m + endT a.2.1)).length q3] 38)
 replace h1 := endC.keep h1 BW
 replace h2 := msgsC.keep h2 BW
 have hT : Hid (m + (endT a.2.1 + bulkM a.2.2) ≤ 1048577) := hm
 clear hm
 go_enter Tryz.func18, Tryz.ntmps18
 go_wp2_with fail
 refine (heldEnd_k a.2.1 _ m _ (by first | rfl | simp | (simp; omega) | (push_cast; omega)) _ h1 (by have := hT.out; omega)).mono ?_
 rintro e w1 ⟨rfl, hb⟩
 replace A := A.stay hb
 replace BW := Below.step BW hb
 replace h1 := endC.keep h1 hb
 replace h2 := msgsC.keep h2 hb
 have ca0 := A.cell 0
 have ca1 := A.cell 1
 have ca2 := A.cell 2
 have ca3 := A.cell 3
 have ca4 := A.cell 4
 have ca5 := A.cell 5
 have ca6 := A.cell 6
 have ca7 := A.cell 7
 have ca8 := A.cell 8
 have ca9 := A.cell 9
 have ca10 := A.cell 10
 have ca11 := A.cell 11
 have ca12 := A.cell 12
 have ca13 := A.cell 13
 simp at ca0 ca1 ca2 ca3 ca4 ca5 ca6 ca7 ca8 ca9 ca10 ca11 ca12 ca13
 clear hb
 go_wp2_with fail
 refine (heldMsgS_k a.2.2 _ (m + endT a.2.1) _ (by first | rfl | simp | (simp; omega) | (push_cast; omega)) _ h2 (by have := hT.out; omega)).mono ?_
 rintro e w2 ⟨rfl, hb⟩
 replace A := A.stay hb
 replace BW := Below.step BW hb
 replace h1 := endC.keep h1 hb
 replace h2 := msgsC.keep h2 hb
 have ca0 := A.cell 0
 have ca1 := A.cell 1
 have ca2 := A.cell 2
 have ca3 := A.cell 3
 have ca4 := A.cell 4
 have ca5 := A.cell 5
 have ca6 := A.cell 6
 have ca7 := A.cell 7
 have ca8 := A.cell 8
 have ca9 := A.cell 9
 have ca10 := A.cell 10
 have ca11 := A.cell 11
 have ca12 := A.cell 12
 have ca13 := A.cell 13
 simp at ca0 ca1 ca2 ca3 ca4 ca5 ca6 ca7 ca8 ca9 ca10 ca11 ca12 ca13
 clear hb
 go_wp2
 go_ret
 exact ⟨by unfold endResultT; simp; try omega, BW⟩
end Go.Proofs.YtiabacnmmojfjabGreatDoor
