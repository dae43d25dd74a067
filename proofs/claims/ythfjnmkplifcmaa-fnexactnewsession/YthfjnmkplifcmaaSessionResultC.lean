/- How SessionResult lies in memory, and the contracts of the laws' helpers on it (written by tools/codgen.py). -/
import Derived.Test.YthfjnmkplifcmaaCodK
import Derived.Test.YthfjnmkplifcmaaSessionC
namespace Go.Proofs.Ythfjnmkplifcmaa
open Go.ChangeShapes Go.WideShapes Go.ChangeAt Go.RowKit

abbrev SessionResultD := Int × Int × SessionD
def sessionResultC : Cod SessionResultD := prodC (intC .i64) (prodC (intC .i64) sessionC)
theorem sessionResult_rep {w : World} {a : SessionResultD} {vs : List Value} (h : sessionResultC.rep w a vs) : ∃ p3_1 q3_1 p3_3 q3_3 p3_4 q3_4 p3_5 q3_5, vs = [.int .i64 a.1, .int .i64 a.2.1, .slice p3_1 a.2.2.1.length q3_1, .int .i64 a.2.2.2.1, .slice p3_3 a.2.2.2.2.1.length q3_3, .slice p3_4 a.2.2.2.2.2.1.length q3_4, .slice p3_5 a.2.2.2.2.2.2.length q3_5] ∧ Rd w p3_1 q3_1 a.2.2.1 ∧ RdL bytC w p3_3 q3_3 a.2.2.2.2.1 ∧ RdL bytC w p3_4 q3_4 a.2.2.2.2.2.1 ∧ RdL holdC w p3_5 q3_5 a.2.2.2.2.2.2 := by
  obtain ⟨us0, ts0, rfl, h0, us1, ts1, rfl, h1, h2⟩ := h
  have e0 : us0 = [Value.int .i64 _] := h0
  subst e0
  have e1 : us1 = [Value.int .i64 _] := h1
  subst e1
  obtain ⟨p3_1, q3_1, p3_3, q3_3, p3_4, q3_4, p3_5, q3_5, rfl, r3_1, r3_3, r3_4, r3_5⟩ := session_rep h2
  exact ⟨p3_1, q3_1, p3_3, q3_3, p3_4, q3_4, p3_5, q3_5, rfl, r3_1, r3_3, r3_4, r3_5⟩
theorem sessionResult_mk {w : World} {a : SessionResultD} {p3_1 : Option Addr} {q3_1 : Nat} {p3_3 : Option Addr} {q3_3 : Nat} {p3_4 : Option Addr} {q3_4 : Nat} {p3_5 : Option Addr} {q3_5 : Nat} (r3_1 : Rd w p3_1 q3_1 a.2.2.1) (r3_3 : RdL bytC w p3_3 q3_3 a.2.2.2.2.1) (r3_4 : RdL bytC w p3_4 q3_4 a.2.2.2.2.2.1) (r3_5 : RdL holdC w p3_5 q3_5 a.2.2.2.2.2.2) : sessionResultC.rep w a [.int .i64 a.1, .int .i64 a.2.1, .slice p3_1 a.2.2.1.length q3_1, .int .i64 a.2.2.2.1, .slice p3_3 a.2.2.2.2.1.length q3_3, .slice p3_4 a.2.2.2.2.2.1.length q3_4, .slice p3_5 a.2.2.2.2.2.2.length q3_5] := ⟨[.int .i64 a.1], _, rfl, rfl, ⟨[.int .i64 a.2.1], _, rfl, rfl, (session_mk r3_1 r3_3 r3_4 r3_5)⟩⟩
def sessionResultT (a : SessionResultD) : Nat := sessionT a.2.2
def sessionResultM (a : SessionResultD) (m : Nat) : SessionResultD := (a.1, a.2.1, sessionM a.2.2 m)

def sessionResultN (a : SessionResultD) : Nat := sessionN a.2.2
theorem sessionResultT_le (a : SessionResultD) : sessionResultT a ≤ 8 * sessionResultN a := by
  have h2 := sessionT_le a.2.2
  unfold sessionResultT sessionResultN
  omega



set_option maxRecDepth 4000 in
set_option maxHeartbeats 1000000 in
theorem eqSessionResult_k (a : SessionResultD) (us vs : List Value) (w : World) (h1 : sessionResultC.rep w a us) (h2 : sessionResultC.rep w a vs) :
    Calls Try.prog 23 #[.agg us.toArray, .agg vs.toArray] w fun e w' => e = .returned (.bool true) ∧ Below w.heap.size w w' := by
  obtain ⟨p3_1, q3_1, p3_3, q3_3, p3_4, q3_4, p3_5, q3_5, rfl, r3_1, r3_3, r3_4, r3_5⟩ := sessionResult_rep h1
  obtain ⟨pb3_1, qb3_1, pb3_3, qb3_3, pb3_4, qb3_4, pb3_5, qb3_5, rfl, rb3_1, rb3_3, rb3_4, rb3_5⟩ := sessionResult_rep h2
  clear h1 h2
  have BW : Below w.heap.size w ((w.alloc (.cells #[.int .i64 a.1, .int .i64 a.2.1, .slice p3_1 a.2.2.1.length q3_1, .int .i64 a.2.2.2.1, .slice p3_3 a.2.2.2.2.1.length q3_3, .slice p3_4 a.2.2.2.2.2.1.length q3_4, .slice p3_5 a.2.2.2.2.2.2.length q3_5] 31)).alloc (.cells #[.int .i64 a.1, .int .i64 a.2.1, .slice pb3_1 a.2.2.1.length qb3_1, .int .i64 a.2.2.2.1, .slice pb3_3 a.2.2.2.2.1.length qb3_3, .slice pb3_4 a.2.2.2.2.2.1.length qb3_4, .slice pb3_5 a.2.2.2.2.2.2.length qb3_5] 31)) := Below.mk (alloc_below _ _) _
  have A : Arr ((w.alloc (.cells #[.int .i64 a.1, .int .i64 a.2.1, .slice p3_1 a.2.2.1.length q3_1, .int .i64 a.2.2.2.1, .slice p3_3 a.2.2.2.2.1.length q3_3, .slice p3_4 a.2.2.2.2.2.1.length q3_4, .slice p3_5 a.2.2.2.2.2.2.length q3_5] 31)).alloc (.cells #[.int .i64 a.1, .int .i64 a.2.1, .slice pb3_1 a.2.2.1.length qb3_1, .int .i64 a.2.2.2.1, .slice pb3_3 a.2.2.2.2.1.length qb3_3, .slice pb3_4 a.2.2.2.2.2.1.length qb3_4, .slice pb3_5 a.2.2.2.2.2.2.length qb3_5] 31)) w.heap.size 31 [.int .i64 a.1, .int .i64 a.2.1, .slice p3_1 a.2.2.1.length q3_1, .int .i64 a.2.2.2.1, .slice p3_3 a.2.2.2.2.1.length q3_3, .slice p3_4 a.2.2.2.2.2.1.length q3_4, .slice p3_5 a.2.2.2.2.2.2.length q3_5] := (Arr.new w [.int .i64 a.1, .int .i64 a.2.1, .slice p3_1 a.2.2.1.length q3_1, .int .i64 a.2.2.2.1, .slice p3_3 a.2.2.2.2.1.length q3_3, .slice p3_4 a.2.2.2.2.2.1.length q3_4, .slice p3_5 a.2.2.2.2.2.2.length q3_5] 31).old _ _
  have B : Arr ((w.alloc (.cells #[.int .i64 a.1, .int .i64 a.2.1, .slice p3_1 a.2.2.1.length q3_1, .int .i64 a.2.2.2.1, .slice p3_3 a.2.2.2.2.1.length q3_3, .slice p3_4 a.2.2.2.2.2.1.length q3_4, .slice p3_5 a.2.2.2.2.2.2.length q3_5] 31)).alloc (.cells #[.int .i64 a.1, .int .i64 a.2.1, .slice pb3_1 a.2.2.1.length qb3_1, .int .i64 a.2.2.2.1, .slice pb3_3 a.2.2.2.2.1.length qb3_3, .slice pb3_4 a.2.2.2.2.2.1.length qb3_4, .slice pb3_5 a.2.2.2.2.2.2.length qb3_5] 31)) (w.heap.size + 1) 31 [.int .i64 a.1, .int .i64 a.2.1, .slice pb3_1 a.2.2.1.length qb3_1, .int .i64 a.2.2.2.1, .slice pb3_3 a.2.2.2.2.1.length qb3_3, .slice pb3_4 a.2.2.2.2.2.1.length qb3_4, .slice pb3_5 a.2.2.2.2.2.2.length qb3_5] := by
    have h := Arr.new (w.alloc (.cells #[.int .i64 a.1, .int .i64 a.2.1, .slice p3_1 a.2.2.1.length q3_1, .int .i64 a.2.2.2.1, .slice p3_3 a.2.2.2.2.1.length q3_3, .slice p3_4 a.2.2.2.2.2.1.length q3_4, .slice p3_5 a.2.2.2.2.2.2.length q3_5] 31)) [.int .i64 a.1, .int .i64 a.2.1, .slice pb3_1 a.2.2.1.length qb3_1, .int .i64 a.2.2.2.1, .slice pb3_3 a.2.2.2.2.1.length qb3_3, .slice pb3_4 a.2.2.2.2.2.1.length qb3_4, .slice pb3_5 a.2.2.2.2.2.2.length qb3_5] 31
    rw [size_alloc] at h
    exact h
  replace r3_1 := r3_1.keep BW
  replace rb3_1 := rb3_1.keep BW
  replace r3_3 := r3_3.keep BW
  replace rb3_3 := rb3_3.keep BW
  replace r3_4 := r3_4.keep BW
  replace rb3_4 := rb3_4.keep BW
  replace r3_5 := r3_5.keep BW
  replace rb3_5 := rb3_5.keep BW
  go_enter Try.func23, Try.ntmps23
  go_wp2_with fail
  refine (eqSession_k a.2.2 _ _ _ (session_mk r3_1 r3_3 r3_4 r3_5) (session_mk rb3_1 rb3_3 rb3_4 rb3_5)).mono ?_
  rintro e w1 ⟨rfl, hb⟩
  replace A := A.stay hb
  replace B := B.stay hb
  replace BW := Below.step BW hb
  replace r3_1 := r3_1.keep hb
  replace rb3_1 := rb3_1.keep hb
  replace r3_3 := r3_3.keep hb
  replace rb3_3 := rb3_3.keep hb
  replace r3_4 := r3_4.keep hb
  replace rb3_4 := rb3_4.keep hb
  replace r3_5 := r3_5.keep hb
  replace rb3_5 := rb3_5.keep hb
  have ca0 := A.cell 0
  have cb0 := B.cell 0
  have ca1 := A.cell 1
  have cb1 := B.cell 1
  have ca2 := A.cell 2
  have cb2 := B.cell 2
  have ca3 := A.cell 3
  have cb3 := B.cell 3
  have ca4 := A.cell 4
  have cb4 := B.cell 4
  have ca5 := A.cell 5
  have cb5 := B.cell 5
  have ca6 := A.cell 6
  have cb6 := B.cell 6
  simp at ca0 cb0 ca1 cb1 ca2 cb2 ca3 cb3 ca4 cb4 ca5 cb5 ca6 cb6
  clear hb
  go_wp2
  go_ret
  exact ⟨rfl, BW⟩

set_option maxRecDepth 4000 in
set_option maxHeartbeats 1000000 in
theorem markSessionResult_k (a : SessionResultD) (us : List Value) (fp : List Nat) (B m : Nat) (mi : Int) (hmi : mi = (m : Int)) (w : World) (h : sessionResultC.own w B a us fp) (hm : m + sessionResultT a ≤ 1000000000) :
    Calls Try.prog 26 #[.agg us.toArray, .int .i64 mi] w fun e w' => e = .returned (.int .i64 (mi + (sessionResultT a : Int))) ∧ sessionResultC.own w' B (sessionResultM a m) us fp ∧ Only fp w w' := by
  subst hmi
  obtain ⟨us0, ts0, f0, g0, rfl, rfl, nd0, k0, us1, ts1, f1, g1, rfl, rfl, nd1, k1, k2⟩ := h
  obtain ⟨e0, ef0⟩ := k0
  subst e0 ef0
  obtain ⟨e1, ef1⟩ := k1
  subst e1 ef1
  obtain ⟨p3_1, q3_1, p3_3, q3_3, p3_4, q3_4, p3_5, q3_5, e2, -, -, -, -⟩ := session_rep (sessionC.toRep k2)
  subst e2
  have z2 : Hid (∀ x, x ∈ g1 → x < w.heap.size) := fun x hx => (sessionC.ins k2 x hx).2
  have s2 : Hid (∀ x, x ∈ g1 → x ∈ [] ++ ([] ++ g1)) := fun x hx => by simp [hx]
  have A := Arr.new w [.int .i64 a.1, .int .i64 a.2.1, .slice p3_1 a.2.2.1.length q3_1, .int .i64 a.2.2.2.1, .slice p3_3 a.2.2.2.2.1.length q3_3, .slice p3_4 a.2.2.2.2.2.1.length q3_4, .slice p3_5 a.2.2.2.2.2.2.length q3_5] 31
  have ON : Only ([] ++ ([] ++ g1)) w (w.alloc (.cells #[.int .i64 a.1, .int .i64 a.2.1, .slice p3_1 a.2.2.1.length q3_1, .int .i64 a.2.2.2.1, .slice p3_3 a.2.2.2.2.1.length q3_3, .slice p3_4 a.2.2.2.2.2.1.length q3_4, .slice p3_5 a.2.2.2.2.2.2.length q3_5] 31)) := Only.below (alloc_below _ _)
  replace k2 := sessionC.stay k2 (alloc_below _ (.cells #[.int .i64 a.1, .int .i64 a.2.1, .slice p3_1 a.2.2.1.length q3_1, .int .i64 a.2.2.2.1, .slice p3_3 a.2.2.2.2.1.length q3_3, .slice p3_4 a.2.2.2.2.2.1.length q3_4, .slice p3_5 a.2.2.2.2.2.2.length q3_5] 31))
  have ND0 : Hid _ := nd0
  have ND1 : Hid _ := nd1
  clear nd0 nd1
  have hT : Hid (m + (sessionT a.2.2) ≤ 1000000000) := hm
  clear hm
  go_enter Try.func26, Try.ntmps26
  go_wp2_with fail
  refine (markSession_k a.2.2 _ _ B m _ (by first | rfl | simp | (simp; omega) | (push_cast; omega)) _ k2 (by have := hT.out; omega)).mono ?_
  rintro e w1 ⟨rfl, k2, ho⟩
  replace A := A.only ho (fun h => Nat.lt_irrefl _ (z2.out _ h))
  replace ON := ON.trans_sub ho s2.out
  have ca0 := A.cell 0
  have ca1 := A.cell 1
  have ca2 := A.cell 2
  have ca3 := A.cell 3
  have ca4 := A.cell 4
  have ca5 := A.cell 5
  have ca6 := A.cell 6
  simp at ca0 ca1 ca2 ca3 ca4 ca5 ca6
  clear ho
  go_wp2
  go_ret
  exact ⟨by unfold sessionResultT; simp; try omega, ⟨_, _, [], _, rfl, rfl, ND0.out, ⟨rfl, rfl⟩, ⟨_, _, [], _, rfl, rfl, ND1.out, ⟨rfl, rfl⟩, k2⟩⟩, ON⟩

set_option maxRecDepth 4000 in
set_option maxHeartbeats 1000000 in
theorem heldSessionResult_k (a : SessionResultD) (us : List Value) (m : Nat) (mi : Int) (hmi : mi = (m : Int)) (w : World) (h : sessionResultC.rep w (sessionResultM a m) us) (hm : m + sessionResultT a ≤ 1048577) :
    Calls Try.prog 27 #[.agg us.toArray, .int .i64 mi] w fun e w' => e = .returned (.int .i64 (mi + (sessionResultT a : Int))) ∧ Below w.heap.size w w' := by
  subst hmi
  obtain ⟨us0, ts0, rfl, h0, us1, ts1, rfl, h1, h2⟩ := h
  have e0 : us0 = [Value.int .i64 (sessionResultM a m).1] := h0
  subst e0
  have e1 : us1 = [Value.int .i64 (sessionResultM a m).2.1] := h1
  subst e1
  replace h2 : sessionC.rep w (sessionM a.2.2 m) _ := h2
  obtain ⟨p3_1, q3_1, p3_3, q3_3, p3_4, q3_4, p3_5, q3_5, e2, -, -, -, -⟩ := session_rep h2
  subst e2
  have A := Arr.new w [.int .i64 (sessionResultM a m).1, .int .i64 (sessionResultM a m).2.1, .slice p3_1 (sessionM a.2.2 m).1.length q3_1, .int .i64 (sessionM a.2.2 m).2.1, .slice p3_3 (sessionM a.2.2 m).2.2.1.length q3_3, .slice p3_4 (sessionM a.2.2 m).2.2.2.1.length q3_4, .slice p3_5 (sessionM a.2.2 m).2.2.2.2.length q3_5] 31
  have BW := alloc_below w (.cells #[.int .i64 (sessionResultM a m).1, .int .i64 (sessionResultM a m).2.1, .slice p3_1 (sessionM a.2.2 m).1.length q3_1, .int .i64 (sessionM a.2.2 m).2.1, .slice p3_3 (sessionM a.2.2 m).2.2.1.length q3_3, .slice p3_4 (sessionM a.2.2 m).2.2.2.1.length q3_4, .slice p3_5 (sessionM a.2.2 m).2.2.2.2.length q3_5] 31)
  replace h2 := sessionC.keep h2 BW
  have hT : Hid (m + (sessionT a.2.2) ≤ 1048577) := hm
  clear hm
  go_enter Try.func27, Try.ntmps27
  go_wp2_with fail
  refine (heldSession_k a.2.2 _ m _ (by first | rfl | simp | (simp; omega) | (push_cast; omega)) _ h2 (by have := hT.out; omega)).mono ?_
  rintro e w1 ⟨rfl, hb⟩
  replace A := A.stay hb
  replace BW := Below.step BW hb
  replace h2 := sessionC.keep h2 hb
  have ca0 := A.cell 0
  have ca1 := A.cell 1
  have ca2 := A.cell 2
  have ca3 := A.cell 3
  have ca4 := A.cell 4
  have ca5 := A.cell 5
  have ca6 := A.cell 6
  simp at ca0 ca1 ca2 ca3 ca4 ca5 ca6
  clear hb
  go_wp2
  go_ret
  exact ⟨by unfold sessionResultT; simp; try omega, BW⟩

end Go.Proofs.Ythfjnmkplifcmaa

