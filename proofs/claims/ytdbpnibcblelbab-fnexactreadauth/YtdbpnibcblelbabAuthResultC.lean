/- How AuthResult lies in memory, and the contracts of the laws' helpers on it (written by tools/codgen.py). -/
import Derived.Test.YtdbpnibcblelbabCodK
import Derived.Test.YtdbpnibcblelbabAuthC
namespace Go.Proofs.Ytdbpnibcblelbab
open Go.ChangeShapes Go.WideShapes Go.ChangeAt Go.RowKit

abbrev AuthResultD := Int × AuthD
def authResultC : Cod AuthResultD := prodC (intC .i64) authC
theorem authResult_rep {w : World} {a : AuthResultD} {vs : List Value} (h : authResultC.rep w a vs) : ∃ p2_1 q2_1 p2_4 q2_4, vs = [.int .i64 a.1, .slice p2_1 a.2.1.length q2_1, .int .i64 a.2.2.1.1, .int .i64 a.2.2.1.2.1, .int .i64 a.2.2.1.2.2, .int .i64 a.2.2.2.1, .slice p2_4 a.2.2.2.2.length q2_4] ∧ Rd w p2_1 q2_1 a.2.1 ∧ Rd w p2_4 q2_4 a.2.2.2.2 := by
  obtain ⟨us0, ts0, rfl, h0, h1⟩ := h
  have e0 : us0 = [Value.int .i64 _] := h0
  subst e0
  obtain ⟨p2_1, q2_1, p2_4, q2_4, rfl, r2_1, r2_4⟩ := auth_rep h1
  exact ⟨p2_1, q2_1, p2_4, q2_4, rfl, r2_1, r2_4⟩
theorem authResult_mk {w : World} {a : AuthResultD} {p2_1 : Option Addr} {q2_1 : Nat} {p2_4 : Option Addr} {q2_4 : Nat} (r2_1 : Rd w p2_1 q2_1 a.2.1) (r2_4 : Rd w p2_4 q2_4 a.2.2.2.2) : authResultC.rep w a [.int .i64 a.1, .slice p2_1 a.2.1.length q2_1, .int .i64 a.2.2.1.1, .int .i64 a.2.2.1.2.1, .int .i64 a.2.2.1.2.2, .int .i64 a.2.2.2.1, .slice p2_4 a.2.2.2.2.length q2_4] := ⟨[.int .i64 a.1], _, rfl, rfl, (auth_mk r2_1 r2_4)⟩
def authResultT (a : AuthResultD) : Nat := authT a.2
def authResultM (a : AuthResultD) (m : Nat) : AuthResultD := (a.1, authM a.2 m)

def authResultN (a : AuthResultD) : Nat := authN a.2
theorem authResultT_le (a : AuthResultD) : authResultT a ≤ 8 * authResultN a := by
  have h1 := authT_le a.2
  unfold authResultT authResultN
  omega



set_option maxRecDepth 4000 in
set_option maxHeartbeats 1000000 in
theorem eqAuthResult_k (a : AuthResultD) (us vs : List Value) (w : World) (h1 : authResultC.rep w a us) (h2 : authResultC.rep w a vs) :
    Calls Try.prog 7 #[.agg us.toArray, .agg vs.toArray] w fun e w' => e = .returned (.bool true) ∧ Below w.heap.size w w' := by
  obtain ⟨p2_1, q2_1, p2_4, q2_4, rfl, r2_1, r2_4⟩ := authResult_rep h1
  obtain ⟨pb2_1, qb2_1, pb2_4, qb2_4, rfl, rb2_1, rb2_4⟩ := authResult_rep h2
  clear h1 h2
  have BW : Below w.heap.size w ((w.alloc (.cells #[.int .i64 a.1, .slice p2_1 a.2.1.length q2_1, .int .i64 a.2.2.1.1, .int .i64 a.2.2.1.2.1, .int .i64 a.2.2.1.2.2, .int .i64 a.2.2.2.1, .slice p2_4 a.2.2.2.2.length q2_4] 28)).alloc (.cells #[.int .i64 a.1, .slice pb2_1 a.2.1.length qb2_1, .int .i64 a.2.2.1.1, .int .i64 a.2.2.1.2.1, .int .i64 a.2.2.1.2.2, .int .i64 a.2.2.2.1, .slice pb2_4 a.2.2.2.2.length qb2_4] 28)) := Below.mk (alloc_below _ _) _
  have A : Arr ((w.alloc (.cells #[.int .i64 a.1, .slice p2_1 a.2.1.length q2_1, .int .i64 a.2.2.1.1, .int .i64 a.2.2.1.2.1, .int .i64 a.2.2.1.2.2, .int .i64 a.2.2.2.1, .slice p2_4 a.2.2.2.2.length q2_4] 28)).alloc (.cells #[.int .i64 a.1, .slice pb2_1 a.2.1.length qb2_1, .int .i64 a.2.2.1.1, .int .i64 a.2.2.1.2.1, .int .i64 a.2.2.1.2.2, .int .i64 a.2.2.2.1, .slice pb2_4 a.2.2.2.2.length qb2_4] 28)) w.heap.size 28 [.int .i64 a.1, .slice p2_1 a.2.1.length q2_1, .int .i64 a.2.2.1.1, .int .i64 a.2.2.1.2.1, .int .i64 a.2.2.1.2.2, .int .i64 a.2.2.2.1, .slice p2_4 a.2.2.2.2.length q2_4] := (Arr.new w [.int .i64 a.1, .slice p2_1 a.2.1.length q2_1, .int .i64 a.2.2.1.1, .int .i64 a.2.2.1.2.1, .int .i64 a.2.2.1.2.2, .int .i64 a.2.2.2.1, .slice p2_4 a.2.2.2.2.length q2_4] 28).old _ _
  have B : Arr ((w.alloc (.cells #[.int .i64 a.1, .slice p2_1 a.2.1.length q2_1, .int .i64 a.2.2.1.1, .int .i64 a.2.2.1.2.1, .int .i64 a.2.2.1.2.2, .int .i64 a.2.2.2.1, .slice p2_4 a.2.2.2.2.length q2_4] 28)).alloc (.cells #[.int .i64 a.1, .slice pb2_1 a.2.1.length qb2_1, .int .i64 a.2.2.1.1, .int .i64 a.2.2.1.2.1, .int .i64 a.2.2.1.2.2, .int .i64 a.2.2.2.1, .slice pb2_4 a.2.2.2.2.length qb2_4] 28)) (w.heap.size + 1) 28 [.int .i64 a.1, .slice pb2_1 a.2.1.length qb2_1, .int .i64 a.2.2.1.1, .int .i64 a.2.2.1.2.1, .int .i64 a.2.2.1.2.2, .int .i64 a.2.2.2.1, .slice pb2_4 a.2.2.2.2.length qb2_4] := by
    have h := Arr.new (w.alloc (.cells #[.int .i64 a.1, .slice p2_1 a.2.1.length q2_1, .int .i64 a.2.2.1.1, .int .i64 a.2.2.1.2.1, .int .i64 a.2.2.1.2.2, .int .i64 a.2.2.2.1, .slice p2_4 a.2.2.2.2.length q2_4] 28)) [.int .i64 a.1, .slice pb2_1 a.2.1.length qb2_1, .int .i64 a.2.2.1.1, .int .i64 a.2.2.1.2.1, .int .i64 a.2.2.1.2.2, .int .i64 a.2.2.2.1, .slice pb2_4 a.2.2.2.2.length qb2_4] 28
    rw [size_alloc] at h
    exact h
  replace r2_1 := r2_1.keep BW
  replace rb2_1 := rb2_1.keep BW
  replace r2_4 := r2_4.keep BW
  replace rb2_4 := rb2_4.keep BW
  go_enter Try.func7, Try.ntmps7
  go_wp2_with fail
  refine (eqAuth_k a.2 _ _ _ (auth_mk r2_1 r2_4) (auth_mk rb2_1 rb2_4)).mono ?_
  rintro e w1 ⟨rfl, hb⟩
  replace A := A.stay hb
  replace B := B.stay hb
  replace BW := Below.step BW hb
  replace r2_1 := r2_1.keep hb
  replace rb2_1 := rb2_1.keep hb
  replace r2_4 := r2_4.keep hb
  replace rb2_4 := rb2_4.keep hb
  have ca0 := A.cell 0
  have cb0 := B.cell 0
  have ca1 := A.cell 1
  have cb1 := B.cell 1
  have ca2 := A.cell 2
  have cb2 := B.cell 2
  have ca3 := A.cell 3
  have cb3 := B.cell 3
  have ca4 := A.cell 4
  have cb4 := B.cell 4
  have ca5 := A.cell 5
  have cb5 := B.cell 5
  have ca6 := A.cell 6
  have cb6 := B.cell 6
  simp at ca0 cb0 ca1 cb1 ca2 cb2 ca3 cb3 ca4 cb4 ca5 cb5 ca6 cb6
  clear hb
  go_wp2
  go_ret
  exact ⟨rfl, BW⟩

set_option maxRecDepth 4000 in
set_option maxHeartbeats 1000000 in
theorem markAuthResult_k (a : AuthResultD) (us : List Value) (fp : List Nat) (B m : Nat) (mi : Int) (hmi : mi = (m : Int)) (w : World) (h : authResultC.own w B a us fp) (hm : m + authResultT a ≤ 1000000000) :
    Calls Try.prog 10 #[.agg us.toArray, .int .i64 mi] w fun e w' => e = .returned (.int .i64 (mi + (authResultT a : Int))) ∧ authResultC.own w' B (authResultM a m) us fp ∧ Only fp w w' := by
  subst hmi
  obtain ⟨us0, ts0, f0, g0, rfl, rfl, nd0, k0, k1⟩ := h
  obtain ⟨e0, ef0⟩ := k0
  subst e0 ef0
  obtain ⟨p2_1, q2_1, p2_4, q2_4, e1, -, -⟩ := auth_rep (authC.toRep k1)
  subst e1
  have z1 : Hid (∀ x, x ∈ g0 → x < w.heap.size) := fun x hx => (authC.ins k1 x hx).2
  have s1 : Hid (∀ x, x ∈ g0 → x ∈ [] ++ g0) := fun x hx => by simp [hx]
  have A := Arr.new w [.int .i64 a.1, .slice p2_1 a.2.1.length q2_1, .int .i64 a.2.2.1.1, .int .i64 a.2.2.1.2.1, .int .i64 a.2.2.1.2.2, .int .i64 a.2.2.2.1, .slice p2_4 a.2.2.2.2.length q2_4] 28
  have ON : Only ([] ++ g0) w (w.alloc (.cells #[.int .i64 a.1, .slice p2_1 a.2.1.length q2_1, .int .i64 a.2.2.1.1, .int .i64 a.2.2.1.2.1, .int .i64 a.2.2.1.2.2, .int .i64 a.2.2.2.1, .slice p2_4 a.2.2.2.2.length q2_4] 28)) := Only.below (alloc_below _ _)
  replace k1 := authC.stay k1 (alloc_below _ (.cells #[.int .i64 a.1, .slice p2_1 a.2.1.length q2_1, .int .i64 a.2.2.1.1, .int .i64 a.2.2.1.2.1, .int .i64 a.2.2.1.2.2, .int .i64 a.2.2.2.1, .slice p2_4 a.2.2.2.2.length q2_4] 28))
  have ND0 : Hid _ := nd0
  clear nd0
  have hT : Hid (m + (authT a.2) ≤ 1000000000) := hm
  clear hm
  go_enter Try.func10, Try.ntmps10
  go_wp2_with fail
  refine (markAuth_k a.2 _ _ B m _ (by first | rfl | simp | (simp; omega) | (push_cast; omega)) _ k1 (by have := hT.out; omega)).mono ?_
  rintro e w1 ⟨rfl, k1, ho⟩
  replace A := A.only ho (fun h => Nat.lt_irrefl _ (z1.out _ h))
  replace ON := ON.trans_sub ho s1.out
  have ca0 := A.cell 0
  have ca1 := A.cell 1
  have ca2 := A.cell 2
  have ca3 := A.cell 3
  have ca4 := A.cell 4
  have ca5 := A.cell 5
  have ca6 := A.cell 6
  simp at ca0 ca1 ca2 ca3 ca4 ca5 ca6
  clear ho
  go_wp2
  go_ret
  exact ⟨by unfold authResultT; simp; try omega, ⟨_, _, [], _, rfl, rfl, ND0.out, ⟨rfl, rfl⟩, k1⟩, ON⟩

set_option maxRecDepth 4000 in
set_option maxHeartbeats 1000000 in
theorem heldAuthResult_k (a : AuthResultD) (us : List Value) (m : Nat) (mi : Int) (hmi : mi = (m : Int)) (w : World) (h : authResultC.rep w (authResultM a m) us) (hm : m + authResultT a ≤ 1048577) :
    Calls Try.prog 11 #[.agg us.toArray, .int .i64 mi] w fun e w' => e = .returned (.int .i64 (mi + (authResultT a : Int))) ∧ Below w.heap.size w w' := by
  subst hmi
  obtain ⟨us0, ts0, rfl, h0, h1⟩ := h
  have e0 : us0 = [Value.int .i64 (authResultM a m).1] := h0
  subst e0
  replace h1 : authC.rep w (authM a.2 m) _ := h1
  obtain ⟨p2_1, q2_1, p2_4, q2_4, e1, -, -⟩ := auth_rep h1
  subst e1
  have A := Arr.new w [.int .i64 (authResultM a m).1, .slice p2_1 (authM a.2 m).1.length q2_1, .int .i64 (authM a.2 m).2.1.1, .int .i64 (authM a.2 m).2.1.2.1, .int .i64 (authM a.2 m).2.1.2.2, .int .i64 (authM a.2 m).2.2.1, .slice p2_4 (authM a.2 m).2.2.2.length q2_4] 28
  have BW := alloc_below w (.cells #[.int .i64 (authResultM a m).1, .slice p2_1 (authM a.2 m).1.length q2_1, .int .i64 (authM a.2 m).2.1.1, .int .i64 (authM a.2 m).2.1.2.1, .int .i64 (authM a.2 m).2.1.2.2, .int .i64 (authM a.2 m).2.2.1, .slice p2_4 (authM a.2 m).2.2.2.length q2_4] 28)
  replace h1 := authC.keep h1 BW
  have hT : Hid (m + (authT a.2) ≤ 1048577) := hm
  clear hm
  go_enter Try.func11, Try.ntmps11
  go_wp2_with fail
  refine (heldAuth_k a.2 _ m _ (by first | rfl | simp | (simp; omega) | (push_cast; omega)) _ h1 (by have := hT.out; omega)).mono ?_
  rintro e w1 ⟨rfl, hb⟩
  replace A := A.stay hb
  replace BW := Below.step BW hb
  replace h1 := authC.keep h1 hb
  have ca0 := A.cell 0
  have ca1 := A.cell 1
  have ca2 := A.cell 2
  have ca3 := A.cell 3
  have ca4 := A.cell 4
  have ca5 := A.cell 5
  have ca6 := A.cell 6
  simp at ca0 ca1 ca2 ca3 ca4 ca5 ca6
  clear hb
  go_wp2
  go_ret
  exact ⟨by unfold authResultT; simp; try omega, BW⟩

end Go.Proofs.Ytdbpnibcblelbab

