/- How SecretsResult lies in memory, and the contracts of the laws' helpers on it (written by tools/codgen.py). -/
import Derived.Test.YthkiabcbpkhgiaaDoorCodK
import Derived.Test.YthkiabcbpkhgiaaDoorSecretsC
namespace Go.Proofs.YthkiabcbpkhgiaaDoor
open Go.ChangeShapes Go.WideShapes Go.ChangeAt Go.RowKit

abbrev SecretsResultD := Int × SecretsD
def secretsResultC : Cod SecretsResultD := prodC (intC .i64) secretsC
theorem secretsResult_rep {w : World} {a : SecretsResultD} {vs : List Value} (h : secretsResultC.rep w a vs) : ∃ p2_1 q2_1 p2_2 q2_2 p2_3 q2_3 p2_4 q2_4, vs = [.int .i64 a.1, .slice p2_1 a.2.1.length q2_1, .slice p2_2 a.2.2.1.length q2_2, .slice p2_3 a.2.2.2.1.length q2_3, .slice p2_4 a.2.2.2.2.length q2_4] ∧ Rd w p2_1 q2_1 a.2.1 ∧ Rd w p2_2 q2_2 a.2.2.1 ∧ Rd w p2_3 q2_3 a.2.2.2.1 ∧ Rd w p2_4 q2_4 a.2.2.2.2 := by
  obtain ⟨us0, ts0, rfl, h0, h1⟩ := h
  have e0 : us0 = [Value.int .i64 _] := h0
  subst e0
  obtain ⟨p2_1, q2_1, p2_2, q2_2, p2_3, q2_3, p2_4, q2_4, rfl, r2_1, r2_2, r2_3, r2_4⟩ := secrets_rep h1
  exact ⟨p2_1, q2_1, p2_2, q2_2, p2_3, q2_3, p2_4, q2_4, rfl, r2_1, r2_2, r2_3, r2_4⟩
theorem secretsResult_mk {w : World} {a : SecretsResultD} {p2_1 : Option Addr} {q2_1 : Nat} {p2_2 : Option Addr} {q2_2 : Nat} {p2_3 : Option Addr} {q2_3 : Nat} {p2_4 : Option Addr} {q2_4 : Nat} (r2_1 : Rd w p2_1 q2_1 a.2.1) (r2_2 : Rd w p2_2 q2_2 a.2.2.1) (r2_3 : Rd w p2_3 q2_3 a.2.2.2.1) (r2_4 : Rd w p2_4 q2_4 a.2.2.2.2) : secretsResultC.rep w a [.int .i64 a.1, .slice p2_1 a.2.1.length q2_1, .slice p2_2 a.2.2.1.length q2_2, .slice p2_3 a.2.2.2.1.length q2_3, .slice p2_4 a.2.2.2.2.length q2_4] := ⟨[.int .i64 a.1], _, rfl, rfl, (secrets_mk r2_1 r2_2 r2_3 r2_4)⟩
def secretsResultT (a : SecretsResultD) : Nat := secretsT a.2
def secretsResultM (a : SecretsResultD) (m : Nat) : SecretsResultD := (a.1, secretsM a.2 m)

set_option maxRecDepth 4000 in
set_option maxHeartbeats 1000000 in
theorem eqSecretsResult_k (a : SecretsResultD) (us vs : List Value) (w : World) (h1 : secretsResultC.rep w a us) (h2 : secretsResultC.rep w a vs) :
    Calls Tryd.prog 33 #[.agg us.toArray, .agg vs.toArray] w fun e w' => e = .returned (.bool true) ∧ Below w.heap.size w w' := by
  obtain ⟨p2_1, q2_1, p2_2, q2_2, p2_3, q2_3, p2_4, q2_4, rfl, r2_1, r2_2, r2_3, r2_4⟩ := secretsResult_rep h1
  obtain ⟨pb2_1, qb2_1, pb2_2, qb2_2, pb2_3, qb2_3, pb2_4, qb2_4, rfl, rb2_1, rb2_2, rb2_3, rb2_4⟩ := secretsResult_rep h2
  clear h1 h2
  have BW : Below w.heap.size w ((w.alloc (.cells #[.int .i64 a.1, .slice p2_1 a.2.1.length q2_1, .slice p2_2 a.2.2.1.length q2_2, .slice p2_3 a.2.2.2.1.length q2_3, .slice p2_4 a.2.2.2.2.length q2_4] 33)).alloc (.cells #[.int .i64 a.1, .slice pb2_1 a.2.1.length qb2_1, .slice pb2_2 a.2.2.1.length qb2_2, .slice pb2_3 a.2.2.2.1.length qb2_3, .slice pb2_4 a.2.2.2.2.length qb2_4] 33)) := Below.mk (alloc_below _ _) _
  have A : Arr ((w.alloc (.cells #[.int .i64 a.1, .slice p2_1 a.2.1.length q2_1, .slice p2_2 a.2.2.1.length q2_2, .slice p2_3 a.2.2.2.1.length q2_3, .slice p2_4 a.2.2.2.2.length q2_4] 33)).alloc (.cells #[.int .i64 a.1, .slice pb2_1 a.2.1.length qb2_1, .slice pb2_2 a.2.2.1.length qb2_2, .slice pb2_3 a.2.2.2.1.length qb2_3, .slice pb2_4 a.2.2.2.2.length qb2_4] 33)) w.heap.size 33 [.int .i64 a.1, .slice p2_1 a.2.1.length q2_1, .slice p2_2 a.2.2.1.length q2_2, .slice p2_3 a.2.2.2.1.length q2_3, .slice p2_4 a.2.2.2.2.length q2_4] := (Arr.new w [.int .i64 a.1, .slice p2_1 a.2.1.length q2_1, .slice p2_2 a.2.2.1.length q2_2, .slice p2_3 a.2.2.2.1.length q2_3, .slice p2_4 a.2.2.2.2.length q2_4] 33).old _ _
  have B : Arr ((w.alloc (.cells #[.int .i64 a.1, .slice p2_1 a.2.1.length q2_1, .slice p2_2 a.2.2.1.length q2_2, .slice p2_3 a.2.2.2.1.length q2_3, .slice p2_4 a.2.2.2.2.length q2_4] 33)).alloc (.cells #[.int .i64 a.1, .slice pb2_1 a.2.1.length qb2_1, .slice pb2_2 a.2.2.1.length qb2_2, .slice pb2_3 a.2.2.2.1.length qb2_3, .slice pb2_4 a.2.2.2.2.length qb2_4] 33)) (w.heap.size + 1) 33 [.int .i64 a.1, .slice pb2_1 a.2.1.length qb2_1, .slice pb2_2 a.2.2.1.length qb2_2, .slice pb2_3 a.2.2.2.1.length qb2_3, .slice pb2_4 a.2.2.2.2.length qb2_4] := by
    have h := Arr.new (w.alloc (.cells #[.int .i64 a.1, .slice p2_1 a.2.1.length q2_1, .slice p2_2 a.2.2.1.length q2_2, .slice p2_3 a.2.2.2.1.length q2_3, .slice p2_4 a.2.2.2.2.length q2_4] 33)) [.int .i64 a.1, .slice pb2_1 a.2.1.length qb2_1, .slice pb2_2 a.2.2.1.length qb2_2, .slice pb2_3 a.2.2.2.1.length qb2_3, .slice pb2_4 a.2.2.2.2.length qb2_4] 33
    rw [size_alloc] at h
    exact h
  replace r2_1 := r2_1.keep BW
  replace rb2_1 := rb2_1.keep BW
  replace r2_2 := r2_2.keep BW
  replace rb2_2 := rb2_2.keep BW
  replace r2_3 := r2_3.keep BW
  replace rb2_3 := rb2_3.keep BW
  replace r2_4 := r2_4.keep BW
  replace rb2_4 := rb2_4.keep BW
  go_enter Tryd.func33, Tryd.ntmps33
  go_wp2_with fail
  refine (eqSecrets_k a.2 _ _ _ (secrets_mk r2_1 r2_2 r2_3 r2_4) (secrets_mk rb2_1 rb2_2 rb2_3 rb2_4)).mono ?_
  rintro e w1 ⟨rfl, hb⟩
  replace A := A.stay hb
  replace B := B.stay hb
  replace BW := Below.step BW hb
  replace r2_1 := r2_1.keep hb
  replace rb2_1 := rb2_1.keep hb
  replace r2_2 := r2_2.keep hb
  replace rb2_2 := rb2_2.keep hb
  replace r2_3 := r2_3.keep hb
  replace rb2_3 := rb2_3.keep hb
  replace r2_4 := r2_4.keep hb
  replace rb2_4 := rb2_4.keep hb
  have ca0 := A.cell 0
  have cb0 := B.cell 0
  have ca1 := A.cell 1
  have cb1 := B.cell 1
  have ca2 := A.cell 2
  have cb2 := B.cell 2
  have ca3 := A.cell 3
  have cb3 := B.cell 3
  have ca4 := A.cell 4
  have cb4 := B.cell 4
  simp at ca0 cb0 ca1 cb1 ca2 cb2 ca3 cb3 ca4 cb4
  clear hb
  go_wp2
  go_ret
  exact ⟨rfl, BW⟩

set_option maxRecDepth 4000 in
set_option maxHeartbeats 1000000 in
theorem markSecretsResult_k (a : SecretsResultD) (us : List Value) (fp : List Nat) (B m : Nat) (mi : Int) (hmi : mi = (m : Int)) (w : World) (h : secretsResultC.own w B a us fp) (hm : m + secretsResultT a ≤ 1000000000) :
    Calls Tryd.prog 34 #[.agg us.toArray, .int .i64 mi] w fun e w' => e = .returned (.int .i64 (mi + (secretsResultT a : Int))) ∧ secretsResultC.own w' B (secretsResultM a m) us fp ∧ Only fp w w' := by
  subst hmi
  obtain ⟨us0, ts0, f0, g0, rfl, rfl, nd0, k0, k1⟩ := h
  obtain ⟨e0, ef0⟩ := k0
  subst e0 ef0
  obtain ⟨p2_1, q2_1, p2_2, q2_2, p2_3, q2_3, p2_4, q2_4, e1, -, -, -, -⟩ := secrets_rep (secretsC.toRep k1)
  subst e1
  have z1 : Hid (∀ x, x ∈ g0 → x < w.heap.size) := fun x hx => (secretsC.ins k1 x hx).2
  have s1 : Hid (∀ x, x ∈ g0 → x ∈ [] ++ g0) := fun x hx => by simp [hx]
  have A := Arr.new w [.int .i64 a.1, .slice p2_1 a.2.1.length q2_1, .slice p2_2 a.2.2.1.length q2_2, .slice p2_3 a.2.2.2.1.length q2_3, .slice p2_4 a.2.2.2.2.length q2_4] 33
  have ON : Only ([] ++ g0) w (w.alloc (.cells #[.int .i64 a.1, .slice p2_1 a.2.1.length q2_1, .slice p2_2 a.2.2.1.length q2_2, .slice p2_3 a.2.2.2.1.length q2_3, .slice p2_4 a.2.2.2.2.length q2_4] 33)) := Only.below (alloc_below _ _)
  replace k1 := secretsC.stay k1 (alloc_below _ (.cells #[.int .i64 a.1, .slice p2_1 a.2.1.length q2_1, .slice p2_2 a.2.2.1.length q2_2, .slice p2_3 a.2.2.2.1.length q2_3, .slice p2_4 a.2.2.2.2.length q2_4] 33))
  have ND0 : Hid _ := nd0
  clear nd0
  have hT : Hid (m + (secretsT a.2) ≤ 1000000000) := hm
  clear hm
  go_enter Tryd.func34, Tryd.ntmps34
  go_wp2_with fail
  refine (markSecrets_k a.2 _ _ B m _ (by first | rfl | simp | (simp; omega) | (push_cast; omega)) _ k1 (by have := hT.out; omega)).mono ?_
  rintro e w1 ⟨rfl, k1, ho⟩
  replace A := A.only ho (fun h => Nat.lt_irrefl _ (z1.out _ h))
  replace ON := ON.trans_sub ho s1.out
  have ca0 := A.cell 0
  have ca1 := A.cell 1
  have ca2 := A.cell 2
  have ca3 := A.cell 3
  have ca4 := A.cell 4
  simp at ca0 ca1 ca2 ca3 ca4
  clear ho
  go_wp2
  go_ret
  exact ⟨by unfold secretsResultT; simp; try omega, ⟨_, _, [], _, rfl, rfl, ND0.out, ⟨rfl, rfl⟩, k1⟩, ON⟩

set_option maxRecDepth 4000 in
set_option maxHeartbeats 1000000 in
theorem heldSecretsResult_k (a : SecretsResultD) (us : List Value) (m : Nat) (mi : Int) (hmi : mi = (m : Int)) (w : World) (h : secretsResultC.rep w (secretsResultM a m) us) (hm : m + secretsResultT a ≤ 1048577) :
    Calls Tryd.prog 35 #[.agg us.toArray, .int .i64 mi] w fun e w' => e = .returned (.int .i64 (mi + (secretsResultT a : Int))) ∧ Below w.heap.size w w' := by
  subst hmi
  obtain ⟨us0, ts0, rfl, h0, h1⟩ := h
  have e0 : us0 = [Value.int .i64 (secretsResultM a m).1] := h0
  subst e0
  replace h1 : secretsC.rep w (secretsM a.2 m) _ := h1
  obtain ⟨p2_1, q2_1, p2_2, q2_2, p2_3, q2_3, p2_4, q2_4, e1, -, -, -, -⟩ := secrets_rep h1
  subst e1
  have A := Arr.new w [.int .i64 (secretsResultM a m).1, .slice p2_1 (secretsM a.2 m).1.length q2_1, .slice p2_2 (secretsM a.2 m).2.1.length q2_2, .slice p2_3 (secretsM a.2 m).2.2.1.length q2_3, .slice p2_4 (secretsM a.2 m).2.2.2.length q2_4] 33
  have BW := alloc_below w (.cells #[.int .i64 (secretsResultM a m).1, .slice p2_1 (secretsM a.2 m).1.length q2_1, .slice p2_2 (secretsM a.2 m).2.1.length q2_2, .slice p2_3 (secretsM a.2 m).2.2.1.length q2_3, .slice p2_4 (secretsM a.2 m).2.2.2.length q2_4] 33)
  replace h1 := secretsC.keep h1 BW
  have hT : Hid (m + (secretsT a.2) ≤ 1048577) := hm
  clear hm
  go_enter Tryd.func35, Tryd.ntmps35
  go_wp2_with fail
  refine (heldSecrets_k a.2 _ m _ (by first | rfl | simp | (simp; omega) | (push_cast; omega)) _ h1 (by have := hT.out; omega)).mono ?_
  rintro e w1 ⟨rfl, hb⟩
  replace A := A.stay hb
  replace BW := Below.step BW hb
  replace h1 := secretsC.keep h1 hb
  have ca0 := A.cell 0
  have ca1 := A.cell 1
  have ca2 := A.cell 2
  have ca3 := A.cell 3
  have ca4 := A.cell 4
  simp at ca0 ca1 ca2 ca3 ca4
  clear hb
  go_wp2
  go_ret
  exact ⟨by unfold secretsResultT; simp; try omega, BW⟩

end Go.Proofs.YthkiabcbpkhgiaaDoor

