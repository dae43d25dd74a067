/- How Secrets lies in memory, and the contracts of the laws' helpers on it (written by tools/codgen.py). -/
import Derived.Test.YthkiabcbpkhgiaaDoorCodK
namespace Go.Proofs.YthkiabcbpkhgiaaDoor
open Go.ChangeShapes Go.WideShapes Go.ChangeAt Go.RowKit

abbrev SecretsD := List UInt8 × List UInt8 × List UInt8 × List UInt8
def secretsC : Cod SecretsD := prodC bytC (prodC bytC (prodC bytC bytC))
theorem secrets_rep {w : World} {a : SecretsD} {vs : List Value} (h : secretsC.rep w a vs) : ∃ p1 q1 p2 q2 p3 q3 p4 q4, vs = [.slice p1 a.1.length q1, .slice p2 a.2.1.length q2, .slice p3 a.2.2.1.length q3, .slice p4 a.2.2.2.length q4] ∧ Rd w p1 q1 a.1 ∧ Rd w p2 q2 a.2.1 ∧ Rd w p3 q3 a.2.2.1 ∧ Rd w p4 q4 a.2.2.2 := by
  obtain ⟨us0, ts0, rfl, h0, us1, ts1, rfl, h1, us2, ts2, rfl, h2, h3⟩ := h
  obtain ⟨p1, q1, rfl, r1⟩ := h0
  obtain ⟨p2, q2, rfl, r2⟩ := h1
  obtain ⟨p3, q3, rfl, r3⟩ := h2
  obtain ⟨p4, q4, rfl, r4⟩ := h3
  exact ⟨p1, q1, p2, q2, p3, q3, p4, q4, rfl, r1, r2, r3, r4⟩
theorem secrets_mk {w : World} {a : SecretsD} {p1 : Option Addr} {q1 : Nat} {p2 : Option Addr} {q2 : Nat} {p3 : Option Addr} {q3 : Nat} {p4 : Option Addr} {q4 : Nat} (r1 : Rd w p1 q1 a.1) (r2 : Rd w p2 q2 a.2.1) (r3 : Rd w p3 q3 a.2.2.1) (r4 : Rd w p4 q4 a.2.2.2) : secretsC.rep w a [.slice p1 a.1.length q1, .slice p2 a.2.1.length q2, .slice p3 a.2.2.1.length q3, .slice p4 a.2.2.2.length q4] := ⟨[.slice p1 a.1.length q1], _, rfl, ⟨p1, q1, rfl, r1⟩, ⟨[.slice p2 a.2.1.length q2], _, rfl, ⟨p2, q2, rfl, r2⟩, ⟨[.slice p3 a.2.2.1.length q3], _, rfl, ⟨p3, q3, rfl, r3⟩, ⟨p4, q4, rfl, r4⟩⟩⟩⟩
def secretsT (a : SecretsD) : Nat := a.1.length + a.2.1.length + a.2.2.1.length + a.2.2.2.length
def secretsM (a : SecretsD) (m : Nat) : SecretsD := (marks m a.1.length, marks (m + a.1.length) a.2.1.length, marks ((m + a.1.length) + a.2.1.length) a.2.2.1.length, marks (((m + a.1.length) + a.2.1.length) + a.2.2.1.length) a.2.2.2.length)

set_option maxRecDepth 4000 in
set_option maxHeartbeats 1000000 in
theorem eqSecrets_k (a : SecretsD) (us vs : List Value) (w : World) (h1 : secretsC.rep w a us) (h2 : secretsC.rep w a vs) :
    Calls Tryd.prog 62 #[.agg us.toArray, .agg vs.toArray] w fun e w' => e = .returned (.bool true) ∧ Below w.heap.size w w' := by
  obtain ⟨p1, q1, p2, q2, p3, q3, p4, q4, rfl, r1, r2, r3, r4⟩ := secrets_rep h1
  obtain ⟨pb1, qb1, pb2, qb2, pb3, qb3, pb4, qb4, rfl, rb1, rb2, rb3, rb4⟩ := secrets_rep h2
  clear h1 h2
  have BW : Below w.heap.size w ((w.alloc (.cells #[.slice p1 a.1.length q1, .slice p2 a.2.1.length q2, .slice p3 a.2.2.1.length q3, .slice p4 a.2.2.2.length q4] 31)).alloc (.cells #[.slice pb1 a.1.length qb1, .slice pb2 a.2.1.length qb2, .slice pb3 a.2.2.1.length qb3, .slice pb4 a.2.2.2.length qb4] 31)) := Below.mk (alloc_below _ _) _
  have A : Arr ((w.alloc (.cells #[.slice p1 a.1.length q1, .slice p2 a.2.1.length q2, .slice p3 a.2.2.1.length q3, .slice p4 a.2.2.2.length q4] 31)).alloc (.cells #[.slice pb1 a.1.length qb1, .slice pb2 a.2.1.length qb2, .slice pb3 a.2.2.1.length qb3, .slice pb4 a.2.2.2.length qb4] 31)) w.heap.size 31 [.slice p1 a.1.length q1, .slice p2 a.2.1.length q2, .slice p3 a.2.2.1.length q3, .slice p4 a.2.2.2.length q4] := (Arr.new w [.slice p1 a.1.length q1, .slice p2 a.2.1.length q2, .slice p3 a.2.2.1.length q3, .slice p4 a.2.2.2.length q4] 31).old _ _
  have B : Arr ((w.alloc (.cells #[.slice p1 a.1.length q1, .slice p2 a.2.1.length q2, .slice p3 a.2.2.1.length q3, .slice p4 a.2.2.2.length q4] 31)).alloc (.cells #[.slice pb1 a.1.length qb1, .slice pb2 a.2.1.length qb2, .slice pb3 a.2.2.1.length qb3, .slice pb4 a.2.2.2.length qb4] 31)) (w.heap.size + 1) 31 [.slice pb1 a.1.length qb1, .slice pb2 a.2.1.length qb2, .slice pb3 a.2.2.1.length qb3, .slice pb4 a.2.2.2.length qb4] := by
    have h := Arr.new (w.alloc (.cells #[.slice p1 a.1.length q1, .slice p2 a.2.1.length q2, .slice p3 a.2.2.1.length q3, .slice p4 a.2.2.2.length q4] 31)) [.slice pb1 a.1.length qb1, .slice pb2 a.2.1.length qb2, .slice pb3 a.2.2.1.length qb3, .slice pb4 a.2.2.2.length qb4] 31
    rw [size_alloc] at h
    exact h
  replace r1 := r1.keep BW
  replace rb1 := rb1.keep BW
  replace r2 := r2.keep BW
  replace rb2 := rb2.keep BW
  replace r3 := r3.keep BW
  replace rb3 := rb3.keep BW
  replace r4 := r4.keep BW
  replace rb4 := rb4.keep BW
  go_enter Tryd.func62, Tryd.ntmps62
  go_wp2_with fail
  refine (eqByteS_c p1 pb1 q1 qb1 a.1 _ r1 rb1).mono ?_
  rintro e w1 ⟨rfl, hb⟩
  replace A := A.stay hb
  replace B := B.stay hb
  replace BW := Below.step BW hb
  replace r1 := r1.keep hb
  replace rb1 := rb1.keep hb
  replace r2 := r2.keep hb
  replace rb2 := rb2.keep hb
  replace r3 := r3.keep hb
  replace rb3 := rb3.keep hb
  replace r4 := r4.keep hb
  replace rb4 := rb4.keep hb
  have ca0 := A.cell 0
  have cb0 := B.cell 0
  have ca1 := A.cell 1
  have cb1 := B.cell 1
  have ca2 := A.cell 2
  have cb2 := B.cell 2
  have ca3 := A.cell 3
  have cb3 := B.cell 3
  simp at ca0 cb0 ca1 cb1 ca2 cb2 ca3 cb3
  clear hb
  go_wp2_with fail
  refine (eqByteS_c p2 pb2 q2 qb2 a.2.1 _ r2 rb2).mono ?_
  rintro e w2 ⟨rfl, hb⟩
  replace A := A.stay hb
  replace B := B.stay hb
  replace BW := Below.step BW hb
  replace r1 := r1.keep hb
  replace rb1 := rb1.keep hb
  replace r2 := r2.keep hb
  replace rb2 := rb2.keep hb
  replace r3 := r3.keep hb
  replace rb3 := rb3.keep hb
  replace r4 := r4.keep hb
  replace rb4 := rb4.keep hb
  have ca0 := A.cell 0
  have cb0 := B.cell 0
  have ca1 := A.cell 1
  have cb1 := B.cell 1
  have ca2 := A.cell 2
  have cb2 := B.cell 2
  have ca3 := A.cell 3
  have cb3 := B.cell 3
  simp at ca0 cb0 ca1 cb1 ca2 cb2 ca3 cb3
  clear hb
  go_wp2_with fail
  refine (eqByteS_c p3 pb3 q3 qb3 a.2.2.1 _ r3 rb3).mono ?_
  rintro e w3 ⟨rfl, hb⟩
  replace A := A.stay hb
  replace B := B.stay hb
  replace BW := Below.step BW hb
  replace r1 := r1.keep hb
  replace rb1 := rb1.keep hb
  replace r2 := r2.keep hb
  replace rb2 := rb2.keep hb
  replace r3 := r3.keep hb
  replace rb3 := rb3.keep hb
  replace r4 := r4.keep hb
  replace rb4 := rb4.keep hb
  have ca0 := A.cell 0
  have cb0 := B.cell 0
  have ca1 := A.cell 1
  have cb1 := B.cell 1
  have ca2 := A.cell 2
  have cb2 := B.cell 2
  have ca3 := A.cell 3
  have cb3 := B.cell 3
  simp at ca0 cb0 ca1 cb1 ca2 cb2 ca3 cb3
  clear hb
  go_wp2_with fail
  refine (eqByteS_c p4 pb4 q4 qb4 a.2.2.2 _ r4 rb4).mono ?_
  rintro e w4 ⟨rfl, hb⟩
  replace A := A.stay hb
  replace B := B.stay hb
  replace BW := Below.step BW hb
  replace r1 := r1.keep hb
  replace rb1 := rb1.keep hb
  replace r2 := r2.keep hb
  replace rb2 := rb2.keep hb
  replace r3 := r3.keep hb
  replace rb3 := rb3.keep hb
  replace r4 := r4.keep hb
  replace rb4 := rb4.keep hb
  have ca0 := A.cell 0
  have cb0 := B.cell 0
  have ca1 := A.cell 1
  have cb1 := B.cell 1
  have ca2 := A.cell 2
  have cb2 := B.cell 2
  have ca3 := A.cell 3
  have cb3 := B.cell 3
  simp at ca0 cb0 ca1 cb1 ca2 cb2 ca3 cb3
  clear hb
  go_wp2
  go_ret
  exact ⟨rfl, BW⟩

set_option maxRecDepth 4000 in
set_option maxHeartbeats 1000000 in
theorem markSecrets_k (a : SecretsD) (us : List Value) (fp : List Nat) (B m : Nat) (mi : Int) (hmi : mi = (m : Int)) (w : World) (h : secretsC.own w B a us fp) (hm : m + secretsT a ≤ 1000000000) :
    Calls Tryd.prog 63 #[.agg us.toArray, .int .i64 mi] w fun e w' => e = .returned (.int .i64 (mi + (secretsT a : Int))) ∧ secretsC.own w' B (secretsM a m) us fp ∧ Only fp w w' := by
  subst hmi
  obtain ⟨us0, ts0, f0, g0, rfl, rfl, nd0, k0, us1, ts1, f1, g1, rfl, rfl, nd1, k1, us2, ts2, f2, g2, rfl, rfl, nd2, k2, k3⟩ := h
  obtain ⟨p1, q1, e0, -⟩ := bytC.toRep k0
  subst e0
  obtain ⟨p2, q2, e1, -⟩ := bytC.toRep k1
  subst e1
  obtain ⟨p3, q3, e2, -⟩ := bytC.toRep k2
  subst e2
  obtain ⟨p4, q4, e3, -⟩ := bytC.toRep k3
  subst e3
  have z0 : Hid (∀ x, x ∈ f0 → x < w.heap.size) := fun x hx => (bytC.ins k0 x hx).2
  have z1 : Hid (∀ x, x ∈ f1 → x < w.heap.size) := fun x hx => (bytC.ins k1 x hx).2
  have z2 : Hid (∀ x, x ∈ f2 → x < w.heap.size) := fun x hx => (bytC.ins k2 x hx).2
  have z3 : Hid (∀ x, x ∈ g2 → x < w.heap.size) := fun x hx => (bytC.ins k3 x hx).2
  have d0_1 : Hid (∀ x, x ∈ f0 → x ∉ f1) := fun x h1 h2 => nodup_apart nd0 x h1 (by simp [h2])
  have d0_2 : Hid (∀ x, x ∈ f0 → x ∉ f2) := fun x h1 h2 => nodup_apart nd0 x h1 (by simp [h2])
  have d0_3 : Hid (∀ x, x ∈ f0 → x ∉ g2) := fun x h1 h2 => nodup_apart nd0 x h1 (by simp [h2])
  have d1_2 : Hid (∀ x, x ∈ f1 → x ∉ f2) := fun x h1 h2 => nodup_apart nd1 x h1 (by simp [h2])
  have d1_3 : Hid (∀ x, x ∈ f1 → x ∉ g2) := fun x h1 h2 => nodup_apart nd1 x h1 (by simp [h2])
  have d2_3 : Hid (∀ x, x ∈ f2 → x ∉ g2) := fun x h1 h2 => nodup_apart nd2 x h1 (by simp [h2])
  have s0 : Hid (∀ x, x ∈ f0 → x ∈ f0 ++ (f1 ++ (f2 ++ g2))) := fun x hx => by simp [hx]
  have s1 : Hid (∀ x, x ∈ f1 → x ∈ f0 ++ (f1 ++ (f2 ++ g2))) := fun x hx => by simp [hx]
  have s2 : Hid (∀ x, x ∈ f2 → x ∈ f0 ++ (f1 ++ (f2 ++ g2))) := fun x hx => by simp [hx]
  have s3 : Hid (∀ x, x ∈ g2 → x ∈ f0 ++ (f1 ++ (f2 ++ g2))) := fun x hx => by simp [hx]
  have A := Arr.new w [.slice p1 a.1.length q1, .slice p2 a.2.1.length q2, .slice p3 a.2.2.1.length q3, .slice p4 a.2.2.2.length q4] 31
  have ON : Only (f0 ++ (f1 ++ (f2 ++ g2))) w (w.alloc (.cells #[.slice p1 a.1.length q1, .slice p2 a.2.1.length q2, .slice p3 a.2.2.1.length q3, .slice p4 a.2.2.2.length q4] 31)) := Only.below (alloc_below _ _)
  replace k0 := bytC.stay k0 (alloc_below _ (.cells #[.slice p1 a.1.length q1, .slice p2 a.2.1.length q2, .slice p3 a.2.2.1.length q3, .slice p4 a.2.2.2.length q4] 31))
  replace k1 := bytC.stay k1 (alloc_below _ (.cells #[.slice p1 a.1.length q1, .slice p2 a.2.1.length q2, .slice p3 a.2.2.1.length q3, .slice p4 a.2.2.2.length q4] 31))
  replace k2 := bytC.stay k2 (alloc_below _ (.cells #[.slice p1 a.1.length q1, .slice p2 a.2.1.length q2, .slice p3 a.2.2.1.length q3, .slice p4 a.2.2.2.length q4] 31))
  replace k3 := bytC.stay k3 (alloc_below _ (.cells #[.slice p1 a.1.length q1, .slice p2 a.2.1.length q2, .slice p3 a.2.2.1.length q3, .slice p4 a.2.2.2.length q4] 31))
  have ND0 : Hid _ := nd0
  have ND1 : Hid _ := nd1
  have ND2 : Hid _ := nd2
  clear nd0 nd1 nd2
  have hT : Hid (m + (a.1.length + a.2.1.length + a.2.2.1.length + a.2.2.2.length) ≤ 1000000000) := hm
  clear hm
  go_enter Tryd.func63, Tryd.ntmps63
  go_wp2_with fail
  refine (markByteS_k a.1 _ _ B m _ (by first | rfl | simp | (simp; omega) | (push_cast; omega)) _ k0 (by have := hT.out; omega)).mono ?_
  rintro e w1 ⟨rfl, k0, ho⟩
  replace k1 := bytC.other k1 ho (fun x h1 h2 => d0_1.out x h2 h1)
  replace k2 := bytC.other k2 ho (fun x h1 h2 => d0_2.out x h2 h1)
  replace k3 := bytC.other k3 ho (fun x h1 h2 => d0_3.out x h2 h1)
  replace A := A.only ho (fun h => Nat.lt_irrefl _ (z0.out _ h))
  replace ON := ON.trans_sub ho s0.out
  have ca0 := A.cell 0
  have ca1 := A.cell 1
  have ca2 := A.cell 2
  have ca3 := A.cell 3
  simp at ca0 ca1 ca2 ca3
  clear ho
  go_wp2_with fail
  refine (markByteS_k a.2.1 _ _ B (m + a.1.length) _ (by first | rfl | simp | (simp; omega) | (push_cast; omega)) _ k1 (by have := hT.out; omega)).mono ?_
  rintro e w2 ⟨rfl, k1, ho⟩
  replace k0 := bytC.other k0 ho (fun x h1 h2 => d0_1.out x h1 h2)
  replace k2 := bytC.other k2 ho (fun x h1 h2 => d1_2.out x h2 h1)
  replace k3 := bytC.other k3 ho (fun x h1 h2 => d1_3.out x h2 h1)
  replace A := A.only ho (fun h => Nat.lt_irrefl _ (z1.out _ h))
  replace ON := ON.trans_sub ho s1.out
  have ca0 := A.cell 0
  have ca1 := A.cell 1
  have ca2 := A.cell 2
  have ca3 := A.cell 3
  simp at ca0 ca1 ca2 ca3
  clear ho
  go_wp2_with fail
  refine (markByteS_k a.2.2.1 _ _ B ((m + a.1.length) + a.2.1.length) _ (by first | rfl | simp | (simp; omega) | (push_cast; omega)) _ k2 (by have := hT.out; omega)).mono ?_
  rintro e w3 ⟨rfl, k2, ho⟩
  replace k0 := bytC.other k0 ho (fun x h1 h2 => d0_2.out x h1 h2)
  replace k1 := bytC.other k1 ho (fun x h1 h2 => d1_2.out x h1 h2)
  replace k3 := bytC.other k3 ho (fun x h1 h2 => d2_3.out x h2 h1)
  replace A := A.only ho (fun h => Nat.lt_irrefl _ (z2.out _ h))
  replace ON := ON.trans_sub ho s2.out
  have ca0 := A.cell 0
  have ca1 := A.cell 1
  have ca2 := A.cell 2
  have ca3 := A.cell 3
  simp at ca0 ca1 ca2 ca3
  clear ho
  go_wp2_with fail
  refine (markByteS_k a.2.2.2 _ _ B (((m + a.1.length) + a.2.1.length) + a.2.2.1.length) _ (by first | rfl | simp | (simp; omega) | (push_cast; omega)) _ k3 (by have := hT.out; omega)).mono ?_
  rintro e w4 ⟨rfl, k3, ho⟩
  replace k0 := bytC.other k0 ho (fun x h1 h2 => d0_3.out x h1 h2)
  replace k1 := bytC.other k1 ho (fun x h1 h2 => d1_3.out x h1 h2)
  replace k2 := bytC.other k2 ho (fun x h1 h2 => d2_3.out x h1 h2)
  replace A := A.only ho (fun h => Nat.lt_irrefl _ (z3.out _ h))
  replace ON := ON.trans_sub ho s3.out
  have ca0 := A.cell 0
  have ca1 := A.cell 1
  have ca2 := A.cell 2
  have ca3 := A.cell 3
  simp at ca0 ca1 ca2 ca3
  clear ho
  go_wp2
  go_ret
  exact ⟨by unfold secretsT; simp; try omega, ⟨_, _, _, _, rfl, rfl, ND0.out, k0, ⟨_, _, _, _, rfl, rfl, ND1.out, k1, ⟨_, _, _, _, rfl, rfl, ND2.out, k2, k3⟩⟩⟩, ON⟩

set_option maxRecDepth 4000 in
set_option maxHeartbeats 1000000 in
theorem heldSecrets_k (a : SecretsD) (us : List Value) (m : Nat) (mi : Int) (hmi : mi = (m : Int)) (w : World) (h : secretsC.rep w (secretsM a m) us) (hm : m + secretsT a ≤ 1048577) :
    Calls Tryd.prog 64 #[.agg us.toArray, .int .i64 mi] w fun e w' => e = .returned (.int .i64 (mi + (secretsT a : Int))) ∧ Below w.heap.size w w' := by
  subst hmi
  obtain ⟨us0, ts0, rfl, h0, us1, ts1, rfl, h1, us2, ts2, rfl, h2, h3⟩ := h
  obtain ⟨p1, q1, rfl, r1⟩ := h0
  obtain ⟨p2, q2, rfl, r2⟩ := h1
  obtain ⟨p3, q3, rfl, r3⟩ := h2
  obtain ⟨p4, q4, rfl, r4⟩ := h3
  have A := Arr.new w [.slice p1 (secretsM a m).1.length q1, .slice p2 (secretsM a m).2.1.length q2, .slice p3 (secretsM a m).2.2.1.length q3, .slice p4 (secretsM a m).2.2.2.length q4] 31
  have BW := alloc_below w (.cells #[.slice p1 (secretsM a m).1.length q1, .slice p2 (secretsM a m).2.1.length q2, .slice p3 (secretsM a m).2.2.1.length q3, .slice p4 (secretsM a m).2.2.2.length q4] 31)
  replace r1 := r1.keep BW
  replace r2 := r2.keep BW
  replace r3 := r3.keep BW
  replace r4 := r4.keep BW
  have hT : Hid (m + (a.1.length + a.2.1.length + a.2.2.1.length + a.2.2.2.length) ≤ 1048577) := hm
  clear hm
  go_enter Tryd.func64, Tryd.ntmps64
  go_wp2_with fail
  refine (heldByteS_k (secretsM a m).1 p1 q1 a.1.length m rfl _ (by first | rfl | simp | (simp; omega) | (push_cast; omega)) _ r1 (by have := hT.out; omega)).mono ?_
  rintro e w1 ⟨rfl, hw⟩
  subst hw
  go_wp2_with fail
  refine (heldByteS_k (secretsM a m).2.1 p2 q2 a.2.1.length (m + a.1.length) rfl _ (by first | rfl | simp | (simp; omega) | (push_cast; omega)) _ r2 (by have := hT.out; omega)).mono ?_
  rintro e w2 ⟨rfl, hw⟩
  subst hw
  go_wp2_with fail
  refine (heldByteS_k (secretsM a m).2.2.1 p3 q3 a.2.2.1.length ((m + a.1.length) + a.2.1.length) rfl _ (by first | rfl | simp | (simp; omega) | (push_cast; omega)) _ r3 (by have := hT.out; omega)).mono ?_
  rintro e w3 ⟨rfl, hw⟩
  subst hw
  go_wp2_with fail
  refine (heldByteS_k (secretsM a m).2.2.2 p4 q4 a.2.2.2.length (((m + a.1.length) + a.2.1.length) + a.2.2.1.length) rfl _ (by first | rfl | simp | (simp; omega) | (push_cast; omega)) _ r4 (by have := hT.out; omega)).mono ?_
  rintro e w4 ⟨rfl, hw⟩
  subst hw
  go_wp2
  go_ret
  exact ⟨by unfold secretsT; simp; try omega, BW⟩

end Go.Proofs.YthkiabcbpkhgiaaDoor

