/- How Secrets lies in memory, and the contracts of the laws' helpers on it (written by tools/codgen.py). -/
import Derived.Test.YtiabacnmmojfjaaGreatDoorJoint8
import Derived.Test.YtiabacnmmojfjaaGreatDoorJoint9
namespace Go.Proofs.YtiabacnmmojfjaaGreatDoor
open Go.ChangeShapes Go.WideShapes Go.ChangeAt Go.RowKit
abbrev SecretsD := List UInt8 × List UInt8 × List UInt8 × List UInt8
def secretsC : Cod SecretsD := prodC bytC (prodC bytC (prodC bytC bytC))
theorem secrets_rep {w : World} {a : SecretsD} {vs : List Value} (h : secretsC.rep w a vs) : ∃ p1 q1 p2 q2 p3 q3 p4 q4, vs = [.slice p1 a.1.length q1, .slice p2 a.2.1.length q2, .slice p3 a.2.2.1.length q3, .slice p4 a.2.2.2.length q4] ∧ Rd w p1 q1 a.1 ∧ Rd w p2 q2 a.2.1 ∧ Rd w p3 q3 a.2.2.1 ∧ Rd w p4 q4 a.2.2.2 := by
  obtain ⟨us0, ts0, rfl, h0, us1, ts1, rfl, h1, us2, ts2, rfl, h2, h3⟩ := h
  obtain ⟨p1, q1, rfl, r1⟩ := h0
  obtain ⟨p2, q2, rfl, r2⟩ := h1
  obtain ⟨p3, q3, rfl, r3⟩ := h2
  obtain ⟨p4, q4, rfl, r4⟩ := h3
  exact ⟨p1, q1, p2, q2, p3, q3, p4, q4, rfl, r1, r2, r3, r4⟩
theorem secrets_mk {w : World} {a : SecretsD} {p1 : Option Addr} {q1 : Nat} {p2 : Option Addr} {q2 : Nat} {p3 : Option Addr} {q3 : Nat} {p4 : Option Addr} {q4 : Nat} (r1 : Rd w p1 q1 a.1) (r2 : Rd w p2 q2 a.2.1) (r3 : Rd w p3 q3 a.2.2.1) (r4 : Rd w p4 q4 a.2.2.2) : secretsC.rep w a [.slice p1 a.1.length q1, .slice p2 a.2.1.length q2, .slice p3 a.2.2.1.length q3, .slice p4 a.2.2.2.length q4] := ⟨[.slice p1 a.1.length q1], _, rfl, ⟨p1, q1, rfl, r1⟩, ⟨[.slice p2 a.2.1.length q2], _, rfl, ⟨p2, q2, rfl, r2⟩, ⟨[.slice p3 a.2.2.1.length q3], _, rfl, ⟨p3, q3, rfl, r3⟩, ⟨p4, q4, rfl, r4⟩⟩⟩⟩
def secretsT (a : SecretsD) : Nat := a.1.length + a.2.1.length + a.2.2.1.length + a.2.2.2.length
def secretsM (a : SecretsD) (m : Nat) : SecretsD := (marks m a.1.length, marks (m + a.1.length) a.2.1.length, marks ((m + a.1.length) + a.2.1.length) a.2.2.1.length, marks (((m + a.1.length) + a.2.1.length) + a.2.2.1.length) a.2.2.2.length)
set_option maxRecDepth 4000 in
set_option maxHeartbeats 1000000 in
theorem eqSecrets_k (a : SecretsD) (us vs : List Value) (w : World) (h1 : secretsC.rep w a us) (h2 : secretsC.rep w a vs) :
    Calls Tryz.prog 138 #[.agg us.toArray, .agg vs.toArray] w fun e w' => e = .returned (.bool true) ∧ Below w.heap.size w w' := by
  obtain ⟨p1, q1, p2, q2, p3, q3, p4, q4, rfl, r1, r2, r3, r4⟩ := secrets_rep h1
  obtain ⟨pb1, qb1, pb2, qb2, pb3, qb3, pb4, qb4, rfl, rb1, rb2, rb3, rb4⟩ := secrets_rep h2
  clear h1 h2
  have BW : Below w.heap.size w ((w.alloc (.cells #[.slice p1 a.1.length q1, .slice p2 a.2.1.length q2, .slice p3 a.2.2.1.length q3, .slice p4 a.2.2.2.length q4] 30)).alloc (.cells #[.slice pb1 a.1.length qb1, .slice pb2 a.2.1.length qb2, .slice pb3 a.2.2.1.length qb3, .slice pb4 a.2.2.2.length qb4] 30)) := Below.mk (alloc_below _ _) _
  have A : Arr ((w.alloc (.cells #[.slice p1 a.1.length q1, .slice p2 a.2.1.length q2, .slice p3 a.2.2.1.length q3, .slice p4 a.2.2.2.length q4] 30)).alloc (.cells #[.slice pb1 a.1.length qb1, .slice pb2 a.2.1.length qb2, .slice pb3 a.2.2.1.length qb3, .slice pb4 a.2.2.2.length qb4] 30)) w.heap.size 30 [.slice p1 a.1.length q1, .slice p2 a.2.1.length q2, .slice p3 a.2.2.1.length q3, .slice p4 a.2.2.2.length q4] := (Arr.new w [.slice p1 a.1.length q1, .slice p2 a.2.1.length q2, .slice p3 a.2.2.1.length q3, .slice p4 a.2.2.2.length q4] 30).old _ _
  have B : Arr ((w.alloc (.cells #[.slice p1 a.1.length q1, .slice p2 a.2.1.length q2, .slice p3 a.2.2.1.length q3, .slice p4 a.2.2.2.length q4] 30)).alloc (.cells #[.slice pb1 a.1.length qb1, .slice pb2 a.2.1.length qb2, .slice pb3 a.2.2.1.length qb3, .slice pb4 a.2.2.2.length qb4] 30)) (w.heap.size + 1) 30 [.slice pb1 a.1.length qb1, .slice pb2 a.2.1.length qb2, .slice pb3 a.2.2.1.length qb3, .slice pb4 a.2.2.2.length qb4] := by
    have h := Arr.new (w.alloc (.cells #[.slice p1 a.1.length q1, .slice p2 a.2.1.length q2, .slice p3 a.2.2.1.length q3, .slice p4 a.2.2.2.length q4] 30)) [.slice pb1 a.1.length qb1, .slice pb2 a.2.1.length qb2, .slice pb3 a.2.2.1.length qb3, .slice pb4 a.2.2.2.length qb4] 30
    rw [size_alloc] at h
    exact h
  replace r1 := r1.keep BW
  replace rb1 := rb1.keep BW
  replace r2 := r2.keep BW
  replace rb2 := rb2.keep BW
  replace r3 := r3.keep BW
  replace rb3 := rb3.keep BW
  replace r4 := r4.keep BW
  replace rb4 := rb4.keep BW
  go_enter Tryz.func138, Tryz.ntmps138
  go_wp2_with fail
  refine (eqByteS_c p1 pb1 q1 qb1 a.1 _ r1 rb1).mono ?_
  rintro e w1 ⟨rfl, hb⟩
  replace A := A.stay hb
  replace B := B.stay hb
  replace BW := Below.step BW hb
  replace r1 := r1.keep hb
  replace rb1 := rb1.keep hb
  replace r2 := r2.keep hb
  replace rb2 := rb2.keep hb
  replace r3 := r3.keep hb
  replace rb3 := rb3.keep hb
  replace r4 := r4.keep hb
  replace rb4 := rb4.keep hb
  have ca0 := A.cell 0
  have cb0 := B.cell 0
  have ca1 := A.cell 1
  have cb1 := B.cell 1
  have ca2 := A.cell 2
  have cb2 := B.cell 2
  have ca3 := A.cell 3
  have cb3 := B.cell 3
  simp at ca0 cb0 ca1 cb1 ca2 cb2 ca3 cb3
  clear hb
  go_wp2_with fail
  refine (eqByteS_c p2 pb2 q2 qb2 a.2.1 _ r2 rb2).mono ?_
  rintro e w2 ⟨rfl, hb⟩
  replace A := A.stay hb
  replace B := B.stay hb
  replace BW := Below.step BW hb
  replace r1 := r1.keep hb
  replace rb1 := rb1.keep hb
  replace r2 := r2.keep hb
  replace rb2 := rb2.keep hb
  replace r3 := r3.keep hb
  replace rb3 := rb3.keep hb
  replace r4 := r4.keep hb
  replace rb4 := rb4.keep hb
  have ca0 := A.cell 0
  have cb0 := B.cell 0
  have ca1 := A.cell 1
  have cb1 := B.cell 1
  have ca2 := A.cell 2
  have cb2 := B.cell 2
  have ca3 := A.cell 3
  have cb3 := B.cell 3
  simp at ca0 cb0 ca1 cb1 ca2 cb2 ca3 cb3
  clear hb
  go_wp2_with fail
  refine (eqByteS_c p3 pb3 q3 qb3 a.2.2.1 _ r3 rb3).mono ?_
  rintro e w3 ⟨rfl, hb⟩
  replace A := A.stay hb
  replace B := B.stay hb
  replace BW := Below.step BW hb
  replace r1 := r1.keep hb
  replace rb1 := rb1.keep hb
  replace r2 := r2.keep hb
  replace rb2 := rb2.keep hb
  replace r3 := r3.keep hb
  replace rb3 := rb3.keep hb
  replace r4 := r4.keep hb
  replace rb4 := rb4.keep hb
  have ca0 := A.cell 0
  have cb0 := B.cell 0
  have ca1 := A.cell 1
  have cb1 := B.cell 1
  have ca2 := A.cell 2
  have cb2 := B.cell 2
  have ca3 := A.cell 3
  have cb3 := B.cell 3
  simp at ca0 cb0 ca1 cb1 ca2 cb2 ca3 cb3
  clear hb
  go_wp2_with fail
  refine (eqByteS_c p4 pb4 q4 qb4 a.2.2.2 _ r4 rb4).mono ?_
  rintro e w4 ⟨rfl, hb⟩
  replace A := A.stay hb
  replace B := B.stay hb
  replace BW := Below.step BW hb
  replace r1 := r1.keep hb
  replace rb1 := rb1.keep hb
  replace r2 := r2.keep hb
  replace rb2 := rb2.keep hb
  replace r3 := r3.keep hb
  replace rb3 := rb3.keep hb
  replace r4 := r4.keep hb
  replace rb4 := rb4.keep hb
  have ca0 := A.cell 0
  have cb0 := B.cell 0
  have ca1 := A.cell 1
  have cb1 := B.cell 1
  have ca2 := A.cell 2
  have cb2 := B.cell 2
  have ca3 := A.cell 3
  have cb3 := B.cell 3
  simp at ca0 cb0 ca1 cb1 ca2 cb2 ca3 cb3
  clear hb
  go_wp2
  go_ret
  exact ⟨rfl, BW⟩
set_option maxRecDepth 4000 in
set_option maxHeartbeats 1000000 in
theorem markSecrets_k (a : SecretsD) (us : List Value) (fp : List Nat) (B m : Nat) (mi : Int) (hmi : mi = (m : Int)) (w : World) (h : secretsC.own w B a us fp) (hm : m + secretsT a ≤ 1000000000) :
    Calls Tryz.prog 139 #[.agg us.toArray, .int .i64 mi] w fun e w' => e = .returned (.int .i64 (mi + (secretsT a : Int))) ∧ secretsC.own w' B (secretsM a m) us fp ∧ Only fp w w' := by
  subst hmi
  obtain ⟨us0, ts0, f0, g0, rfl, rfl, nd0, k0, us1, ts1, f1, g1, rfl, rfl, nd1, k1, us2, ts2, f2, g2, rfl, rfl, nd2, k2, k3⟩ := h
  obtain ⟨p1, q1, e0, -⟩ := bytC.toRep k0
  subst e0
  obtain ⟨p2, q2, e1, -⟩ := bytC.toRep k1
  subst e1
  obtain ⟨p3, q3, e2, -⟩ := bytC.toRep k2
  subst e2
  obtain ⟨p4, q4, e3, -⟩ := bytC.toRep k3
  subst e3
  have z0 : Hid (∀ x, x ∈ f0 → x < w.heap.size) := fun x hx => (bytC.ins k0 x hx).2
  have z1 : Hid (∀ x, x ∈ f1 → x < w.heap.size) := fun x hx => (bytC.ins k1 x hx).2
  have z2 : Hid (∀ x, x ∈ f2 → x < w.heap.size) := fun x hx => (bytC.ins k2 x hx).2
  have z3 : Hid (∀ x, x ∈ g2 → x < w.heap.size) := fun x hx => (bytC.ins k3 x hx).2
  have d0_1 : Hid (∀ x, x ∈ f0 → x ∉ f1) := fun x h1 h2 => nodup_apart nd0 x h1 (by simp [h2])
  have d0_2 : Hid (∀ x, x ∈ f0 → x ∉ f2) := fun x h1 h2 => nodup_apart nd0 x h1 (by simp [h2])
  have d0_3 : Hid (∀ x, x ∈ f0 → x ∉ g2) := fun x h1 h2 => nodup_apart nd0 x h1 (by simp [h2])
  have d1_2 : Hid (∀ x, x ∈ f1 → x ∉ f2) := fun x h1 h2 => nodup_apart nd1 x h1 (by simp [h2])
  have d1_3 : Hid (∀ x, x ∈ f1 → x ∉ g2) := fun x h1 h2 => nodup_apart nd1 x h1 (by simp [h2])
  have d2_3 : Hid (∀ x, x ∈ f2 → x ∉ g2) := fun x h1 h2 => nodup_apart nd2 x h1 (by simp [h2])
  have s0 : Hid (∀ x, x ∈ f0 → x ∈ f0 ++ (f1 ++ (f2 ++ g2))) := fun x hx => by simp [hx]
  have s1 : Hid (∀ x, x ∈ f1 → x ∈ f0 ++ (f1 ++ (f2 ++ g2))) := fun x hx => by simp [hx]
  have s2 : Hid (∀ x, x ∈ f2 → x ∈ f0 ++ (f1 ++ (f2 ++ g2))) := fun x hx => by simp [hx]
  have s3 : Hid (∀ x, x ∈ g2 → x ∈ f0 ++ (f1 ++ (f2 ++ g2))) := fun x hx => by simp [hx]
  have A := Arr.new w [.slice p1 a.1.length q1, .slice p2 a.2.1.length q2, .slice p3 a.2.2.1.length q3, .slice p4 a.2.2.2.length q4] 30
  have ON : Only (f0 ++ (f1 ++ (f2 ++ g2))) w (w.alloc (.cells #[.slice p1 a.1.length q1, .slice p2 a.2.1.length q2, .slice p3 a.2.2.1.length q3, .slice p4 a.2.2.2.length q4] 30)) := Only.below (alloc_below _ _)
  replace k0 := bytC.stay k0 (alloc_below _ (.cells #[.slice p1 a.1.length q1, .slice p2 a.2.1.length q2, .slice p3 a.2.2.1.length q3, .slice p4 a.2.2.2.length q4] 30))
  replace k1 := bytC.stay k1 (alloc_below _ (.cells #[.slice p1 a.1.length q1, .slice p2 a.2.1.length q2, .slice p3 a.2.2.1.length q3, .slice p4 a.2.2.2.length q4] 30))
  replace k2 := bytC.stay k2 (alloc_below _ (.cells #[.slice p1 a.1.length q1, .slice p2 a.2.1.length q2, .slice p3 a.2.2.1.length q3, .slice p4 a.2.2.2.length q4] 30))
  replace k3 := bytC.stay k3 (alloc_below _ (.cells #[.slice p1 a.1.length q1, .slice p2 a.2.1.length q2, .slice p3 a.2.2.1.length q3, .slice p4 a.2.2.2.length q4] 30))
  have ND0 : Hid _ := nd0
  have ND1 : Hid _ := nd1
  have ND2 : Hid _ := nd2
  clear nd0 nd1 nd2
  have hT : Hid (m + (a.1.length + a.2.1.length + a.2.2.1.length + a.2.2.2.length) ≤ 1000000000) := hm
  clear hm
  go_enter Tryz.func139, Tryz.ntmps139
  go_wp2_with fail
  refine (markByteS_k a.1 _ _ B m _ (by first | rfl | simp | (simp; omega) | (push_cast; omega)) _ k0 (by have := hT.out; omega)).mono ?_
  rintro e w1 ⟨rfl, k0, ho⟩
  replace k1 := bytC.other k1 ho (fun x h1 h2 => d0_1.out x h2 h1)
  replace k2 := bytC.other k2 ho (fun x h1 h2 => d0_2.out x h2 h1)
  replace k3 := bytC.other k3 ho (fun x h1 h2 => d0_3.out x h2 h1)
  replace A := A.only ho (fun h => Nat.lt_irrefl _ (z0.out _ h))
  replace ON := ON.trans_sub ho s0.out
  have ca0 := A.cell 0
  have ca1 := A.cell 1
  have ca2 := A.cell 2
  have ca3 := A.cell 3
  simp at ca0 ca1 ca2 ca3
  clear ho
  go_wp2_with fail
  refine (markByteS_k a.2.1 _ _ B (m + a.1.length) _ (by first | rfl | simp | (simp; omega) | (push_cast; omega)) _ k1 (by have := hT.out; omega)).mono ?_
  rintro e w2 ⟨rfl, k1, ho⟩
  replace k0 := bytC.other k0 ho (fun x h1 h2 => d0_1.out x h1 h2)
  replace k2 := bytC.other k2 ho (fun x h1 h2 => d1_2.out x h2 h1)
  replace k3 := bytC.other k3 ho (fun x h1 h2 => d1_3.out x h2 h1)
  replace A := A.only ho (fun h => Nat.lt_irrefl _ (z1.out _ h))
  replace ON := ON.trans_sub ho s1.out
  have ca0 := A.cell 0
  have ca1 := A.cell 1
  have ca2 := A.cell 2
  have ca3 := A.cell 3
  simp at ca0 ca1 ca2 ca3
  clear ho
  go_wp2_with fail
  refine (markByteS_k a.2.2.1 _ _ B ((m + a.1.length) + a.2.1.length) _ (by first | rfl | simp | (simp; omega) | (push_cast; omega)) _ k2 (by have := hT.out; omega)).mono ?_
  rintro e w3 ⟨rfl, k2, ho⟩
  replace k0 := bytC.other k0 ho (fun x h1 h2 => d0_2.out x h1 h2)
  replace k1 := bytC.other k1 ho (fun x h1 h2 => d1_2.out x h1 h2)
  replace k3 := bytC.other k3 ho (fun x h1 h2 => d2_3.out x h2 h1)
  replace A := A.only ho (fun h => Nat.lt_irrefl _ (z2.out _ h))
  replace ON := ON.trans_sub ho s2.out
  have ca0 := A.cell 0
  have ca1 := A.cell 1
  have ca2 := A.cell 2
  have ca3 := A.cell 3
  simp at ca0 ca1 ca2 ca3
  clear ho
  go_wp2_with fail
  refine (markByteS_k a.2.2.2 _ _ B (((m + a.1.length) + a.2.1.length) + a.2.2.1.length) _ (by first | rfl | simp | (simp; omega) | (push_cast; omega)) _ k3 (by have := hT.out; omega)).mono ?_
  rintro e w4 ⟨rfl, k3, ho⟩
  replace k0 := bytC.other k0 ho (fun x h1 h2 => d0_3.out x h1 h2)
  replace k1 := bytC.other k1 ho (fun x h1 h2 => d1_3.out x h1 h2)
  replace k2 := bytC.other k2 ho (fun x h1 h2 => d2_3.out x h1 h2)
  replace A := A.only ho (fun h => Nat.lt_irrefl _ (z3.out _ h))
  replace ON := ON.trans_sub ho s3.out
  have ca0 := A.cell 0
  have ca1 := A.cell 1
  have ca2 := A.cell 2
  have ca3 := A.cell 3
  simp at ca0 ca1 ca2 ca3
  clear ho
  go_wp2
  go_ret
  exact ⟨by unfold secretsT; simp; try omega, ⟨_, _, _, _, rfl, rfl, ND0.out, k0, ⟨_, _, _, _, rfl, rfl, ND1.out, k1, ⟨_, _, _, _, rfl, rfl, ND2.out, k2, k3⟩⟩⟩, ON⟩
set_option maxRecDepth 4000 in
set_option maxHeartbeats 1000000 in
theorem heldSecrets_k (a : SecretsD) (us : List Value) (m : Nat) (mi : Int) (hmi : mi = (m : Int)) (w : World) (h : secretsC.rep w (secretsM a m) us) (hm : m + secretsT a ≤ 1048577) :
    Calls Tryz.prog 142 #[.agg us.toArray, .int .i64 mi] w fun e w' => e = .returned (.int .i64 (mi + (secretsT a : Int))) ∧ Below w.heap.size w w' := by
  subst hmi
  obtain ⟨us0, ts0, rfl, h0, us1, ts1, rfl, h1, us2, ts2, rfl, h2, h3⟩ := h
  obtain ⟨p1, q1, rfl, r1⟩ := h0
  obtain ⟨p2, q2, rfl, r2⟩ := h1
  obtain ⟨p3, q3, rfl, r3⟩ := h2
  obtain ⟨p4, q4, rfl, r4⟩ := h3
  have A := Arr.new w [.slice p1 (secretsM a m).1.length q1, .slice p2 (secretsM a m).2.1.length q2, .slice p3 (secretsM a m).2.2.1.length q3, .slice p4 (secretsM a m).2.2.2.length q4] 30
  have BW := alloc_below w (.cells #[.slice p1 (secretsM a m).1.length q1, .slice p2 (secretsM a m).2.1.length q2, .slice p3 (secretsM a m).2.2.1.length q3, .slice p4 (secretsM a m).2.2.2.length q4] 30)
  replace r1 := r1.keep BW
  replace r2 := r2.keep BW
  replace r3 := r3.keep BW
  replace r4 := r4.keep BW
  have hT : Hid (m + (a.1.length + a.2.1.length + a.2.2.1.length + a.2.2.2.length) ≤ 1048577) := hm
  clear hm
  go_enter Tryz.func142, Tryz.ntmps142
  go_wp2_with fail
  refine (heldByteS_k (secretsM a m).1 p1 q1 a.1.length m rfl _ (by first | rfl | simp | (simp; omega) | (push_cast; omega)) _ r1 (by have := hT.out; omega)).mono ?_
  rintro e w1 ⟨rfl, hw⟩
  subst hw
  go_wp2_with fail
  refine (heldByteS_k (secretsM a m).2.1 p2 q2 a.2.1.length (m + a.1.length) rfl _ (by first | rfl | simp | (simp; omega) | (push_cast; omega)) _ r2 (by have := hT.out; omega)).mono ?_
  rintro e w2 ⟨rfl, hw⟩
  subst hw
  go_wp2_with fail
  refine (heldByteS_k (secretsM a m).2.2.1 p3 q3 a.2.2.1.length ((m + a.1.length) + a.2.1.length) rfl _ (by first | rfl | simp | (simp; omega) | (push_cast; omega)) _ r3 (by have := hT.out; omega)).mono ?_
  rintro e w3 ⟨rfl, hw⟩
  subst hw
  go_wp2_with fail
  refine (heldByteS_k (secretsM a m).2.2.2 p4 q4 a.2.2.2.length (((m + a.1.length) + a.2.1.length) + a.2.2.1.length) rfl _ (by first | rfl | simp | (simp; omega) | (push_cast; omega)) _ r4 (by have := hT.out; omega)).mono ?_
  rintro e w4 ⟨rfl, hw⟩
  subst hw
  go_wp2
  go_ret
  exact ⟨by unfold secretsT; simp; try omega, BW⟩
end Go.Proofs.YtiabacnmmojfjaaGreatDoor
/- Lists of messages as data (Cod), and the contracts of the laws' helpers on them. -/
namespace Go.Proofs.YtiabacnmmojfjaaGreatDoor
open Go.ChangeShapes Go.WideShapes Go.ChangeAt Go.RowKit
abbrev msgsC : Cod (List MsgD) := listC 46 msgC
theorem markMsgS_k (l : List MsgD) (v : Value) (fp : List Nat) (B m : Nat) (mi : Int) (hmi : mi = (m : Int)) (w : World) (h : msgsC.own w B l [v] fp) (hm : m + bulkM l ≤ 1000000000) (hbl : bulkM l ≤ 1000000000) :
    Calls Tryz.prog 93 #[v, .int .i64 mi] w fun e w' => e = .returned (.int .i64 (mi + (bulkM l : Int))) ∧ msgsC.own w' B (mkM l m) [v] fp ∧ Only fp w w' := by
  subst hmi
  obtain ⟨u, xs, f, e1, o, rfl⟩ := h
  simp only [List.cons.injEq, and_true] at e1
  subst e1
  exact (markMsgS_c _ l B v xs f m w o hm hbl).mono fun _ _ ⟨h1, ⟨ys, h2⟩, h3⟩ => ⟨by rw [h1]; rfl, ⟨v, ys, f, rfl, h2, rfl⟩, h3⟩
theorem heldMsgS_k (l : List MsgD) (u : Value) (m : Nat) (mi : Int) (hmi : mi = (m : Int)) (w : World) (h : msgsC.rep w (mkM l m) [u]) (hm : m + bulkM l ≤ 1048577) :
    Calls Tryz.prog 95 #[u, .int .i64 mi] w fun e w' => e = .returned (.int .i64 (mi + (bulkM l : Int))) ∧ Below w.heap.size w w' := by
  subst hmi
  obtain ⟨p, q, e1, r⟩ := h
  simp only [List.cons.injEq, and_true] at e1
  subst e1
  rw [mkM_len]
  exact (heldMsgS_c l p q m w r hm).mono fun _ _ ⟨h1, h2⟩ => ⟨by rw [h1]; rfl, h2⟩
end Go.Proofs.YtiabacnmmojfjaaGreatDoor
/- How End lies in memory, and the contracts of the laws' helpers on it (written by tools/codgen.py). -/
namespace Go.Proofs.YtiabacnmmojfjaaGreatDoor
open Go.ChangeShapes Go.WideShapes Go.ChangeAt Go.RowKit
abbrev EndD := SideD × Int × Int × List MsgD × List UInt8 × SecretsD
def endC : Cod EndD := prodC sideC (prodC (intC .i64) (prodC (intC .i64) (prodC msgsC (prodC bytC secretsC))))
theorem end_rep {w : World} {a : EndD} {vs : List Value} (h : endC.rep w a vs) : ∃ p1_2 q1_2 p1_4 q1_4 p4 q4 p5 q5 p6_1 q6_1 p6_2 q6_2 p6_3 q6_3 p6_4 q6_4, vs = [.int .i64 a.1.1, .slice p1_2 a.1.2.1.length q1_2, .int .i64 a.1.2.2.1, .slice p1_4 a.1.2.2.2.length q1_4, .int .i64 a.2.1, .int .i64 a.2.2.1, .slice p4 a.2.2.2.1.length q4, .slice p5 a.2.2.2.2.1.length q5, .slice p6_1 a.2.2.2.2.2.1.length q6_1, .slice p6_2 a.2.2.2.2.2.2.1.length q6_2, .slice p6_3 a.2.2.2.2.2.2.2.1.length q6_3, .slice p6_4 a.2.2.2.2.2.2.2.2.length q6_4] ∧ Rd w p1_2 q1_2 a.1.2.1 ∧ Rd w p1_4 q1_4 a.1.2.2.2 ∧ RdL msgC w p4 q4 a.2.2.2.1 ∧ Rd w p5 q5 a.2.2.2.2.1 ∧ Rd w p6_1 q6_1 a.2.2.2.2.2.1 ∧ Rd w p6_2 q6_2 a.2.2.2.2.2.2.1 ∧ Rd w p6_3 q6_3 a.2.2.2.2.2.2.2.1 ∧ Rd w p6_4 q6_4 a.2.2.2.2.2.2.2.2 := by
  obtain ⟨us0, ts0, rfl, h0, us1, ts1, rfl, h1, us2, ts2, rfl, h2, us3, ts3, rfl, h3, us4, ts4, rfl, h4, h5⟩ := h
  obtain ⟨p1_2, q1_2, p1_4, q1_4, rfl, r1_2, r1_4⟩ := side_rep h0
  have e1 : us1 = [Value.int .i64 _] := h1
  subst e1
  have e2 : us2 = [Value.int .i64 _] := h2
  subst e2
  obtain ⟨p4, q4, rfl, r4⟩ := h3
  obtain ⟨p5, q5, rfl, r5⟩ := h4
  obtain ⟨p6_1, q6_1, p6_2, q6_2, p6_3, q6_3, p6_4, q6_4, rfl, r6_1, r6_2, r6_3, r6_4⟩ := secrets_rep h5
  exact ⟨p1_2, q1_2, p1_4, q1_4, p4, q4, p5, q5, p6_1, q6_1, p6_2, q6_2, p6_3, q6_3, p6_4, q6_4, rfl, r1_2, r1_4, r4, r5, r6_1, r6_2, r6_3, r6_4⟩
theorem end_mk {w : World} {a : EndD} {p1_2 : Option Addr} {q1_2 : Nat} {p1_4 : Option Addr} {q1_4 : Nat} {p4 : Option Addr} {q4 : Nat} {p5 : Option Addr} {q5 : Nat} {p6_1 : Option Addr} {q6_1 : Nat} {p6_2 : Option Addr} {q6_2 : Nat} {p6_3 : Option Addr} {q6_3 : Nat} {p6_4 : Option Addr} {q6_4 : Nat} (r1_2 : Rd w p1_2 q1_2 a.1.2.1) (r1_4 : Rd w p1_4 q1_4 a.1.2.2.2) (r4 : RdL msgC w p4 q4 a.2.2.2.1) (r5 : Rd w p5 q5 a.2.2.2.2.1) (r6_1 : Rd w p6_1 q6_1 a.2.2.2.2.2.1) (r6_2 : Rd w p6_2 q6_2 a.2.2.2.2.2.2.1) (r6_3 : Rd w p6_3 q6_3 a.2.2.2.2.2.2.2.1) (r6_4 : Rd w p6_4 q6_4 a.2.2.2.2.2.2.2.2) : endC.rep w a [.int .i64 a.1.1, .slice p1_2 a.1.2.1.length q1_2, .int .i64 a.1.2.2.1, .slice p1_4 a.1.2.2.2.length q1_4, .int .i64 a.2.1, .int .i64 a.2.2.1, .slice p4 a.2.2.2.1.length q4, .slice p5 a.2.2.2.2.1.length q5, .slice p6_1 a.2.2.2.2.2.1.length q6_1, .slice p6_2 a.2.2.2.2.2.2.1.length q6_2, .slice p6_3 a.2.2.2.2.2.2.2.1.length q6_3, .slice p6_4 a.2.2.2.2.2.2.2.2.length q6_4] := ⟨[.int .i64 a.1.1, .slice p1_2 a.1.2.1.length q1_2, .int .i64 a.1.2.2.1, .slice p1_4 a.1.2.2.2.length q1_4], _, rfl, (side_mk r1_2 r1_4), ⟨[.int .i64 a.2.1], _, rfl, rfl, ⟨[.int .i64 a.2.2.1], _, rfl, rfl, ⟨[.slice p4 a.2.2.2.1.length q4], _, rfl, ⟨p4, q4, rfl, r4⟩, ⟨[.slice p5 a.2.2.2.2.1.length q5], _, rfl, ⟨p5, q5, rfl, r5⟩, (secrets_mk r6_1 r6_2 r6_3 r6_4)⟩⟩⟩⟩⟩
def endT (a : EndD) : Nat := sideT a.1 + bulkM a.2.2.2.1 + a.2.2.2.2.1.length + secretsT a.2.2.2.2.2
def endM (a : EndD) (m : Nat) : EndD := (sideM a.1 m, a.2.1, a.2.2.1, mkM a.2.2.2.1 (m + sideT a.1), marks ((m + sideT a.1) + bulkM a.2.2.2.1) a.2.2.2.2.1.length, secretsM a.2.2.2.2.2 (((m + sideT a.1) + bulkM a.2.2.2.1) + a.2.2.2.2.1.length))
set_option maxRecDepth 4000 in
set_option maxHeartbeats 1000000 in
theorem eqEnd_k (a : EndD) (us vs : List Value) (w : World) (h1 : endC.rep w a us) (h2 : endC.rep w a vs) :
    Calls Tryz.prog 88 #[.agg us.toArray, .agg vs.toArray] w fun e w' => e = .returned (.bool true) ∧ Below w.heap.size w w' := by
  obtain ⟨p1_2, q1_2, p1_4, q1_4, p4, q4, p5, q5, p6_1, q6_1, p6_2, q6_2, p6_3, q6_3, p6_4, q6_4, rfl, r1_2, r1_4, r4, r5, r6_1, r6_2, r6_3, r6_4⟩ := end_rep h1
  obtain ⟨pb1_2, qb1_2, pb1_4, qb1_4, pb4, qb4, pb5, qb5, pb6_1, qb6_1, pb6_2, qb6_2, pb6_3, qb6_3, pb6_4, qb6_4, rfl, rb1_2, rb1_4, rb4, rb5, rb6_1, rb6_2, rb6_3, rb6_4⟩ := end_rep h2
  clear h1 h2
  have BW : Below w.heap.size w ((w.alloc (.cells #[.int .i64 a.1.1, .slice p1_2 a.1.2.1.length q1_2, .int .i64 a.1.2.2.1, .slice p1_4 a.1.2.2.2.length q1_4, .int .i64 a.2.1, .int .i64 a.2.2.1, .slice p4 a.2.2.2.1.length q4, .slice p5 a.2.2.2.2.1.length q5, .slice p6_1 a.2.2.2.2.2.1.length q6_1, .slice p6_2 a.2.2.2.2.2.2.1.length q6_2, .slice p6_3 a.2.2.2.2.2.2.2.1.length q6_3, .slice p6_4 a.2.2.2.2.2.2.2.2.length q6_4] 32)).alloc (.cells #[.int .i64 a.1.1, .slice pb1_2 a.1.2.1.length qb1_2, .int .i64 a.1.2.2.1, .slice pb1_4 a.1.2.2.2.length qb1_4, .int .i64 a.2.1, .int .i64 a.2.2.1, .slice pb4 a.2.2.2.1.length qb4, .slice pb5 a.2.2.2.2.1.length qb5, .slice pb6_1 a.2.2.2.2.2.1.length qb6_1, .slice pb6_2 a.2.2.2.2.2.2.1.length qb6_2, .slice pb6_3 a.2.2.2.2.2.2.2.1.length qb6_3, .slice pb6_4 a.2.2.2.2.2.2.2.2.length qb6_4] 32)) := Below.mk (alloc_below _ _) _
  have A : Arr ((w.alloc (.cells #[.int .i64 a.1.1, .slice p1_2 a.1.2.1.length q1_2, .int .i64 a.1.2.2.1, .slice p1_4 a.1.2.2.2.length q1_4, .int .i64 a.2.1, .int .i64 a.2.2.1, .slice p4 a.2.2.2.1.length q4, .slice p5 a.2.2.2.2.1.length q5, .slice p6_1 a.2.2.2.2.2.1.length q6_1, .slice p6_2 a.2.2.2.2.2.2.1.length q6_2, .slice p6_3 a.2.2.2.2.2.2.2.1.length q6_3, .slice p6_4 a.2.2.2.2.2.2.2.2.length q6_4] 32)).alloc (.cells #[.int .i64 a.1.1, .slice pb1_2 a.1.2.1.length qb1_2, .int .i64 a.1.2.2.1, .slice pb1_4 a.1.2.2.2.length qb1_4, .int .i64 a.2.1, .int .i64 a.2.2.1, .slice pb4 a.2.2.2.1.length qb4, .slice pb5 a.2.2.2.2.1.length qb5, .slice pb6_1 a.2.2.2.2.2.1.length qb6_1, .slice pb6_2 a.2.2.2.2.2.2.1.length qb6_2, .slice pb6_3 a.2.2.2.2.2.2.2.1.length qb6_3, .slice pb6_4 a.2.2.2.2.2.2.2.2.length qb6_4] 32)) w.heap.size 32 [.int .i64 a.1.1, .slice p1_2 a.1.2.1.length q1_2, .int .i64 a.1.2.2.1, .slice p1_4 a.1.2.2.2.length q1_4, .int .i64 a.2.1, .int .i64 a.2.2.1, .slice p4 a.2.2.2.1.length q4, .slice p5 a.2.2.2.2.1.length q5, .slice p6_1 a.2.2.2.2.2.1.length q6_1, .slice p6_2 a.2.2.2.2.2.2.1.length q6_2, .slice p6_3 a.2.2.2.2.2.2.2.1.length q6_3, .slice p6_4 a.2.2.2.2.2.2.2.2.length q6_4] := (Arr.new w [.int .i64 a.1.1, .slice p1_2 a.1.2.1.length q1_2, .int .i64 a.1.2.2.1, .slice p1_4 a.1.2.2.2.length q1_4, .int .i64 a.2.1, .int .i64 a.2.2.1, .slice p4 a.2.2.2.1.length q4, .slice p5 a.2.2.2.2.1.length q5, .slice p6_1 a.2.2.2.2.2.1.length q6_1, .slice p6_2 a.2.2.2.2.2.2.1.length q6_2, .slice p6_3 a.2.2.2.2.2.2.2.1.length q6_3, .slice p6_4 a.2.2.2.2.2.2.2.2.length q6_4] 32).old _ _
  have B : Arr ((w.alloc (.cells #[.int .i64 a.1.1, .slice p1_2 a.1.2.1.length q1_2, .int .i64 a.1.2.2.1, .slice p1_4 a.1.2.2.2.length q1_4, .int .i64 a.2.1, .int .i64 a.2.2.1, .slice p4 a.2.2.2.1.length q4, .slice p5 a.2.2.2.2.1.length q5, .slice p6_1 a.2.2.2.2.2.1.length q6_1, .slice p6_2 a.2.2.2.2.2.2.1.length q6_2, .slice p6_3 a.2.2.2.2.2.2.2.1.length q6_3, .slice p6_4 a.2.2.2.2.2.2.2.2.length q6_4] 32)).alloc (.cells #[.int .i64 a.1.1, .slice pb1_2 a.1.2.1.length qb1_2, .int .i64 a.1.2.2.1, .slice pb1_4 a.1.2.2.2.length qb1_4, .int .i64 a.2.1, .int .i64 a.2.2.1, .slice pb4 a.2.2.2.1.length qb4, .slice pb5 a.2.2.2.2.1.length qb5, .slice pb6_1 a.2.2.2.2.2.1.length qb6_1, .slice pb6_2 a.2.2.2.2.2.2.1.length qb6_2, .slice pb6_3 a.2.2.2.2.2.2.2.1.length qb6_3, .slice pb6_4 a.2.2.2.2.2.2.2.2.length qb6_4] 32)) (w.heap.size + 1) 32 [.int .i64 a.1.1, .slice pb1_2 a.1.2.1.length qb1_2, .int .i64 a.1.2.2.1, .slice pb1_4 a.1.2.2.2.length qb1_4, .int .i64 a.2.1, .int .i64 a.2.2.1, .slice pb4 a.2.2.2.1.length qb4, .slice pb5 a.2.2.2.2.1.length qb5, .slice pb6_1 a.2.2.2.2.2.1.length qb6_1, .slice pb6_2 a.2.2.2.2.2.2.1.length qb6_2, .slice pb6_3 a.2.2.2.2.2.2.2.1.length qb6_3, .slice pb6_4 a.2.2.2.2.2.2.2.2.length qb6_4] := by
    have h := Arr.new (w.alloc (.cells #[.int .i64 a.1.1, .slice p1_2 a.1.2.1.length q1_2, .int .i64 a.1.2.2.1, .slice p1_4 a.1.2.2.2.length q1_4, .int .i64 a.2.1, .int .i64 a.2.2.1, .slice p4 a.2.2.2.1.length q4, .slice p5 a.2.2.2.2.1.length q5, .slice p6_1 a.2.2.2.2.2.1.length q6_1, .slice p6_2 a.2.2.2.2.2.2.1.length q6_2, .slice p6_3 a.2.2.2.2.2.2.2.1.length q6_3, .slice p6_4 a.2.2.2.2.2.2.2.2.length q6_4] 32)) [.int .i64 a.1.1, .slice pb1_2 a.1.2.1.length qb1_2, .int .i64 a.1.2.2.1, .slice pb1_4 a.1.2.2.2.length qb1_4, .int .i64 a.2.1, .int .i64 a.2.2.1, .slice pb4 a.2.2.2.1.length qb4, .slice pb5 a.2.2.2.2.1.length qb5, .slice pb6_1 a.2.2.2.2.2.1.length qb6_1, .slice pb6_2 a.2.2.2.2.2.2.1.length qb6_2, .slice pb6_3 a.2.2.2.2.2.2.2.1.length qb6_3, .slice pb6_4 a.2.2.2.2.2.2.2.2.length qb6_4] 32
    rw [size_alloc] at h
    exact h
  replace r1_2 := r1_2.keep BW
  replace rb1_2 := rb1_2.keep BW
  replace r1_4 := r1_4.keep BW
  replace rb1_4 := rb1_4.keep BW
  replace r4 := r4.keep BW
  replace rb4 := rb4.keep BW
  replace r5 := r5.keep BW
  replace rb5 := rb5.keep BW
  replace r6_1 := r6_1.keep BW
  replace rb6_1 := rb6_1.keep BW
  replace r6_2 := r6_2.keep BW
  replace rb6_2 := rb6_2.keep BW
  replace r6_3 := r6_3.keep BW
  replace rb6_3 := rb6_3.keep BW
  replace r6_4 := r6_4.keep BW
  replace rb6_4 := rb6_4.keep BW
  go_enter Tryz.func88, Tryz.ntmps88
  go_wp2_with fail
  refine (eqSide_k a.1 _ _ _ (side_mk r1_2 r1_4) (side_mk rb1_2 rb1_4)).mono ?_
  rintro e w1 ⟨rfl, hb⟩
  replace A := A.stay hb
  replace B := B.stay hb
  replace BW := Below.step BW hb
  replace r1_2 := r1_2.keep hb
  replace rb1_2 := rb1_2.keep hb
  replace r1_4 := r1_4.keep hb
  replace rb1_4 := rb1_4.keep hb
  replace r4 := r4.keep hb
  replace rb4 := rb4.keep hb
  replace r5 := r5.keep hb
  replace rb5 := rb5.keep hb
  replace r6_1 := r6_1.keep hb
  replace rb6_1 := rb6_1.keep hb
  replace r6_2 := r6_2.keep hb
  replace rb6_2 := rb6_2.keep hb
  replace r6_3 := r6_3.keep hb
  replace rb6_3 := rb6_3.keep hb
  replace r6_4 := r6_4.keep hb
  replace rb6_4 := rb6_4.keep hb
  have ca0 := A.cell 0
  have cb0 := B.cell 0
  have ca1 := A.cell 1
  have cb1 := B.cell 1
  have ca2 := A.cell 2
  have cb2 := B.cell 2
  have ca3 := A.cell 3
  have cb3 := B.cell 3
  have ca4 := A.cell 4
  have cb4 := B.cell 4
  have ca5 := A.cell 5
  have cb5 := B.cell 5
  have ca6 := A.cell 6
  have cb6 := B.cell 6
  have ca7 := A.cell 7
  have cb7 := B.cell 7
  have ca8 := A.cell 8
  have cb8 := B.cell 8
  have ca9 := A.cell 9
  have cb9 := B.cell 9
  have ca10 := A.cell 10
  have cb10 := B.cell 10
  have ca11 := A.cell 11
  have cb11 := B.cell 11
  simp at ca0 cb0 ca1 cb1 ca2 cb2 ca3 cb3 ca4 cb4 ca5 cb5 ca6 cb6 ca7 cb7 ca8 cb8 ca9 cb9 ca10 cb10 ca11 cb11
  clear hb
  go_wp2_with fail
  refine (eqMsgS_c a.2.2.2.1 p4 pb4 q4 qb4 _ r4 rb4).mono ?_
  rintro e w2 ⟨rfl, hb⟩
  replace A := A.stay hb
  replace B := B.stay hb
  replace BW := Below.step BW hb
  replace r1_2 := r1_2.keep hb
  replace rb1_2 := rb1_2.keep hb
  replace r1_4 := r1_4.keep hb
  replace rb1_4 := rb1_4.keep hb
  replace r4 := r4.keep hb
  replace rb4 := rb4.keep hb
  replace r5 := r5.keep hb
  replace rb5 := rb5.keep hb
  replace r6_1 := r6_1.keep hb
  replace rb6_1 := rb6_1.keep hb
  replace r6_2 := r6_2.keep hb
  replace rb6_2 := rb6_2.keep hb
  replace r6_3 := r6_3.keep hb
  replace rb6_3 := rb6_3.keep hb
  replace r6_4 := r6_4.keep hb
  replace rb6_4 := rb6_4.keep hb
  have ca0 := A.cell 0
  have cb0 := B.cell 0
  have ca1 := A.cell 1
  have cb1 := B.cell 1
  have ca2 := A.cell 2
  have cb2 := B.cell 2
  have ca3 := A.cell 3
  have cb3 := B.cell 3
  have ca4 := A.cell 4
  have cb4 := B.cell 4
  have ca5 := A.cell 5
  have cb5 := B.cell 5
  have ca6 := A.cell 6
  have cb6 := B.cell 6
  have ca7 := A.cell 7
  have cb7 := B.cell 7
  have ca8 := A.cell 8
  have cb8 := B.cell 8
  have ca9 := A.cell 9
  have cb9 := B.cell 9
  have ca10 := A.cell 10
  have cb10 := B.cell 10
  have ca11 := A.cell 11
  have cb11 := B.cell 11
  simp at ca0 cb0 ca1 cb1 ca2 cb2 ca3 cb3 ca4 cb4 ca5 cb5 ca6 cb6 ca7 cb7 ca8 cb8 ca9 cb9 ca10 cb10 ca11 cb11
  clear hb
  go_wp2_with fail
  refine (eqByteS_c p5 pb5 q5 qb5 a.2.2.2.2.1 _ r5 rb5).mono ?_
  rintro e w3 ⟨rfl, hb⟩
  replace A := A.stay hb
  replace B := B.stay hb
  replace BW := Below.step BW hb
  replace r1_2 := r1_2.keep hb
  replace rb1_2 := rb1_2.keep hb
  replace r1_4 := r1_4.keep hb
  replace rb1_4 := rb1_4.keep hb
  replace r4 := r4.keep hb
  replace rb4 := rb4.keep hb
  replace r5 := r5.keep hb
  replace rb5 := rb5.keep hb
  replace r6_1 := r6_1.keep hb
  replace rb6_1 := rb6_1.keep hb
  replace r6_2 := r6_2.keep hb
  replace rb6_2 := rb6_2.keep hb
  replace r6_3 := r6_3.keep hb
  replace rb6_3 := rb6_3.keep hb
  replace r6_4 := r6_4.keep hb
  replace rb6_4 := rb6_4.keep hb
  have ca0 := A.cell 0
  have cb0 := B.cell 0
  have ca1 := A.cell 1
  have cb1 := B.cell 1
  have ca2 := A.cell 2
  have cb2 := B.cell 2
  have ca3 := A.cell 3
  have cb3 := B.cell 3
  have ca4 := A.cell 4
  have cb4 := B.cell 4
  have ca5 := A.cell 5
  have cb5 := B.cell 5
  have ca6 := A.cell 6
  have cb6 := B.cell 6
  have ca7 := A.cell 7
  have cb7 := B.cell 7
  have ca8 := A.cell 8
  have cb8 := B.cell 8
  have ca9 := A.cell 9
  have cb9 := B.cell 9
  have ca10 := A.cell 10
  have cb10 := B.cell 10
  have ca11 := A.cell 11
  have cb11 := B.cell 11
  simp at ca0 cb0 ca1 cb1 ca2 cb2 ca3 cb3 ca4 cb4 ca5 cb5 ca6 cb6 ca7 cb7 ca8 cb8 ca9 cb9 ca10 cb10 ca11 cb11
  clear hb
  go_wp2_with fail
  refine (eqSecrets_k a.2.2.2.2.2 _ _ _ (secrets_mk r6_1 r6_2 r6_3 r6_4) (secrets_mk rb6_1 rb6_2 rb6_3 rb6_4)).mono ?_
  rintro e w4 ⟨rfl, hb⟩
  replace A := A.stay hb
  replace B := B.stay hb
  replace BW := Below.step BW hb
  replace r1_2 := r1_2.keep hb
  replace rb1_2 := rb1_2.keep hb
  replace r1_4 := r1_4.keep hb
  replace rb1_4 := rb1_4.keep hb
  replace r4 := r4.keep hb
  replace rb4 := rb4.keep hb
  replace r5 := r5.keep hb
  replace rb5 := rb5.keep hb
  replace r6_1 := r6_1.keep hb
  replace rb6_1 := rb6_1.keep hb
  replace r6_2 := r6_2.keep hb
  replace rb6_2 := rb6_2.keep hb
  replace r6_3 := r6_3.keep hb
  replace rb6_3 := rb6_3.keep hb
  replace r6_4 := r6_4.keep hb
  replace rb6_4 := rb6_4.keep hb
  have ca0 := A.cell 0
  have cb0 := B.cell 0
  have ca1 := A.cell 1
  have cb1 := B.cell 1
  have ca2 := A.cell 2
  have cb2 := B.cell 2
  have ca3 := A.cell 3
  have cb3 := B.cell 3
  have ca4 := A.cell 4
  have cb4 := B.cell 4
  have ca5 := A.cell 5
  have cb5 := B.cell 5
  have ca6 := A.cell 6
  have cb6 := B.cell 6
  have ca7 := A.cell 7
  have cb7 := B.cell 7
  have ca8 := A.cell 8
  have cb8 := B.cell 8
  have ca9 := A.cell 9
  have cb9 := B.cell 9
  have ca10 := A.cell 10
  have cb10 := B.cell 10
  have ca11 := A.cell 11
  have cb11 := B.cell 11
  simp at ca0 cb0 ca1 cb1 ca2 cb2 ca3 cb3 ca4 cb4 ca5 cb5 ca6 cb6 ca7 cb7 ca8 cb8 ca9 cb9 ca10 cb10 ca11 cb11
  clear hb
  go_wp2
  go_ret
  exact ⟨rfl, BW⟩
set_option maxRecDepth 4000 in
set_option maxHeartbeats 1000000 in
theorem markEnd_k (a : EndD) (us : List Value) (fp : List Nat) (B m : Nat) (mi : Int) (hmi : mi = (m : Int)) (w : World) (h : endC.own w B a us fp) (hm : m + endT a ≤ 1000000000) :
    Calls Tryz.prog 92 #[.agg us.toArray, .int .i64 mi] w fun e w' => e = .returned (.int .i64 (mi + (endT a : Int))) ∧ endC.own w' B (endM a m) us fp ∧ Only fp w w' := by
  subst hmi
  obtain ⟨us0, ts0, f0, g0, rfl, rfl, nd0, k0, us1, ts1, f1, g1, rfl, rfl, nd1, k1, us2, ts2, f2, g2, rfl, rfl, nd2, k2, us3, ts3, f3, g3, rfl, rfl, nd3, k3, us4, ts4, f4, g4, rfl, rfl, nd4, k4, k5⟩ := h
  obtain ⟨p1_2, q1_2, p1_4, q1_4, e0, -, -⟩ := side_rep (sideC.toRep k0)
  subst e0
  obtain ⟨e1, ef1⟩ := k1
  subst e1 ef1
  obtain ⟨e2, ef2⟩ := k2
  subst e2 ef2
  obtain ⟨p4, q4, e3, -⟩ := msgsC.toRep k3
  subst e3
  obtain ⟨p5, q5, e4, -⟩ := bytC.toRep k4
  subst e4
  obtain ⟨p6_1, q6_1, p6_2, q6_2, p6_3, q6_3, p6_4, q6_4, e5, -, -, -, -⟩ := secrets_rep (secretsC.toRep k5)
  subst e5
  have z0 : Hid (∀ x, x ∈ f0 → x < w.heap.size) := fun x hx => (sideC.ins k0 x hx).2
  have z3 : Hid (∀ x, x ∈ f3 → x < w.heap.size) := fun x hx => (msgsC.ins k3 x hx).2
  have z4 : Hid (∀ x, x ∈ f4 → x < w.heap.size) := fun x hx => (bytC.ins k4 x hx).2
  have z5 : Hid (∀ x, x ∈ g4 → x < w.heap.size) := fun x hx => (secretsC.ins k5 x hx).2
  have d0_3 : Hid (∀ x, x ∈ f0 → x ∉ f3) := fun x h1 h2 => nodup_apart nd0 x h1 (by simp [h2])
  have d0_4 : Hid (∀ x, x ∈ f0 → x ∉ f4) := fun x h1 h2 => nodup_apart nd0 x h1 (by simp [h2])
  have d0_5 : Hid (∀ x, x ∈ f0 → x ∉ g4) := fun x h1 h2 => nodup_apart nd0 x h1 (by simp [h2])
  have d3_4 : Hid (∀ x, x ∈ f3 → x ∉ f4) := fun x h1 h2 => nodup_apart nd3 x h1 (by simp [h2])
  have d3_5 : Hid (∀ x, x ∈ f3 → x ∉ g4) := fun x h1 h2 => nodup_apart nd3 x h1 (by simp [h2])
  have d4_5 : Hid (∀ x, x ∈ f4 → x ∉ g4) := fun x h1 h2 => nodup_apart nd4 x h1 (by simp [h2])
  have s0 : Hid (∀ x, x ∈ f0 → x ∈ f0 ++ ([] ++ ([] ++ (f3 ++ (f4 ++ g4))))) := fun x hx => by simp [hx]
  have s3 : Hid (∀ x, x ∈ f3 → x ∈ f0 ++ ([] ++ ([] ++ (f3 ++ (f4 ++ g4))))) := fun x hx => by simp [hx]
  have s4 : Hid (∀ x, x ∈ f4 → x ∈ f0 ++ ([] ++ ([] ++ (f3 ++ (f4 ++ g4))))) := fun x hx => by simp [hx]
  have s5 : Hid (∀ x, x ∈ g4 → x ∈ f0 ++ ([] ++ ([] ++ (f3 ++ (f4 ++ g4))))) := fun x hx => by simp [hx]
  have A := Arr.new w [.int .i64 a.1.1, .slice p1_2 a.1.2.1.length q1_2, .int .i64 a.1.2.2.1, .slice p1_4 a.1.2.2.2.length q1_4, .int .i64 a.2.1, .int .i64 a.2.2.1, .slice p4 a.2.2.2.1.length q4, .slice p5 a.2.2.2.2.1.length q5, .slice p6_1 a.2.2.2.2.2.1.length q6_1, .slice p6_2 a.2.2.2.2.2.2.1.length q6_2, .slice p6_3 a.2.2.2.2.2.2.2.1.length q6_3, .slice p6_4 a.2.2.2.2.2.2.2.2.length q6_4] 32
  have ON : Only (f0 ++ ([] ++ ([] ++ (f3 ++ (f4 ++ g4))))) w (w.alloc (.cells #[.int .i64 a.1.1, .slice p1_2 a.1.2.1.length q1_2, .int .i64 a.1.2.2.1, .slice p1_4 a.1.2.2.2.length q1_4, .int .i64 a.2.1, .int .i64 a.2.2.1, .slice p4 a.2.2.2.1.length q4, .slice p5 a.2.2.2.2.1.length q5, .slice p6_1 a.2.2.2.2.2.1.length q6_1, .slice p6_2 a.2.2.2.2.2.2.1.length q6_2, .slice p6_3 a.2.2.2.2.2.2.2.1.length q6_3, .slice p6_4 a.2.2.2.2.2.2.2.2.length q6_4] 32)) := Only.below (alloc_below _ _)
  replace k0 := sideC.stay k0 (alloc_below _ (.cells #[.int .i64 a.1.1, .slice p1_2 a.1.2.1.length q1_2, .int .i64 a.1.2.2.1, .slice p1_4 a.1.2.2.2.length q1_4, .int .i64 a.2.1, .int .i64 a.2.2.1, .slice p4 a.2.2.2.1.length q4, .slice p5 a.2.2.2.2.1.length q5, .slice p6_1 a.2.2.2.2.2.1.length q6_1, .slice p6_2 a.2.2.2.2.2.2.1.length q6_2, .slice p6_3 a.2.2.2.2.2.2.2.1.length q6_3, .slice p6_4 a.2.2.2.2.2.2.2.2.length q6_4] 32))
  replace k3 := msgsC.stay k3 (alloc_below _ (.cells #[.int .i64 a.1.1, .slice p1_2 a.1.2.1.length q1_2, .int .i64 a.1.2.2.1, .slice p1_4 a.1.2.2.2.length q1_4, .int .i64 a.2.1, .int .i64 a.2.2.1, .slice p4 a.2.2.2.1.length q4, .slice p5 a.2.2.2.2.1.length q5, .slice p6_1 a.2.2.2.2.2.1.length q6_1, .slice p6_2 a.2.2.2.2.2.2.1.length q6_2, .slice p6_3 a.2.2.2.2.2.2.2.1.length q6_3, .slice p6_4 a.2.2.2.2.2.2.2.2.length q6_4] 32))
  replace k4 := bytC.stay k4 (alloc_below _ (.cells #[.int .i64 a.1.1, .slice p1_2 a.1.2.1.length q1_2, .int .i64 a.1.2.2.1, .slice p1_4 a.1.2.2.2.length q1_4, .int .i64 a.2.1, .int .i64 a.2.2.1, .slice p4 a.2.2.2.1.length q4, .slice p5 a.2.2.2.2.1.length q5, .slice p6_1 a.2.2.2.2.2.1.length q6_1, .slice p6_2 a.2.2.2.2.2.2.1.length q6_2, .slice p6_3 a.2.2.2.2.2.2.2.1.length q6_3, .slice p6_4 a.2.2.2.2.2.2.2.2.length q6_4] 32))
  replace k5 := secretsC.stay k5 (alloc_below _ (.cells #[.int .i64 a.1.1, .slice p1_2 a.1.2.1.length q1_2, .int .i64 a.1.2.2.1, .slice p1_4 a.1.2.2.2.length q1_4, .int .i64 a.2.1, .int .i64 a.2.2.1, .slice p4 a.2.2.2.1.length q4, .slice p5 a.2.2.2.2.1.length q5, .slice p6_1 a.2.2.2.2.2.1.length q6_1, .slice p6_2 a.2.2.2.2.2.2.1.length q6_2, .slice p6_3 a.2.2.2.2.2.2.2.1.length q6_3, .slice p6_4 a.2.2.2.2.2.2.2.2.length q6_4] 32))
  have ND0 : Hid _ := nd0
  have ND1 : Hid _ := nd1
  have ND2 : Hid _ := nd2
  have ND3 : Hid _ := nd3
  have ND4 : Hid _ := nd4
  clear nd0 nd1 nd2 nd3 nd4
  have hT : Hid (m + (sideT a.1 + bulkM a.2.2.2.1 + a.2.2.2.2.1.length + secretsT a.2.2.2.2.2) ≤ 1000000000) := hm
  clear hm
  go_enter Tryz.func92, Tryz.ntmps92
  go_wp2_with fail
  refine (markSide_k a.1 _ _ B m _ (by first | rfl | simp | (simp; omega) | (push_cast; omega)) _ k0 (by have := hT.out; omega)).mono ?_
  rintro e w1 ⟨rfl, k0, ho⟩
  replace k3 := msgsC.other k3 ho (fun x h1 h2 => d0_3.out x h2 h1)
  replace k4 := bytC.other k4 ho (fun x h1 h2 => d0_4.out x h2 h1)
  replace k5 := secretsC.other k5 ho (fun x h1 h2 => d0_5.out x h2 h1)
  replace A := A.only ho (fun h => Nat.lt_irrefl _ (z0.out _ h))
  replace ON := ON.trans_sub ho s0.out
  have ca0 := A.cell 0
  have ca1 := A.cell 1
  have ca2 := A.cell 2
  have ca3 := A.cell 3
  have ca4 := A.cell 4
  have ca5 := A.cell 5
  have ca6 := A.cell 6
  have ca7 := A.cell 7
  have ca8 := A.cell 8
  have ca9 := A.cell 9
  have ca10 := A.cell 10
  have ca11 := A.cell 11
  simp at ca0 ca1 ca2 ca3 ca4 ca5 ca6 ca7 ca8 ca9 ca10 ca11
  clear ho
  go_wp2_with fail
  refine (markMsgS_k a.2.2.2.1 _ _ B (m + sideT a.1) _ (by first | rfl | simp | (simp; omega) | (push_cast; omega)) _ k3 (by have := hT.out; omega) (by have := hT.out; omega)).mono ?_
  rintro e w2 ⟨rfl, k3, ho⟩
  replace k0 := sideC.other k0 ho (fun x h1 h2 => d0_3.out x h1 h2)
  replace k4 := bytC.other k4 ho (fun x h1 h2 => d3_4.out x h2 h1)
  replace k5 := secretsC.other k5 ho (fun x h1 h2 => d3_5.out x h2 h1)
  replace A := A.only ho (fun h => Nat.lt_irrefl _ (z3.out _ h))
  replace ON := ON.trans_sub ho s3.out
  have ca0 := A.cell 0
  have ca1 := A.cell 1
  have ca2 := A.cell 2
  have ca3 := A.cell 3
  have ca4 := A.cell 4
  have ca5 := A.cell 5
  have ca6 := A.cell 6
  have ca7 := A.cell 7
  have ca8 := A.cell 8
  have ca9 := A.cell 9
  have ca10 := A.cell 10
  have ca11 := A.cell 11
  simp at ca0 ca1 ca2 ca3 ca4 ca5 ca6 ca7 ca8 ca9 ca10 ca11
  clear ho
  go_wp2_with fail
  refine (markByteS_k a.2.2.2.2.1 _ _ B ((m + sideT a.1) + bulkM a.2.2.2.1) _ (by first | rfl | simp | (simp; omega) | (push_cast; omega)) _ k4 (by have := hT.out; omega)).mono ?_
  rintro e w3 ⟨rfl, k4, ho⟩
  replace k0 := sideC.other k0 ho (fun x h1 h2 => d0_4.out x h1 h2)
  replace k3 := msgsC.other k3 ho (fun x h1 h2 => d3_4.out x h1 h2)
  replace k5 := secretsC.other k5 ho (fun x h1 h2 => d4_5.out x h2 h1)
  replace A := A.only ho (fun h => Nat.lt_irrefl _ (z4.out _ h))
  replace ON := ON.trans_sub ho s4.out
  have ca0 := A.cell 0
  have ca1 := A.cell 1
  have ca2 := A.cell 2
  have ca3 := A.cell 3
  have ca4 := A.cell 4
  have ca5 := A.cell 5
  have ca6 := A.cell 6
  have ca7 := A.cell 7
  have ca8 := A.cell 8
  have ca9 := A.cell 9
  have ca10 := A.cell 10
  have ca11 := A.cell 11
  simp at ca0 ca1 ca2 ca3 ca4 ca5 ca6 ca7 ca8 ca9 ca10 ca11
  clear ho
  go_wp2_with fail
  refine (markSecrets_k a.2.2.2.2.2 _ _ B (((m + sideT a.1) + bulkM a.2.2.2.1) + a.2.2.2.2.1.length) _ (by first | rfl | simp | (simp; omega) | (push_cast; omega)) _ k5 (by have := hT.out; omega)).mono ?_
  rintro e w4 ⟨rfl, k5, ho⟩
  replace k0 := sideC.other k0 ho (fun x h1 h2 => d0_5.out x h1 h2)
  replace k3 := msgsC.other k3 ho (fun x h1 h2 => d3_5.out x h1 h2)
  replace k4 := bytC.other k4 ho (fun x h1 h2 => d4_5.out x h1 h2)
  replace A := A.only ho (fun h => Nat.lt_irrefl _ (z5.out _ h))
  replace ON := ON.trans_sub ho s5.out
  have ca0 := A.cell 0
  have ca1 := A.cell 1
  have ca2 := A.cell 2
  have ca3 := A.cell 3
  have ca4 := A.cell 4
  have ca5 := A.cell 5
  have ca6 := A.cell 6
  have ca7 := A.cell 7
  have ca8 := A.cell 8
  have ca9 := A.cell 9
  have ca10 := A.cell 10
  have ca11 := A.cell 11
  simp at ca0 ca1 ca2 ca3 ca4 ca5 ca6 ca7 ca8 ca9 ca10 ca11
  clear ho
  go_wp2
  go_ret
  exact ⟨by unfold endT; simp; try omega, ⟨_, _, _, _, rfl, rfl, ND0.out, k0, ⟨_, _, [], _, rfl, rfl, ND1.out, ⟨rfl, rfl⟩, ⟨_, _, [], _, rfl, rfl, ND2.out, ⟨rfl, rfl⟩, ⟨_, _, _, _, rfl, rfl, ND3.out, k3, ⟨_, _, _, _, rfl, rfl, ND4.out, k4, k5⟩⟩⟩⟩⟩, ON⟩
set_option maxRecDepth 4000 in
set_option maxHeartbeats 1000000 in
theorem heldEnd_k (a : EndD) (us : List Value) (m : Nat) (mi : Int) (hmi : mi = (m : Int)) (w : World) (h : endC.rep w (endM a m) us) (hm : m + endT a ≤ 1048577) :
    Calls Tryz.prog 94 #[.agg us.toArray, .int .i64 mi] w fun e w' => e = .returned (.int .i64 (mi + (endT a : Int))) ∧ Below w.heap.size w w' := by
  subst hmi
  obtain ⟨us0, ts0, rfl, h0, us1, ts1, rfl, h1, us2, ts2, rfl, h2, us3, ts3, rfl, h3, us4, ts4, rfl, h4, h5⟩ := h
  replace h0 : sideC.rep w (sideM a.1 m) _ := h0
  obtain ⟨p1_2, q1_2, p1_4, q1_4, e0, -, -⟩ := side_rep h0
  subst e0
  have e1 : us1 = [Value.int .i64 (endM a m).2.1] := h1
  subst e1
  have e2 : us2 = [Value.int .i64 (endM a m).2.2.1] := h2
  subst e2
  replace h3 : msgsC.rep w (mkM a.2.2.2.1 (m + sideT a.1)) _ := h3
  obtain ⟨p4, q4, e3, -⟩ := id h3
  subst e3
  obtain ⟨p5, q5, rfl, r5⟩ := h4
  replace h5 : secretsC.rep w (secretsM a.2.2.2.2.2 (((m + sideT a.1) + bulkM a.2.2.2.1) + a.2.2.2.2.1.length)) _ := h5
  obtain ⟨p6_1, q6_1, p6_2, q6_2, p6_3, q6_3, p6_4, q6_4, e5, -, -, -, -⟩ := secrets_rep h5
  subst e5
  have A := Arr.new w [.int .i64 (sideM a.1 m).1, .slice p1_2 (sideM a.1 m).2.1.length q1_2, .int .i64 (sideM a.1 m).2.2.1, .slice p1_4 (sideM a.1 m).2.2.2.length q1_4, .int .i64 (endM a m).2.1, .int .i64 (endM a m).2.2.1, .slice p4 (mkM a.2.2.2.1 (m + sideT a.1)).length q4, .slice p5 (endM a m).2.2.2.2.1.length q5, .slice p6_1 (secretsM a.2.2.2.2.2 (((m + sideT a.1) + bulkM a.2.2.2.1) + a.2.2.2.2.1.length)).1.length q6_1, .slice p6_2 (secretsM a.2.2.2.2.2 (((m + sideT a.1) + bulkM a.2.2.2.1) + a.2.2.2.2.1.length)).2.1.length q6_2, .slice p6_3 (secretsM a.2.2.2.2.2 (((m + sideT a.1) + bulkM a.2.2.2.1) + a.2.2.2.2.1.length)).2.2.1.length q6_3, .slice p6_4 (secretsM a.2.2.2.2.2 (((m + sideT a.1) + bulkM a.2.2.2.1) + a.2.2.2.2.1.length)).2.2.2.length q6_4] 32
  have BW := alloc_below w (.cells #[.int .i64 (sideM a.1 m).1, .slice p1_2 (sideM a.1 m).2.1.length q1_2, .int .i64 (sideM a.1 m).2.2.1, .slice p1_4 (sideM a.1 m).2.2.2.length q1_4, .int .i64 (endM a m).2.1, .int .i64 (endM a m).2.2.1, .slice p4 (mkM a.2.2.2.1 (m + sideT a.1)).length q4, .slice p5 (endM a m).2.2.2.2.1.length q5, .slice p6_1 (secretsM a.2.2.2.2.2 (((m + sideT a.1) + bulkM a.2.2.2.1) + a.2.2.2.2.1.length)).1.length q6_1, .slice p6_2 (secretsM a.2.2.2.2.2 (((m + sideT a.1) + bulkM a.2.2.2.1) + a.2.2.2.2.1.length)).2.1.length q6_2, .slice p6_3 (secretsM a.2.2.2.2.2 (((m + sideT a.1) + bulkM a.2.2.2.1) + a.2.2.2.2.1.length)).2.2.1.length q6_3, .slice p6_4 (secretsM a.2.2.2.2.2 (((m + sideT a.1) + bulkM a.2.2.2.1) + a.2.2.2.2.1.length)).2.2.2.length q6_4] 32)
  replace h0 := sideC.keep h0 BW
  replace h3 := msgsC.keep h3 BW
  replace r5 := r5.keep BW
  replace h5 := secretsC.keep h5 BW
  have hT : Hid (m + (sideT a.1 + bulkM a.2.2.2.1 + a.2.2.2.2.1.length + secretsT a.2.2.2.2.2) ≤ 1048577) := hm
  clear hm
  go_enter Tryz.func94, Tryz.ntmps94
  go_wp2_with fail
  refine (heldSide_k a.1 _ m _ (by first | rfl | simp | (simp; omega) | (push_cast; omega)) _ h0 (by have := hT.out; omega)).mono ?_
  rintro e w1 ⟨rfl, hb⟩
  replace A := A.stay hb
  replace BW := Below.step BW hb
  replace h0 := sideC.keep h0 hb
  replace h3 := msgsC.keep h3 hb
  replace r5 := r5.keep hb
  replace h5 := secretsC.keep h5 hb
  have ca0 := A.cell 0
  have ca1 := A.cell 1
  have ca2 := A.cell 2
  have ca3 := A.cell 3
  have ca4 := A.cell 4
  have ca5 := A.cell 5
  have ca6 := A.cell 6
  have ca7 := A.cell 7
  have ca8 := A.cell 8
  have ca9 := A.cell 9
  have ca10 := A.cell 10
  have ca11 := A.cell 11
  simp at ca0 ca1 ca2 ca3 ca4 ca5 ca6 ca7 ca8 ca9 ca10 ca11
  clear hb
  go_wp2_with fail
  refine (heldMsgS_k a.2.2.2.1 _ (m + sideT a.1) _ (by first | rfl | simp | (simp; omega) | (push_cast; omega)) _ h3 (by have := hT.out; omega)).mono ?_
  rintro e w2 ⟨rfl, hb⟩
  replace A := A.stay hb
  replace BW := Below.step BW hb
  replace h0 := sideC.keep h0 hb
  replace h3 := msgsC.keep h3 hb
  replace r5 := r5.keep hb
  replace h5 := secretsC.keep h5 hb
  have ca0 := A.cell 0
  have ca1 := A.cell 1
  have ca2 := A.cell 2
  have ca3 := A.cell 3
  have ca4 := A.cell 4
  have ca5 := A.cell 5
  have ca6 := A.cell 6
  have ca7 := A.cell 7
  have ca8 := A.cell 8
  have ca9 := A.cell 9
  have ca10 := A.cell 10
  have ca11 := A.cell 11
  simp at ca0 ca1 ca2 ca3 ca4 ca5 ca6 ca7 ca8 ca9 ca10 ca11
  clear hb
  go_wp2_with fail
  refine (heldByteS_k (endM a m).2.2.2.2.1 p5 q5 a.2.2.2.2.1.length ((m + sideT a.1) + bulkM a.2.2.2.1) rfl _ (by first | rfl | simp | (simp; omega) | (push_cast; omega)) _ r5 (by have := hT.out; omega)).mono ?_
  rintro e w3 ⟨rfl, hw⟩
  subst hw
  go_wp2_with fail
  refine (heldSecrets_k a.2.2.2.2.2 _ (((m + sideT a.1) + bulkM a.2.2.2.1) + a.2.2.2.2.1.length) _ (by first | rfl | simp | (simp; omega) | (push_cast; omega)) _ h5 (by have := hT.out; omega)).mono ?_
  rintro e w4 ⟨rfl, hb⟩
  replace A := A.stay hb
  replace BW := Below.step BW hb
  replace h0 := sideC.keep h0 hb
  replace h3 := msgsC.keep h3 hb
  replace r5 := r5.keep hb
  replace h5 := secretsC.keep h5 hb
  have ca0 := A.cell 0
  have ca1 := A.cell 1
  have ca2 := A.cell 2
  have ca3 := A.cell 3
  have ca4 := A.cell 4
  have ca5 := A.cell 5
  have ca6 := A.cell 6
  have ca7 := A.cell 7
  have ca8 := A.cell 8
  have ca9 := A.cell 9
  have ca10 := A.cell 10
  have ca11 := A.cell 11
  simp at ca0 ca1 ca2 ca3 ca4 ca5 ca6 ca7 ca8 ca9 ca10 ca11
  clear hb
  go_wp2
  go_ret
  exact ⟨by unfold endT; simp; try omega, BW⟩
end Go.Proofs.YtiabacnmmojfjaaGreatDoor
