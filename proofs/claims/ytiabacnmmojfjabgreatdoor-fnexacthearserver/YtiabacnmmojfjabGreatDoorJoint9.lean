import Derived.Test.YtiabacnmmojfjabGreatDoorJoint7
import Derived.Test.YtiabacnmmojfjabGreatDoorMsgC
namespace Go.Proofs.YtiabacnmmojfjabGreatDoor
open Go.ChangeShapes Go.WideShapes Go.ChangeAt Go.RowKit
abbrev SecretsD := List UInt8 × List UInt8 × List UInt8 × List UInt8
def secretsC : Cod SecretsD := prodC bytC (prodC bytC (prodC bytC bytC))
theorem secrets_rep {w : World} {a : SecretsD} {vs : List Value} (h : secretsC.rep w a vs) : ∃ p1 q1 p2 q2 p3 q3 p4 q4, vs = [.slice p1 a.1.length q1, .slice p2 a.2.1.length q2, .slice p3 a.2.2.1.length q3, .slice p4 a.2.2.2.length q4] ∧ Rd w p1 q1 a.1 ∧ Rd w p2 q2 a.2.1 ∧ Rd w p3 q3 a.2.2.1 ∧ Rd w p4 q4 a.2.2.2 := by
 obtain ⟨us0, ts0, rfl, h0, us1, ts1, rfl, h1, us2, ts2, rfl, h2, h3⟩ := h
 obtain ⟨p1, q1, rfl, r1⟩ := h0
 obtain ⟨p2, q2, rfl, r2⟩ := h1
 obtain ⟨p3, q3, rfl, r3⟩ := h2
 obtain ⟨p4, q4, rfl, r4⟩ := h3
 exact ⟨p1, q1, p2, q2, p3, q3, p4, q4, rfl, r1, r2, r3, r4⟩
theorem secrets_mk {w : World} {a : SecretsD} {p1 : Option Addr} {q1 : Nat} {p2 : Option Addr} {q2 : Nat} {p3 : Option Addr} {q3 : Nat} {p4 : Option Addr} {q4 : Nat} (r1 : Rd w p1 q1 a.1) (r2 : Rd w p2 q2 a.2.1) (r3 : Rd w p3 q3 a.2.2.1) (r4 : Rd w p4 q4 a.2.2.2) : secretsC.rep w a [.slice p1 a.1.length q1, .slice p2 a.2.1.length q2, .slice p3 a.2.2.1.length q3, .slice p4 a.2.2.2.length q4] := ⟨[.slice p1 a.1.length q1], _, rfl, ⟨p1, q1, rfl, r1⟩, ⟨[.slice p2 a.2.1.length q2], _, rfl, ⟨p2, q2, rfl, r2⟩, ⟨[.slice p3 a.2.2.1.length q3], _, rfl, ⟨p3, q3, rfl, r3⟩, ⟨p4, q4, rfl, r4⟩⟩⟩⟩
def secretsT (a : SecretsD) : Nat := a.1.length + a.2.1.length + a.2.2.1.length + a.2.2.2.length
def secretsM (a : SecretsD) (m : Nat) : SecretsD := (marks m a.1.length, marks (m + a.1.length) a.2.1.length, marks ((m + a.1.length) + a.2.1.length) a.2.2.1.length, marks (((m + a.1.length) + a.2.1.length) + a.2.2.1.length) a.2.2.2.length)
def secretsN (a : SecretsD) : Nat := a.1.length + a.2.1.length + a.2.2.1.length + a.2.2.2.length
theorem secretsT_le (a : SecretsD) : secretsT a ≤ 8 * secretsN a := by
 unfold secretsT secretsN
 omega
set_option maxRecDepth 4000 in
set_option maxHeartbeats 1000000 in
theorem toSecrets_k (a : SecretsD) (us : List Value) (w : World) (h : secretsC.rep w a us) (hl : secretsN a ≤ 1048576) :
  Calls Tryz.prog 48 #[.agg us.toArray] w fun e w' => ∃ vs fp, e = .returned (.agg vs.toArray) ∧ secretsC.own w' w.heap.size a vs fp ∧ Below w.heap.size w w' := by
 obtain ⟨p1, q1, p2, q2, p3, q3, p4, q4, rfl, r1, r2, r3, r4⟩ := secrets_rep h
 clear h
 have BW : Below w.heap.size w (((w.alloc (.cells #[.slice p1 a.1.length q1, .slice p2 a.2.1.length q2, .slice p3 a.2.2.1.length q3, .slice p4 a.2.2.2.length q4] 27)).alloc (.cells #[.slice none 0 0, .slice none 0 0, .slice none 0 0, .slice none 0 0] 34)).alloc (.cells #[.slice none 0 0, .slice none 0 0, .slice none 0 0, .slice none 0 0] 34)) := Below.mk (Below.mk (alloc_below _ _) _) _
 have R : Arr (((w.alloc (.cells #[.slice p1 a.1.length q1, .slice p2 a.2.1.length q2, .slice p3 a.2.2.1.length q3, .slice p4 a.2.2.2.length q4] 27)).alloc (.cells #[.slice none 0 0, .slice none 0 0, .slice none 0 0, .slice none 0 0] 34)).alloc (.cells #[.slice none 0 0, .slice none 0 0, .slice none 0 0, .slice none 0 0] 34)) (w.heap.size + 1) 34 [.slice none 0 0, .slice none 0 0, .slice none 0 0, .slice none 0 0] := by
  have h := Arr.new (w.alloc (.cells #[.slice p1 a.1.length q1, .slice p2 a.2.1.length q2, .slice p3 a.2.2.1.length q3, .slice p4 a.2.2.2.length q4] 27)) [.slice none 0 0, .slice none 0 0, .slice none 0 0, .slice none 0 0] 34
  rw [size_alloc] at h
  exact h.old _ _
 have A : Arr (((w.alloc (.cells #[.slice p1 a.1.length q1, .slice p2 a.2.1.length q2, .slice p3 a.2.2.1.length q3, .slice p4 a.2.2.2.length q4] 27)).alloc (.cells #[.slice none 0 0, .slice none 0 0, .slice none 0 0, .slice none 0 0] 34)).alloc (.cells #[.slice none 0 0, .slice none 0 0, .slice none 0 0, .slice none 0 0] 34)) w.heap.size 27 [.slice p1 a.1.length q1, .slice p2 a.2.1.length q2, .slice p3 a.2.2.1.length q3, .slice p4 a.2.2.2.length q4] := Arr.old _ _ (Arr.old _ _ (Arr.new w [.slice p1 a.1.length q1, .slice p2 a.2.1.length q2, .slice p3 a.2.2.1.length q3, .slice p4 a.2.2.2.length q4] 27))
 have O : Arr (((w.alloc (.cells #[.slice p1 a.1.length q1, .slice p2 a.2.1.length q2, .slice p3 a.2.2.1.length q3, .slice p4 a.2.2.2.length q4] 27)).alloc (.cells #[.slice none 0 0, .slice none 0 0, .slice none 0 0, .slice none 0 0] 34)).alloc (.cells #[.slice none 0 0, .slice none 0 0, .slice none 0 0, .slice none 0 0] 34)) (w.heap.size + 1 + 1) 34 [.slice none 0 0, .slice none 0 0, .slice none 0 0, .slice none 0 0] := by
  have h := Arr.new ((w.alloc (.cells #[.slice p1 a.1.length q1, .slice p2 a.2.1.length q2, .slice p3 a.2.2.1.length q3, .slice p4 a.2.2.2.length q4] 27)).alloc (.cells #[.slice none 0 0, .slice none 0 0, .slice none 0 0, .slice none 0 0] 34)) [.slice none 0 0, .slice none 0 0, .slice none 0 0, .slice none 0 0] 34
  rw [size_alloc, size_alloc] at h
  exact h
 have z0 : Hid ((((w.alloc (.cells #[.slice p1 a.1.length q1, .slice p2 a.2.1.length q2, .slice p3 a.2.2.1.length q3, .slice p4 a.2.2.2.length q4] 27)).alloc (.cells #[.slice none 0 0, .slice none 0 0, .slice none 0 0, .slice none 0 0] 34)).alloc (.cells #[.slice none 0 0, .slice none 0 0, .slice none 0 0, .slice none 0 0] 34)).heap.size = w.heap.size + 3) := by show _ = _; rw [size_alloc, size_alloc, size_alloc]
 have R1 : Hid (Rd w p1 q1 a.1) := r1
 have R2 : Hid (Rd w p2 q2 a.2.1) := r2
 have R3 : Hid (Rd w p3 q3 a.2.2.1) := r3
 have R4 : Hid (Rd w p4 q4 a.2.2.2) := r4
 clear r1 r2 r3 r4
 have HL : Hid (a.1.length + a.2.1.length + a.2.2.1.length + a.2.2.2.length ≤ 1048576) := hl
 clear hl
 go_enter Tryz.func48, Tryz.ntmps48
 go_wp2_with fail
 refine (toByteS_k a.1 _ _ ⟨p1, q1, rfl, R1.out.keep BW⟩ (by have := HL.out; omega)).mono ?_
 rintro e w1 ⟨v0, fp0, rfl, k0, hb⟩
 rw [z0.out] at k0
 have z1 : Hid (w.heap.size + 3 ≤ w1.heap.size) := by have h := hb.size; rw [z0.out] at h; exact h
 have g0 : Hid (∀ k, k ∈ fp0 → w.heap.size + 3 ≤ k ∧ k < w1.heap.size) := fun k hk => bytC.ins k0 k hk
 replace A := A.stay hb
 replace R := R.stay hb
 replace O := O.stay hb
 replace BW := Below.step BW hb
 obtain ⟨pv1, qv1, e0, -⟩ := bytC.toRep k0
 simp only [List.cons.injEq, and_true] at e0
 subst e0
 have ca0 := (A.cell 0).trans (show _ = some _ from rfl)
 have co0 := (O.cell 0).trans (show _ = some _ from rfl)
 have cr0 := (R.cell 0).trans (show _ = some _ from rfl)
 have ca1 := (A.cell 1).trans (show _ = some _ from rfl)
 have co1 := (O.cell 1).trans (show _ = some _ from rfl)
 have cr1 := (R.cell 1).trans (show _ = some _ from rfl)
 have ca2 := (A.cell 2).trans (show _ = some _ from rfl)
 have co2 := (O.cell 2).trans (show _ = some _ from rfl)
 have cr2 := (R.cell 2).trans (show _ = some _ from rfl)
 have ca3 := (A.cell 3).trans (show _ = some _ from rfl)
 have co3 := (O.cell 3).trans (show _ = some _ from rfl)
 have cr3 := (R.cell 3).trans (show _ = some _ from rfl)
 have fo := O.frozen
 have fr := R.frozen
 clear hb
 go_wp2_with fail
 replace A := A.setOther (a := ⟨w.heap.size + 1 + 1, 0, none⟩) (by simp; omega) (.slice pv1 a.1.length qv1)
 replace R := R.setOther (a := ⟨w.heap.size + 1 + 1, 0, none⟩) (by simp) (.slice pv1 a.1.length qv1)
 replace O := O.set 0 (.slice pv1 a.1.length qv1)
 replace BW := BW.setCell (p := ⟨w.heap.size + 1 + 1, 0, none⟩) (by show w.heap.size ≤ w.heap.size + 1 + 1; omega) (.slice pv1 a.1.length qv1)
 replace k0 := bytC.set k0 (p := ⟨w.heap.size + 1 + 1, 0, none⟩) (by show w.heap.size + 1 + 1 < w.heap.size + 3; omega) (.slice pv1 a.1.length qv1)
 simp only [List.set_cons_zero] at O
 refine (toByteS_k a.2.1 _ _ ⟨p2, q2, rfl, R2.out.keep BW⟩ (by have := HL.out; omega)).mono ?_
 rintro e w2 ⟨v1, fp1, rfl, k1, hb⟩
 simp only [World.size_setCell] at k1
 have z2 : Hid (w1.heap.size ≤ w2.heap.size) := by have h := hb.size; simp only [World.size_setCell] at h; exact h
 have g1 : Hid (∀ k, k ∈ fp1 → w1.heap.size ≤ k ∧ k < w2.heap.size) := fun k hk => bytC.ins k1 k hk
 replace k1 := bytC.low k1 (show w.heap.size + 3 ≤ w1.heap.size by have := z1.out; omega)
 replace A := A.stay hb
 replace R := R.stay hb
 replace O := O.stay hb
 replace BW := Below.step BW hb
 replace k0 := bytC.stay k0 hb
 obtain ⟨pv2, qv2, e1, -⟩ := bytC.toRep k1
 simp only [List.cons.injEq, and_true] at e1
 subst e1
 have ca0 := (A.cell 0).trans (show _ = some _ from rfl)
 have co0 := (O.cell 0).trans (show _ = some _ from rfl)
 have cr0 := (R.cell 0).trans (show _ = some _ from rfl)
 have ca1 := (A.cell 1).trans (show _ = some _ from rfl)
 have co1 := (O.cell 1).trans (show _ = some _ from rfl)
 have cr1 := (R.cell 1).trans (show _ = some _ from rfl)
 have ca2 := (A.cell 2).trans (show _ = some _ from rfl)
 have co2 := (O.cell 2).trans (show _ = some _ from rfl)
 have cr2 := (R.cell 2).trans (show _ = some _ from rfl)
 have ca3 := (A.cell 3).trans (show _ = some _ from rfl)
 have co3 := (O.cell 3).trans (show _ = some _ from rfl)
 have cr3 := (R.cell 3).trans (show _ = some _ from rfl)
 have fo := O.frozen
 have fr := R.frozen
 clear hb
 go_wp2_with fail
 replace A := A.setOther (a := ⟨w.heap.size + 1 + 1, 1, none⟩) (by simp; omega) (.slice pv2 a.2.1.length qv2)
 replace R := R.setOther (a := ⟨w.heap.size + 1 + 1, 1, none⟩) (by simp) (.slice pv2 a.2.1.length qv2)
 replace O := O.set 1 (.slice pv2 a.2.1.length qv2)
 replace BW := BW.setCell (p := ⟨w.heap.size + 1 + 1, 1, none⟩) (by show w.heap.size ≤ w.heap.size + 1 + 1; omega) (.slice pv2 a.2.1.length qv2)
 replace k0 := bytC.set k0 (p := ⟨w.heap.size + 1 + 1, 1, none⟩) (by show w.heap.size + 1 + 1 < w.heap.size + 3; omega) (.slice pv2 a.2.1.length qv2)
 replace k1 := bytC.set k1 (p := ⟨w.heap.size + 1 + 1, 1, none⟩) (by show w.heap.size + 1 + 1 < w.heap.size + 3; omega) (.slice pv2 a.2.1.length qv2)
 simp only [List.set_cons_zero, List.set_cons_succ] at O
 refine (toByteS_k a.2.2.1 _ _ ⟨p3, q3, rfl, R3.out.keep BW⟩ (by have := HL.out; omega)).mono ?_
 rintro e w3 ⟨v2, fp2, rfl, k2, hb⟩
 simp only [World.size_setCell] at k2
 have z3 : Hid (w2.heap.size ≤ w3.heap.size) := by have h := hb.size; simp only [World.size_setCell] at h; exact h
 have g2 : Hid (∀ k, k ∈ fp2 → w2.heap.size ≤ k ∧ k < w3.heap.size) := fun k hk => bytC.ins k2 k hk
 replace k2 := bytC.low k2 (show w.heap.size + 3 ≤ w2.heap.size by have := z1.out; have := z2.out; omega)
 replace A := A.stay hb
 replace R := R.stay hb
 replace O := O.stay hb
 replace BW := Below.step BW hb
 replace k0 := bytC.stay k0 hb
 replace k1 := bytC.stay k1 hb
 obtain ⟨pv3, qv3, e2, -⟩ := bytC.toRep k2
 simp only [List.cons.injEq, and_true] at e2
 subst e2
 have ca0 := (A.cell 0).trans (show _ = some _ from rfl)
 have co0 := (O.cell 0).trans (show _ = some _ from rfl)
 have cr0 := (R.cell 0).trans (show _ = some _ from rfl)
 have ca1 := (A.cell 1).trans (show _ = some _ from rfl)
 have co1 := (O.cell 1).trans (show _ = some _ from rfl)
 have cr1 := (R.cell 1).trans (show _ = some _ from rfl)
 have ca2 := (A.cell 2).trans (show _ = some _ from rfl)
 have co2 := (O.cell 2).trans (show _ = some _ from rfl)
 have cr2 := (R.cell 2).trans (show _ = some _ from rfl)
 have ca3 := (A.cell 3).trans (show _ = some _ from rfl)
 have co3 := (O.cell 3).trans (show _ = some _ from rfl)
 have cr3 := (R.cell 3).trans (show _ = some _ from rfl)
 have fo := O.frozen
 have fr := R.frozen
 clear hb
 go_wp2_with fail
 replace A := A.setOther (a := ⟨w.heap.size + 1 + 1, 2, none⟩) (by simp; omega) (.slice pv3 a.2.2.1.length qv3)
 replace R := R.setOther (a := ⟨w.heap.size + 1 + 1, 2, none⟩) (by simp) (.slice pv3 a.2.2.1.length qv3)
 replace O := O.set 2 (.slice pv3 a.2.2.1.length qv3)
 replace BW := BW.setCell (p := ⟨w.heap.size + 1 + 1, 2, none⟩) (by show w.heap.size ≤ w.heap.size + 1 + 1; omega) (.slice pv3 a.2.2.1.length qv3)
 replace k0 := bytC.set k0 (p := ⟨w.heap.size + 1 + 1, 2, none⟩) (by show w.heap.size + 1 + 1 < w.heap.size + 3; omega) (.slice pv3 a.2.2.1.length qv3)
 replace k1 := bytC.set k1 (p := ⟨w.heap.size + 1 + 1, 2, none⟩) (by show w.heap.size + 1 + 1 < w.heap.size + 3; omega) (.slice pv3 a.2.2.1.length qv3)
 replace k2 := bytC.set k2 (p := ⟨w.heap.size + 1 + 1, 2, none⟩) (by show w.heap.size + 1 + 1 < w.heap.size + 3; omega) (.slice pv3 a.2.2.1.length qv3)
 simp only [List.set_cons_zero, List.set_cons_succ] at O
 refine (toByteS_k a.2.2.2 _ _ ⟨p4, q4, rfl, R4.out.keep BW⟩ (by have := HL.out; omega)).mono ?_
 rintro e w4 ⟨v3, fp3, rfl, k3, hb⟩
 simp only [World.size_setCell] at k3
 have z4 : Hid (w3.heap.size ≤ w4.heap.size) := by have h := hb.size; simp only [World.size_setCell] at h; exact h
 have g3 : Hid (∀ k, k ∈ fp3 → w3.heap.size ≤ k ∧ k < w4.heap.size) := fun k hk => bytC.ins k3 k hk
 replace k3 := bytC.low k3 (show w.heap.size + 3 ≤ w3.heap.size by have := z1.out; have := z2.out; have := z3.out; omega)
 replace A := A.stay hb
 replace R := R.stay hb
 replace O := O.stay hb
 replace BW := Below.step BW hb
 replace k0 := bytC.stay k0 hb
 replace k1 := bytC.stay k1 hb
 replace k2 := bytC.stay k2 hb
 obtain ⟨pv4, qv4, e3, -⟩ := bytC.toRep k3
 simp only [List.cons.injEq, and_true] at e3
 subst e3
 have ca0 := (A.cell 0).trans (show _ = some _ from rfl)
 have co0 := (O.cell 0).trans (show _ = some _ from rfl)
 have cr0 := (R.cell 0).trans (show _ = some _ from rfl)
 have ca1 := (A.cell 1).trans (show _ = some _ from rfl)
 have co1 := (O.cell 1).trans (show _ = some _ from rfl)
 have cr1 := (R.cell 1).trans (show _ = some _ from rfl)
 have ca2 := (A.cell 2).trans (show _ = some _ from rfl)
 have co2 := (O.cell 2).trans (show _ = some _ from rfl)
 have cr2 := (R.cell 2).trans (show _ = some _ from rfl)
 have ca3 := (A.cell 3).trans (show _ = some _ from rfl)
 have co3 := (O.cell 3).trans (show _ = some _ from rfl)
 have cr3 := (R.cell 3).trans (show _ = some _ from rfl)
 have fo := O.frozen
 have fr := R.frozen
 clear hb
 go_wp2_with fail
 refine bodyPost_ret (v := .agg #[.slice pv1 a.1.length qv1, .slice pv2 a.2.1.length qv2, .slice pv3 a.2.2.1.length qv3, .slice pv4 a.2.2.2.length qv4]) (by simp [results, Tryz.results48, go_sem, cr0, cr1, cr2, cr3]) rfl ⟨[.slice pv1 a.1.length qv1, .slice pv2 a.2.1.length qv2, .slice pv3 a.2.2.1.length qv3, .slice pv4 a.2.2.2.length qv4], _, rfl, secretsC.low (own_pair w1.heap.size (bytC.set (bytC.set (bytC.set (bytC.set (bytC.set k0 (show w.heap.size + 1 + 1 < w.heap.size + 3 by omega) _) (show w.heap.size + 1 < w.heap.size + 3 by omega) _) (show w.heap.size + 1 < w.heap.size + 3 by omega) _) (show w.heap.size + 1 < w.heap.size + 3 by omega) _) (show w.heap.size + 1 < w.heap.size + 3 by omega) _) (own_pair w2.heap.size (bytC.set (bytC.set (bytC.set (bytC.set (bytC.set k1 (show w.heap.size + 1 + 1 < w.heap.size + 3 by omega) _) (show w.heap.size + 1 < w.heap.size + 3 by omega) _) (show w.heap.size + 1 < w.heap.size + 3 by omega) _) (show w.heap.size + 1 < w.heap.size + 3 by omega) _) (show w.heap.size + 1 < w.heap.size + 3 by omega) _) (own_pair w3.heap.size (bytC.set (bytC.set (bytC.set (bytC.set (bytC.set k2 (show w.heap.size + 1 + 1 < w.heap.size + 3 by omega) _) (show w.heap.size + 1 < w.heap.size + 3 by omega) _) (show w.heap.size + 1 < w.heap.size + 3 by omega) _) (show w.heap.size + 1 < w.heap.size + 3 by omega) _) (show w.heap.size + 1 < w.heap.size + 3 by omega) _) (bytC.set (bytC.set (bytC.set (bytC.set (bytC.set k3 (show w.heap.size + 1 + 1 < w.heap.size + 3 by omega) _) (show w.heap.size + 1 < w.heap.size + 3 by omega) _) (show w.heap.size + 1 < w.heap.size + 3 by omega) _) (show w.heap.size + 1 < w.heap.size + 3 by omega) _) (show w.heap.size + 1 < w.heap.size + 3 by omega) _) (fun k hk => (g2.out k hk).2) (fun k hk => Nat.le_trans (by have := z1.out; have := z2.out; have := z3.out; have := z4.out; omega) (g3.out k hk).1)) (fun k hk => (g1.out k hk).2) (ge_app (fun k hk => Nat.le_trans (by have := z1.out; have := z2.out; have := z3.out; have := z4.out; omega) (g2.out k hk).1) (fun k hk => Nat.le_trans (by have := z1.out; have := z2.out; have := z3.out; have := z4.out; omega) (g3.out k hk).1))) (fun k hk => (g0.out k hk).2) (ge_app (fun k hk => Nat.le_trans (by have := z1.out; have := z2.out; have := z3.out; have := z4.out; omega) (g1.out k hk).1) (ge_app (fun k hk => Nat.le_trans (by have := z1.out; have := z2.out; have := z3.out; have := z4.out; omega) (g2.out k hk).1) (fun k hk => Nat.le_trans (by have := z1.out; have := z2.out; have := z3.out; have := z4.out; omega) (g3.out k hk).1)))) (Nat.le_add_right _ 3), (((((BW.setCell (show w.heap.size ≤ w.heap.size + 1 + 1 by omega) _).setCell (show w.heap.size ≤ w.heap.size + 1 by omega) _).setCell (show w.heap.size ≤ w.heap.size + 1 by omega) _).setCell (show w.heap.size ≤ w.heap.size + 1 by omega) _).setCell (show w.heap.size ≤ w.heap.size + 1 by omega) _)⟩
set_option maxRecDepth 4000 in
set_option maxHeartbeats 1000000 in
theorem szSecrets_k (a : SecretsD) (us : List Value) (left : Int) (w : World) (h : secretsC.rep w a us) (h0 : 0 ≤ left) (h1 : left ≤ 1048576) :
  Calls Tryz.prog 35 #[.agg us.toArray, .int .i64 left] w fun e w' => e = .returned (.int .i64 (szR (secretsN a) left)) ∧ Below w.heap.size w w' := by
 obtain ⟨p1, q1, p2, q2, p3, q3, p4, q4, rfl, r1, r2, r3, r4⟩ := secrets_rep h
 clear h
 have BW := alloc_below w (.cells #[.slice p1 a.1.length q1, .slice p2 a.2.1.length q2, .slice p3 a.2.2.1.length q3, .slice p4 a.2.2.2.length q4] 27)
 have A := Arr.new w [.slice p1 a.1.length q1, .slice p2 a.2.1.length q2, .slice p3 a.2.2.1.length q3, .slice p4 a.2.2.2.length q4] 27
 have R1 : Hid (Rd w p1 q1 a.1) := r1
 have R2 : Hid (Rd w p2 q2 a.2.1) := r2
 have R3 : Hid (Rd w p3 q3 a.2.2.1) := r3
 have R4 : Hid (Rd w p4 q4 a.2.2.2) := r4
 clear r1 r2 r3 r4
 by_cases s0 : ((a.1.length : Nat) : Int) ≤ left
 ·by_cases s1 : ((a.2.1.length : Nat) : Int) ≤ left - ((a.1.length : Nat) : Int)
  ·by_cases s2 : ((a.2.2.1.length : Nat) : Int) ≤ left - ((a.1.length : Nat) : Int) - ((a.2.1.length : Nat) : Int)
   ·by_cases s3 : ((a.2.2.2.length : Nat) : Int) ≤ left - ((a.1.length : Nat) : Int) - ((a.2.1.length : Nat) : Int) - ((a.2.2.1.length : Nat) : Int)
    ·go_enter Tryz.func35, Tryz.ntmps35
     go_wp2_with fail
     refine (szByteS_k a.1 _ _ _ ⟨p1, q1, rfl, R1.out.keep BW⟩ (by omega) (by omega)).mono ?_
     rintro e w1 ⟨rfl, hb⟩
     replace A := A.stay hb
     replace BW := Below.step BW hb
     have ca0 := (A.cell 0).trans (show _ = some _ from rfl)
     have ca1 := (A.cell 1).trans (show _ = some _ from rfl)
     have ca2 := (A.cell 2).trans (show _ = some _ from rfl)
     have ca3 := (A.cell 3).trans (show _ = some _ from rfl)
     clear hb
     rw [szR, if_pos (by omega)]
     go_wp2_with fail
     refine (szByteS_k a.2.1 _ _ _ ⟨p2, q2, rfl, R2.out.keep BW⟩ (by omega) (by omega)).mono ?_
     rintro e w2 ⟨rfl, hb⟩
     replace A := A.stay hb
     replace BW := Below.step BW hb
     have ca0 := (A.cell 0).trans (show _ = some _ from rfl)
     have ca1 := (A.cell 1).trans (show _ = some _ from rfl)
     have ca2 := (A.cell 2).trans (show _ = some _ from rfl)
     have ca3 := (A.cell 3).trans (show _ = some _ from rfl)
     clear hb
     rw [szR, if_pos (by omega)]
     go_wp2_with fail
     refine (szByteS_k a.2.2.1 _ _ _ ⟨p3, q3, rfl, R3.out.keep BW⟩ (by omega) (by omega)).mono ?_
     rintro e w3 ⟨rfl, hb⟩
     replace A := A.stay hb
     replace BW := Below.step BW hb
     have ca0 := (A.cell 0).trans (show _ = some _ from rfl)
     have ca1 := (A.cell 1).trans (show _ = some _ from rfl)
     have ca2 := (A.cell 2).trans (show _ = some _ from rfl)
     have ca3 := (A.cell 3).trans (show _ = some _ from rfl)
     clear hb
     rw [szR, if_pos (by omega)]
     go_wp2_with fail
     refine (szByteS_k a.2.2.2 _ _ _ ⟨p4, q4, rfl, R4.out.keep BW⟩ (by omega) (by omega)).mono ?_
     rintro e w4 ⟨rfl, hb⟩
     replace A := A.stay hb
     replace BW := Below.step BW hb
     have ca0 := (A.cell 0).trans (show _ = some _ from rfl)
     have ca1 := (A.cell 1).trans (show _ = some _ from rfl)
     have ca2 := (A.cell 2).trans (show _ = some _ from rfl)
     have ca3 := (A.cell 3).trans (show _ = some _ from rfl)
     clear hb
     rw [szR, if_pos (by omega)]
     have hne : ¬ (left - (a.1.length : Int) - (a.2.1.length : Int) - (a.2.2.1.length : Int) - (a.2.2.2.length : Int) < 0) := by omega
     have hE : Hid (szR (secretsN a) left = left - (a.1.length : Int) - (a.2.1.length : Int) - (a.2.2.1.length : Int) - (a.2.2.2.length : Int)) := by show _ = _; unfold secretsN; rw [szR, if_pos (by omega)] <;> omega
     go_wp2
     go_ret
     exact ⟨by rw [hE.out]; rfl, BW⟩
    ·go_enter Tryz.func35, Tryz.ntmps35
     go_wp2_with fail
     refine (szByteS_k a.1 _ _ _ ⟨p1, q1, rfl, R1.out.keep BW⟩ (by omega) (by omega)).mono ?_
     rintro e w1 ⟨rfl, hb⟩
     replace A := A.stay hb
     replace BW := Below.step BW hb
     have ca0 := (A.cell 0).trans (show _ = some _ from rfl)
     have ca1 := (A.cell 1).trans (show _ = some _ from rfl)
     have ca2 := (A.cell 2).trans (show _ = some _ from rfl)
     have ca3 := (A.cell 3).trans (show _ = some _ from rfl)
     clear hb
     rw [szR, if_pos (by omega)]
     go_wp2_with fail
     refine (szByteS_k a.2.1 _ _ _ ⟨p2, q2, rfl, R2.out.keep BW⟩ (by omega) (by omega)).mono ?_
     rintro e w2 ⟨rfl, hb⟩
     replace A := A.stay hb
     replace BW := Below.step BW hb
     have ca0 := (A.cell 0).trans (show _ = some _ from rfl)
     have ca1 := (A.cell 1).trans (show _ = some _ from rfl)
     have ca2 := (A.cell 2).trans (show _ = some _ from rfl)
     have ca3 := (A.cell 3).trans (show _ = some _ from rfl)
     clear hb
     rw [szR, if_pos (by omega)]
     go_wp2_with fail
     refine (szByteS_k a.2.2.1 _ _ _ ⟨p3, q3, rfl, R3.out.keep BW⟩ (by omega) (by omega)).mono ?_
     rintro e w3 ⟨rfl, hb⟩
     replace A := A.stay hb
     replace BW := Below.step BW hb
     have ca0 := (A.cell 0).trans (show _ = some _ from rfl)
     have ca1 := (A.cell 1).trans (show _ = some _ from rfl)
     have ca2 := (A.cell 2).trans (show _ = some _ from rfl)
     have ca3 := (A.cell 3).trans (show _ = some _ from rfl)
     clear hb
     rw [szR, if_pos (by omega)]
     go_wp2_with fail
     refine (szByteS_k a.2.2.2 _ _ _ ⟨p4, q4, rfl, R4.out.keep BW⟩ (by omega) (by omega)).mono ?_
     rintro e w4 ⟨rfl, hb⟩
     replace A := A.stay hb
     replace BW := Below.step BW hb
     have ca0 := (A.cell 0).trans (show _ = some _ from rfl)
     have ca1 := (A.cell 1).trans (show _ = some _ from rfl)
     have ca2 := (A.cell 2).trans (show _ = some _ from rfl)
     have ca3 := (A.cell 3).trans (show _ = some _ from rfl)
     clear hb
     rw [szR, if_neg (by omega)]
     go_wp2
     go_ret
     exact ⟨by unfold secretsN; rw [szR, if_neg (by omega)] <;> rfl, BW⟩
   ·go_enter Tryz.func35, Tryz.ntmps35
    go_wp2_with fail
    refine (szByteS_k a.1 _ _ _ ⟨p1, q1, rfl, R1.out.keep BW⟩ (by omega) (by omega)).mono ?_
    rintro e w1 ⟨rfl, hb⟩
    replace A := A.stay hb
    replace BW := Below.step BW hb
    have ca0 := (A.cell 0).trans (show _ = some _ from rfl)
    have ca1 := (A.cell 1).trans (show _ = some _ from rfl)
    have ca2 := (A.cell 2).trans (show _ = some _ from rfl)
    have ca3 := (A.cell 3).trans (show _ = some _ from rfl)
    clear hb
    rw [szR, if_pos (by omega)]
    go_wp2_with fail
    refine (szByteS_k a.2.1 _ _ _ ⟨p2, q2, rfl, R2.out.keep BW⟩ (by omega) (by omega)).mono ?_
    rintro e w2 ⟨rfl, hb⟩
    replace A := A.stay hb
    replace BW := Below.step BW hb
    have ca0 := (A.cell 0).trans (show _ = some _ from rfl)
    have ca1 := (A.cell 1).trans (show _ = some _ from rfl)
    have ca2 := (A.cell 2).trans (show _ = some _ from rfl)
    have ca3 := (A.cell 3).trans (show _ = some _ from rfl)
    clear hb
    rw [szR, if_pos (by omega)]
    go_wp2_with fail
    refine (szByteS_k a.2.2.1 _ _ _ ⟨p3, q3, rfl, R3.out.keep BW⟩ (by omega) (by omega)).mono ?_
    rintro e w3 ⟨rfl, hb⟩
    replace A := A.stay hb
    replace BW := Below.step BW hb
    have ca0 := (A.cell 0).trans (show _ = some _ from rfl)
    have ca1 := (A.cell 1).trans (show _ = some _ from rfl)
    have ca2 := (A.cell 2).trans (show _ = some _ from rfl)
    have ca3 := (A.cell 3).trans (show _ = some _ from rfl)
    clear hb
    rw [szR, if_neg (by omega)]
    go_wp2
    go_ret
    exact ⟨by unfold secretsN; rw [szR, if_neg (by omega)] <;> rfl, BW⟩
  ·go_enter Tryz.func35, Tryz.ntmps35
   go_wp2_with fail
   refine (szByteS_k a.1 _ _ _ ⟨p1, q1, rfl, R1.out.keep BW⟩ (by omega) (by omega)).mono ?_
   rintro e w1 ⟨rfl, hb⟩
   replace A := A.stay hb
   replace BW := Below.step BW hb
   have ca0 := (A.cell 0).trans (show _ = some _ from rfl)
   have ca1 := (A.cell 1).trans (show _ = some _ from rfl)
   have ca2 := (A.cell 2).trans (show _ = some _ from rfl)
   have ca3 := (A.cell 3).trans (show _ = some _ from rfl)
   clear hb
   rw [szR, if_pos (by omega)]
   go_wp2_with fail
   refine (szByteS_k a.2.1 _ _ _ ⟨p2, q2, rfl, R2.out.keep BW⟩ (by omega) (by omega)).mono ?_
   rintro e w2 ⟨rfl, hb⟩
   replace A := A.stay hb
   replace BW := Below.step BW hb
   have ca0 := (A.cell 0).trans (show _ = some _ from rfl)
   have ca1 := (A.cell 1).trans (show _ = some _ from rfl)
   have ca2 := (A.cell 2).trans (show _ = some _ from rfl)
   have ca3 := (A.cell 3).trans (show _ = some _ from rfl)
   clear hb
   rw [szR, if_neg (by omega)]
   go_wp2
   go_ret
   exact ⟨by unfold secretsN; rw [szR, if_neg (by omega)] <;> rfl, BW⟩
 ·go_enter Tryz.func35, Tryz.ntmps35
  go_wp2_with fail
  refine (szByteS_k a.1 _ _ _ ⟨p1, q1, rfl, R1.out.keep BW⟩ (by omega) (by omega)).mono ?_
  rintro e w1 ⟨rfl, hb⟩
  replace A := A.stay hb
  replace BW := Below.step BW hb
  have ca0 := (A.cell 0).trans (show _ = some _ from rfl)
  have ca1 := (A.cell 1).trans (show _ = some _ from rfl)
  have ca2 := (A.cell 2).trans (show _ = some _ from rfl)
  have ca3 := (A.cell 3).trans (show _ = some _ from rfl)
  clear hb
  rw [szR, if_neg (by omega)]
  go_wp2
  go_ret
  exact ⟨by unfold secretsN; rw [szR, if_neg (by omega)] <;> rfl, BW⟩
set_option maxRecDepth 4000 in
set_option maxHeartbeats 1000000 in
theorem eqSecrets_k (a : SecretsD) (us vs : List Value) (w : World) (h1 : secretsC.rep w a us) (h2 : secretsC.rep w a vs) :
  Calls Tryz.prog 61 #[.agg us.toArray, .agg vs.toArray] w fun e w' => e = .returned (.bool true) ∧ Below w.heap.size w w' := by
 obtain ⟨p1, q1, p2, q2, p3, q3, p4, q4, rfl, r1, r2, r3, r4⟩ := secrets_rep h1
 obtain ⟨pb1, qb1, pb2, qb2, pb3, qb3, pb4, qb4, rfl, rb1, rb2, rb3, rb4⟩ := secrets_rep h2
 clear h1 h2
 have BW : Below w.heap.size w ((w.alloc (.cells #[.slice p1 a.1.length q1, .slice p2 a.2.1.length q2, .slice p3 a.2.2.1.length q3, .slice p4 a.2.2.2.length q4] 34)).alloc (.cells #[.slice pb1 a.1.length qb1, .slice pb2 a.2.1.length qb2, .slice pb3 a.2.2.1.length qb3, .slice pb4 a.2.2.2.length qb4] 34)) := Below.mk (alloc_below _ _) _
 have A : Arr ((w.alloc (.cells #[.slice p1 a.1.length q1, .slice p2 a.2.1.length q2, .slice p3 a.2.2.1.length q3, .slice p4 a.2.2.2.length q4] 34)).alloc (.cells #[.slice pb1 a.1.length qb1, .slice pb2 a.2.1.length qb2, .slice pb3 a.2.2.1.length qb3, .slice pb4 a.2.2.2.length qb4] 34)) w.heap.size 34 [.slice p1 a.1.length q1, .slice p2 a.2.1.length q2, .slice p3 a.2.2.1.length q3, .slice p4 a.2.2.2.length q4] := (Arr.new w [.slice p1 a.1.length q1, .slice p2 a.2.1.length q2, .slice p3 a.2.2.1.length q3, .slice p4 a.2.2.2.length q4] 34).old _ _
 have B : Arr ((w.alloc (.cells #[.slice p1 a.1.length q1, .slice p2 a.2.1.length q2, .slice p3 a.2.2.1.length q3, .slice p4 a.2.2.2.length q4] 34)).alloc (.cells #[.slice pb1 a.1.length qb1, .slice pb2 a.2.1.length qb2, .slice pb3 a.2.2.1.length qb3, .slice pb4 a.2.2.2.length qb4] 34)) (w.heap.size + 1) 34 [.slice pb1 a.1.length qb1, .slice pb2 a.2.1.length qb2, .slice pb3 a.2.2.1.length qb3, .slice pb4 a.2.2.2.length qb4] := by
  have h := Arr.new (w.alloc (.cells #[.slice p1 a.1.length q1, .slice p2 a.2.1.length q2, .slice p3 a.2.2.1.length q3, .slice p4 a.2.2.2.length q4] 34)) [.slice pb1 a.1.length qb1, .slice pb2 a.2.1.length qb2, .slice pb3 a.2.2.1.length qb3, .slice pb4 a.2.2.2.length qb4] 34
  rw [size_alloc] at h
  exact h
 replace r1 := r1.keep BW
 replace rb1 := rb1.keep BW
 replace r2 := r2.keep BW
 replace rb2 := rb2.keep BW
 replace r3 := r3.keep BW
 replace rb3 := rb3.keep BW
 replace r4 := r4.keep BW
 replace rb4 := rb4.keep BW
 go_enter Tryz.func61, Tryz.ntmps61
 go_wp2_with fail
 refine (eqByteS_c p1 pb1 q1 qb1 a.1 _ r1 rb1).mono ?_
 rintro e w1 ⟨rfl, hb⟩
 replace A := A.stay hb
 replace B := B.stay hb
 replace BW := Below.step BW hb
 replace r1 := r1.keep hb
 replace rb1 := rb1.keep hb
 replace r2 := r2.keep hb
 replace rb2 := rb2.keep hb
 replace r3 := r3.keep hb
 replace rb3 := rb3.keep hb
 replace r4 := r4.keep hb
 replace rb4 := rb4.keep hb
 have ca0 := A.cell 0
 have cb0 := B.cell 0
 have ca1 := A.cell 1
 have cb1 := B.cell 1
 have ca2 := A.cell 2
 have cb2 := B.cell 2
 have ca3 := A.cell 3
 have cb3 := B.cell 3
 simp at ca0 cb0 ca1 cb1 ca2 cb2 ca3 cb3
 clear hb
 go_wp2_with fail
 refine (eqByteS_c p2 pb2 q2 qb2 a.2.1 _ r2 rb2).mono ?_
 rintro e w2 ⟨rfl, hb⟩
 replace A := A.stay hb
 replace B := B.stay hb
 replace BW := Below.step BW hb
 replace r1 := r1.keep hb
 replace rb1 := rb1.keep hb
 replace r2 := r2.keep hb
 replace rb2 := rb2.keep hb
 replace r3 := r3.keep hb
 replace rb3 := rb3.keep hb
 replace r4 := r4.keep hb
 replace rb4 := rb4.keep hb
 have ca0 := A.cell 0
 have cb0 := B.cell 0
 have ca1 := A.cell 1
 have cb1 := B.cell 1
 have ca2 := A.cell 2
 have cb2 := B.cell 2
 have ca3 := A.cell 3
 have cb3 := B.cell 3
 simp at ca0 cb0 ca1 cb1 ca2 cb2 ca3 cb3
 clear hb
 go_wp2_with fail
 refine (eqByteS_c p3 pb3 q3 qb3 a.2.2.1 _ r3 rb3).mono ?_
 rintro e w3 ⟨rfl, hb⟩
 replace A := A.stay hb
 replace B := B.stay hb
 replace BW := Below.step BW hb
 replace r1 := r1.keep hb
 replace rb1 := rb1.keep hb
 replace r2 := r2.keep hb
 replace rb2 := rb2.keep hb
 replace r3 := r3.keep hb
 replace rb3 := rb3.keep hb
 replace r4 := r4.keep hb
 replace rb4 := rb4.keep hb
 have ca0 := A.cell 0
 have cb0 := B.cell 0
 have ca1 := A.cell 1
 have cb1 := B.cell 1
 have ca2 := A.cell 2
 have cb2 := B.cell 2
 have ca3 := A.cell 3
 have cb3 := B.cell 3
 simp at ca0 cb0 ca1 cb1 ca2 cb2 ca3 cb3
 clear hb
 go_wp2_with fail
 refine (eqByteS_c p4 pb4 q4 qb4 a.2.2.2 _ r4 rb4).mono ?_
 rintro e w4 ⟨rfl, hb⟩
 replace A := A.stay hb
 replace B := B.stay hb
 replace BW := Below.step BW hb
 replace r1 := r1.keep hb
 replace rb1 := rb1.keep hb
 replace r2 := r2.keep hb
 replace rb2 := rb2.keep hb
 replace r3 := r3.keep hb
 replace rb3 := rb3.keep hb
 replace r4 := r4.keep hb
 replace rb4 := rb4.keep hb
 have ca0 := A.cell 0
 have cb0 := B.cell 0
 have ca1 := A.cell 1
 have cb1 := B.cell 1
 have ca2 := A.cell 2
 have cb2 := B.cell 2
 have ca3 := A.cell 3
 have cb3 := B.cell 3
 simp at ca0 cb0 ca1 cb1 ca2 cb2 ca3 cb3
 clear hb
 go_wp2
 go_ret
 exact ⟨rfl, BW⟩
set_option maxRecDepth 4000 in
set_option maxHeartbeats 1000000 in
theorem markSecrets_k (a : SecretsD) (us : List Value) (fp : List Nat) (B m : Nat) (mi : Int) (hmi : mi = (m : Int)) (w : World) (h : secretsC.own w B a us fp) (hm : m + secretsT a ≤ 1000000000) :
  Calls Tryz.prog 63 #[.agg us.toArray, .int .i64 mi] w fun e w' => e = .returned (.int .i64 (mi + (secretsT a : Int))) ∧ secretsC.own w' B (secretsM a m) us fp ∧ Only fp w w' := by
 subst hmi
 obtain ⟨us0, ts0, f0, g0, rfl, rfl, nd0, k0, us1, ts1, f1, g1, rfl, rfl, nd1, k1, us2, ts2, f2, g2, rfl, rfl, nd2, k2, k3⟩ := h
 obtain ⟨p1, q1, e0, -⟩ := bytC.toRep k0
 subst e0
 obtain ⟨p2, q2, e1, -⟩ := bytC.toRep k1
 subst e1
 obtain ⟨p3, q3, e2, -⟩ := bytC.toRep k2
 subst e2
 obtain ⟨p4, q4, e3, -⟩ := bytC.toRep k3
 subst e3
 have z0 : Hid (∀ x, x ∈ f0 → x < w.heap.size) := fun x hx => (bytC.ins k0 x hx).2
 have z1 : Hid (∀ x, x ∈ f1 → x < w.heap.size) := fun x hx => (bytC.ins k1 x hx).2
 have z2 : Hid (∀ x, x ∈ f2 → x < w.heap.size) := fun x hx => (bytC.ins k2 x hx).2
 have z3 : Hid (∀ x, x ∈ g2 → x < w.heap.size) := fun x hx => (bytC.ins k3 x hx).2
 have d0_1 : Hid (∀ x, x ∈ f0 → x ∉ f1) := fun x h1 h2 => nodup_apart nd0 x h1 (by simp [h2])
 have d0_2 : Hid (∀ x, x ∈ f0 → x ∉ f2) := fun x h1 h2 => nodup_apart nd0 x h1 (by simp [h2])
 have d0_3 : Hid (∀ x, x ∈ f0 → x ∉ g2) := fun x h1 h2 => nodup_apart nd0 x h1 (by simp [h2])
 have d1_2 : Hid (∀ x, x ∈ f1 → x ∉ f2) := fun x h1 h2 => nodup_apart nd1 x h1 (by simp [h2])
 have d1_3 : Hid (∀ x, x ∈ f1 → x ∉ g2) := fun x h1 h2 => nodup_apart nd1 x h1 (by simp [h2])
 have d2_3 : Hid (∀ x, x ∈ f2 → x ∉ g2) := fun x h1 h2 => nodup_apart nd2 x h1 (by simp [h2])
 have s0 : Hid (∀ x, x ∈ f0 → x ∈ f0 ++ (f1 ++ (f2 ++ g2))) := fun x hx => by simp [hx]
 have s1 : Hid (∀ x, x ∈ f1 → x ∈ f0 ++ (f1 ++ (f2 ++ g2))) := fun x hx => by simp [hx]
 have s2 : Hid (∀ x, x ∈ f2 → x ∈ f0 ++ (f1 ++ (f2 ++ g2))) := fun x hx => by simp [hx]
 have s3 : Hid (∀ x, x ∈ g2 → x ∈ f0 ++ (f1 ++ (f2 ++ g2))) := fun x hx => by simp [hx]
 have A := Arr.new w [.slice p1 a.1.length q1, .slice p2 a.2.1.length q2, .slice p3 a.2.2.1.length q3, .slice p4 a.2.2.2.length q4] 34
 have ON : Only (f0 ++ (f1 ++ (f2 ++ g2))) w (w.alloc (.cells #[.slice p1 a.1.length q1, .slice p2 a.2.1.length q2, .slice p3 a.2.2.1.length q3, .slice p4 a.2.2.2.length q4] 34)) := Only.below (alloc_below _ _)
 replace k0 := bytC.stay k0 (alloc_below _ (.cells #[.slice p1 a.1.length q1, .slice p2 a.2.1.length q2, .slice p3 a.2.2.1.length q3, .slice p4 a.2.2.2.length q4] 34))
 replace k1 := bytC.stay k1 (alloc_below _ (.cells #[.slice p1 a.1.length q1, .slice p2 a.2.1.length q2, .slice p3 a.2.2.1.length q3, .slice p4 a.2.2.2.length q4] 34))
 replace k2 := bytC.stay k2 (alloc_below _ (.cells #[.slice p1 a.1.length q1, .slice p2 a.2.1.length q2, .slice p3 a.2.2.1.length q3, .slice p4 a.2.2.2.length q4] 34))
 replace k3 := bytC.stay k3 (alloc_below _ (.cells #[.slice p1 a.1.length q1, .slice p2 a.2.1.length q2, .slice p3 a.2.2.1.length q3, .slice p4 a.2.2.2.length q4] 34))
 have ND0 : Hid _ := nd0
 have ND1 : Hid _ := nd1
 have ND2 : Hid _ := nd2
 clear nd0 nd1 nd2
 have hT : Hid (m + (a.1.length + a.2.1.length + a.2.2.1.length + a.2.2.2.length) ≤ 1000000000) := hm
 clear hm
 go_enter Tryz.func63, Tryz.ntmps63
 go_wp2_with fail
 refine (markByteS_k a.1 _ _ B m _ (by first | rfl | simp | (simp; omega) | (push_cast; omega)) _ k0 (by have := hT.out; omega)).mono ?_
 rintro e w1 ⟨rfl, k0, ho⟩
 replace k1 := bytC.other k1 ho (fun x h1 h2 => d0_1.out x h2 h1)
 replace k2 := bytC.other k2 ho (fun x h1 h2 => d0_2.out x h2 h1)
 replace k3 := bytC.other k3 ho (fun x h1 h2 => d0_3.out x h2 h1)
 replace A := A.only ho (fun h => Nat.lt_irrefl _ (z0.out _ h))
 replace ON := ON.trans_sub ho s0.out
 have ca0 := A.cell 0
 have ca1 := A.cell 1
 have ca2 := A.cell 2
 have ca3 := A.cell 3
 simp at ca0 ca1 ca2 ca3
 clear ho
 go_wp2_with fail
 refine (markByteS_k a.2.1 _ _ B (m + a.1.length) _ (by first | rfl | simp | (simp; omega) | (push_cast; omega)) _ k1 (by have := hT.out; omega)).mono ?_
 rintro e w2 ⟨rfl, k1, ho⟩
 replace k0 := bytC.other k0 ho (fun x h1 h2 => d0_1.out x h1 h2)
 replace k2 := bytC.other k2 ho (fun x h1 h2 => d1_2.out x h2 h1)
 replace k3 := bytC.other k3 ho (fun x h1 h2 => d1_3.out x h2 h1)
 replace A := A.only ho (fun h => Nat.lt_irrefl _ (z1.out _ h))
 replace ON := ON.trans_sub ho s1.out
 have ca0 := A.cell 0
 have ca1 := A.cell 1
 have ca2 := A.cell 2
 have ca3 := A.cell 3
 simp at ca0 ca1 ca2 ca3
 clear ho
 go_wp2_with fail
 refine (markByteS_k a.2.2.1 _ _ B ((m + a.1.length) + a.2.1.length) _ (by first | rfl | simp | (simp; omega) | (push_cast; omega)) _ k2 (by have := hT.out; omega)).mono ?_
 rintro e w3 ⟨rfl, k2, ho⟩
 replace k0 := bytC.other k0 ho (fun x h1 h2 => d0_2.out x h1 h2)
 replace k1 := bytC.other k1 ho (fun x h1 h2 => d1_2.out x h1 h2)
 replace k3 := bytC.other k3 ho (fun x h1 h2 => d2_3.out x h2 h1)
 replace A := A.only ho (fun h => Nat.lt_irrefl _ (z2.out _ h))
 replace ON := ON.trans_sub ho s2.out
 have ca0 := A.cell 0
 have ca1 := A.cell 1
 have ca2 := A.cell 2
 have ca3 := A.cell 3
 simp at ca0 ca1 ca2 ca3
 clear ho
 go_wp2_with fail
 refine (markByteS_k a.2.2.2 _ _ B (((m + a.1.length) + a.2.1.length) + a.2.2.1.length) _ (by first | rfl | simp | (simp; omega) | (push_cast; omega)) _ k3 (by have := hT.out; omega)).mono ?_
 rintro e w4 ⟨rfl, k3, ho⟩
 replace k0 := bytC.other k0 ho (fun x h1 h2 => d0_3.out x h1 h2)
 replace k1 := bytC.other k1 ho (fun x h1 h2 => d1_3.out x h1 h2)
 replace k2 := bytC.other k2 ho (fun x h1 h2 => d2_3.out x h1 h2)
 replace A := A.only ho (fun h => Nat.lt_irrefl _ (z3.out _ h))
 replace ON := ON.trans_sub ho s3.out
 have ca0 := A.cell 0
 have ca1 := A.cell 1
 have ca2 := A.cell 2
 have ca3 := A.cell 3
 simp at ca0 ca1 ca2 ca3
 clear ho
 go_wp2
 go_ret
 exact ⟨by unfold secretsT; simp; try omega, ⟨_, _, _, _, rfl, rfl, ND0.out, k0, ⟨_, _, _, _, rfl, rfl, ND1.out, k1, ⟨_, _, _, _, rfl, rfl, ND2.out, k2, k3⟩⟩⟩, ON⟩
set_option maxRecDepth 4000 in
set_option maxHeartbeats 1000000 in
theorem heldSecrets_k (a : SecretsD) (us : List Value) (m : Nat) (mi : Int) (hmi : mi = (m : Int)) (w : World) (h : secretsC.rep w (secretsM a m) us) (hm : m + secretsT a ≤ 1048577) :
  Calls Tryz.prog 113 #[.agg us.toArray, .int .i64 mi] w fun e w' => e = .returned (.int .i64 (mi + (secretsT a : Int))) ∧ Below w.heap.size w w' := by
 subst hmi
 obtain ⟨us0, ts0, rfl, h0, us1, ts1, rfl, h1, us2, ts2, rfl, h2, h3⟩ := h
 obtain ⟨p1, q1, rfl, r1⟩ := h0
 obtain ⟨p2, q2, rfl, r2⟩ := h1
 obtain ⟨p3, q3, rfl, r3⟩ := h2
 obtain ⟨p4, q4, rfl, r4⟩ := h3
 have A := Arr.new w [.slice p1 (secretsM a m).1.length q1, .slice p2 (secretsM a m).2.1.length q2, .slice p3 (secretsM a m).2.2.1.length q3, .slice p4 (secretsM a m).2.2.2.length q4] 34
 have BW := alloc_below w (.cells #[.slice p1 (secretsM a m).1.length q1, .slice p2 (secretsM a m).2.1.length q2, .slice p3 (secretsM a m).2.2.1.length q3, .slice p4 (secretsM a m).2.2.2.length q4] 34)
 replace r1 := r1.keep BW
 replace r2 := r2.keep BW
 replace r3 := r3.keep BW
 replace r4 := r4.keep BW
 have hT : Hid (m + (a.1.length + a.2.1.length + a.2.2.1.length + a.2.2.2.length) ≤ 1048577) := hm
 clear hm
 go_enter Tryz.func113, Tryz.ntmps113
 go_wp2_with fail
 refine (heldByteS_k (secretsM a m).1 p1 q1 a.1.length m rfl _ (by first | rfl | simp | (simp; omega) | (push_cast; omega)) _ r1 (by have := hT.out; omega)).mono ?_
 rintro e w1 ⟨rfl, hw⟩
 subst hw
 go_wp2_with fail
 refine (heldByteS_k (secretsM a m).2.1 p2 q2 a.2.1.length (m + a.1.length) rfl _ (by first | rfl | simp | (simp; omega) | (push_cast; omega)) _ r2 (by have := hT.out; omega)).mono ?_
 rintro e w2 ⟨rfl, hw⟩
 subst hw
 go_wp2_with fail
 refine (heldByteS_k (secretsM a m).2.2.1 p3 q3 a.2.2.1.length ((m + a.1.length) + a.2.1.length) rfl _ (by first | rfl | simp | (simp; omega) | (push_cast; omega)) _ r3 (by have := hT.out; omega)).mono ?_
 rintro e w3 ⟨rfl, hw⟩
 subst hw
 go_wp2_with fail
 refine (heldByteS_k (secretsM a m).2.2.2 p4 q4 a.2.2.2.length (((m + a.1.length) + a.2.1.length) + a.2.2.1.length) rfl _ (by first | rfl | simp | (simp; omega) | (push_cast; omega)) _ r4 (by have := hT.out; omega)).mono ?_
 rintro e w4 ⟨rfl, hw⟩
 subst hw
 go_wp2
 go_ret
 exact ⟨by unfold secretsT; simp; try omega, BW⟩
abbrev msgsC : Cod (List MsgD) := listC 53 msgC
theorem toMsgS_k (l : List MsgD) (u : Value) (w : World) (h : msgsC.rep w l [u]) (hl : bulkM l ≤ 1048576) :
  Calls Tryz.prog 10 #[u] w fun e w' => ∃ v fp, e = .returned v ∧ msgsC.own w' w.heap.size l [v] fp ∧ Below w.heap.size w w' := by
 obtain ⟨p, q, e1, r⟩ := h
 simp only [List.cons.injEq, and_true] at e1
 subst e1
 exact (toMsgS_c l p q w r hl).mono fun _ _ ⟨v, xs, fp, h1, h2, h3⟩ => ⟨v, _, h1, ⟨v, xs, fp, rfl, h2, rfl⟩, h3⟩
theorem szMsgS_k (l : List MsgD) (u : Value) (left : Int) (w : World) (h : msgsC.rep w l [u]) (h0 : 0 ≤ left) (h1 : left ≤ 1048576) :
  Calls Tryz.prog 7 #[u, .int .i64 left] w fun e w' => e = .returned (.int .i64 (szR (bulkM l) left)) ∧ Below w.heap.size w w' := by
 obtain ⟨p, q, e1, r⟩ := h
 simp only [List.cons.injEq, and_true] at e1
 subst e1
 exact szMsgS_c l p q left w r h0 h1
theorem eqMsgS_k (l : List MsgD) (u v : Value) (w : World) (h1 : msgsC.rep w l [u]) (h2 : msgsC.rep w l [v]) :
  Calls Tryz.prog 14 #[u, v] w fun e w' => e = .returned (.bool true) ∧ Below w.heap.size w w' := by
 obtain ⟨p, q, e1, r⟩ := h1
 obtain ⟨p2, q2, e2, r2⟩ := h2
 simp only [List.cons.injEq, and_true] at e1 e2
 subst e1 e2
 exact eqMsgS_c l p p2 q q2 w r r2
theorem markMsgS_k (l : List MsgD) (v : Value) (fp : List Nat) (B m : Nat) (mi : Int) (hmi : mi = (m : Int)) (w : World) (h : msgsC.own w B l [v] fp) (hm : m + bulkM l ≤ 1000000000) (hbl : bulkM l ≤ 1000000000) :
  Calls Tryz.prog 16 #[v, .int .i64 mi] w fun e w' => e = .returned (.int .i64 (mi + (bulkM l : Int))) ∧ msgsC.own w' B (mkM l m) [v] fp ∧ Only fp w w' := by
 subst hmi
 obtain ⟨u, xs, f, e1, o, rfl⟩ := h
 simp only [List.cons.injEq, and_true] at e1
 subst e1
 exact (markMsgS_c _ l B v xs f m w o hm hbl).mono fun _ _ ⟨h1, ⟨ys, h2⟩, h3⟩ => ⟨by rw [h1]; rfl, ⟨v, ys, f, rfl, h2, rfl⟩, h3⟩
theorem heldMsgS_k (l : List MsgD) (u : Value) (m : Nat) (mi : Int) (hmi : mi = (m : Int)) (w : World) (h : msgsC.rep w (mkM l m) [u]) (hm : m + bulkM l ≤ 1048577) :
  Calls Tryz.prog 65 #[u, .int .i64 mi] w fun e w' => e = .returned (.int .i64 (mi + (bulkM l : Int))) ∧ Below w.heap.size w w' := by
 subst hmi
 obtain ⟨p, q, e1, r⟩ := h
 simp only [List.cons.injEq, and_true] at e1
 subst e1
 rw [mkM_len]
 exact (heldMsgS_c l p q m w r hm).mono fun _ _ ⟨h1, h2⟩ => ⟨by rw [h1]; rfl, h2⟩
end Go.Proofs.YtiabacnmmojfjabGreatDoor
