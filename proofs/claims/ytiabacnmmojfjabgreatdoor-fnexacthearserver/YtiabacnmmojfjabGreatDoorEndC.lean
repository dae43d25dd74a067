import Derived.Test.YtiabacnmmojfjabGreatDoorJoint7
import Derived.Test.YtiabacnmmojfjabGreatDoorJoint8
import Derived.Test.YtiabacnmmojfjabGreatDoorJoint9
namespace Go.Proofs.YtiabacnmmojfjabGreatDoor
open Go.ChangeShapes Go.WideShapes Go.ChangeAt Go.RowKit
abbrev EndD := SideD × Int × Int × List MsgD × List UInt8 × SecretsD
def endC : Cod EndD := prodC sideC (prodC (intC .i64) (prodC (intC .i64) (prodC msgsC (prodC bytC secretsC))))
theorem end_rep {w : World} {a : EndD} {vs : List Value} (h : endC.rep w a vs) : ∃ p1_2 q1_2 p1_4 q1_4 p4 q4 p5 q5 p6_1 q6_1 p6_2 q6_2 p6_3 q6_3 p6_4 q6_4, vs = [.int .i64 a.1.1, .slice p1_2 a.1.2.1.length q1_2, .int .i64 a.1.2.2.1, .slice p1_4 a.1.2.2.2.length q1_4, .int .i64 a.2.1, .int .i64 a.2.2.1, .slice p4 a.2.2.2.1.length q4, .slice p5 a.2.2.2.2.1.length q5, .slice p6_1 a.2.2.2.2.2.1.length q6_1, .slice p6_2 a.2.2.2.2.2.2.1.length q6_2, .slice p6_3 a.2.2.2.2.2.2.2.1.length q6_3, .slice p6_4 a.2.2.2.2.2.2.2.2.length q6_4] ∧ Rd w p1_2 q1_2 a.1.2.1 ∧ Rd w p1_4 q1_4 a.1.2.2.2 ∧ RdL msgC w p4 q4 a.2.2.2.1 ∧ Rd w p5 q5 a.2.2.2.2.1 ∧ Rd w p6_1 q6_1 a.2.2.2.2.2.1 ∧ Rd w p6_2 q6_2 a.2.2.2.2.2.2.1 ∧ Rd w p6_3 q6_3 a.2.2.2.2.2.2.2.1 ∧ Rd w p6_4 q6_4 a.2.2.2.2.2.2.2.2 := by
 obtain ⟨us0, ts0, rfl, h0, us1, ts1, rfl, h1, us2, ts2, rfl, h2, us3, ts3, rfl, h3, us4, ts4, rfl, h4, h5⟩ := h
 obtain ⟨p1_2, q1_2, p1_4, q1_4, rfl, r1_2, r1_4⟩ := side_rep h0
 have e1 : us1 = [Value.int .i64 _] := h1
 subst e1
 have e2 : us2 = [Value.int .i64 _] := h2
 subst e2
 obtain ⟨p4, q4, rfl, r4⟩ := h3
 obtain ⟨p5, q5, rfl, r5⟩ := h4
 obtain ⟨p6_1, q6_1, p6_2, q6_2, p6_3, q6_3, p6_4, q6_4, rfl, r6_1, r6_2, r6_3, r6_4⟩ := secrets_rep h5
 exact ⟨p1_2, q1_2, p1_4, q1_4, p4, q4, p5, q5, p6_1, q6_1, p6_2, q6_2, p6_3, q6_3, p6_4, q6_4, rfl, r1_2, r1_4, r4, r5, r6_1, r6_2, r6_3, r6_4⟩
theorem end_mk {w : World} {a : EndD} {p1_2 : Option Addr} {q1_2 : Nat} {p1_4 : Option Addr} {q1_4 : Nat} {p4 : Option Addr} {q4 : Nat} {p5 : Option Addr} {q5 : Nat} {p6_1 : Option Addr} {q6_1 : Nat} {p6_2 : Option Addr} {q6_2 : Nat} {p6_3 : Option Addr} {q6_3 : Nat} {p6_4 : Option Addr} {q6_4 : Nat} (r1_2 : Rd w p1_2 q1_2 a.1.2.1) (r1_4 : Rd w p1_4 q1_4 a.1.2.2.2) (r4 : RdL msgC w p4 q4 a.2.2.2.1) (r5 : Rd w p5 q5 a.2.2.2.2.1) (r6_1 : Rd w p6_1 q6_1 a.2.2.2.2.2.1) (r6_2 : Rd w p6_2 q6_2 a.2.2.2.2.2.2.1) (r6_3 : Rd w p6_3 q6_3 a.2.2.2.2.2.2.2.1) (r6_4 : Rd w p6_4 q6_4 a.2.2.2.2.2.2.2.2) : endC.rep w a [.int .i64 a.1.1, .slice p1_2 a.1.2.1.length q1_2, .int .i64 a.1.2.2.1, .slice p1_4 a.1.2.2.2.length q1_4, .int .i64 a.2.1, .int .i64 a.2.2.1, .slice p4 a.2.2.2.1.length q4, .slice p5 a.2.2.2.2.1.length q5, .slice p6_1 a.2.2.2.2.2.1.length q6_1, .slice p6_2 a.2.2.2.2.2.2.1.length q6_2, .slice p6_3 a.2.2.2.2.2.2.2.1.length q6_3, .slice p6_4 a.2.2.2.2.2.2.2.2.length q6_4] := ⟨[.int .i64 a.1.1, .slice p1_2 a.1.2.1.length q1_2, .int .i64 a.1.2.2.1, .slice p1_4 a.1.2.2.2.length q1_4], _, rfl, (side_mk r1_2 r1_4), ⟨[.int .i64 a.2.1], _, rfl, rfl, ⟨[.int .i64 a.2.2.1], _, rfl, rfl, ⟨[.slice p4 a.2.2.2.1.length q4], _, rfl, ⟨p4, q4, rfl, r4⟩, ⟨[.slice p5 a.2.2.2.2.1.length q5], _, rfl, ⟨p5, q5, rfl, r5⟩, (secrets_mk r6_1 r6_2 r6_3 r6_4)⟩⟩⟩⟩⟩
def endT (a : EndD) : Nat := sideT a.1 + bulkM a.2.2.2.1 + a.2.2.2.2.1.length + secretsT a.2.2.2.2.2
def endM (a : EndD) (m : Nat) : EndD := (sideM a.1 m, a.2.1, a.2.2.1, mkM a.2.2.2.1 (m + sideT a.1), marks ((m + sideT a.1) + bulkM a.2.2.2.1) a.2.2.2.2.1.length, secretsM a.2.2.2.2.2 (((m + sideT a.1) + bulkM a.2.2.2.1) + a.2.2.2.2.1.length))
def endN (a : EndD) : Nat := sideN a.1 + bulkM a.2.2.2.1 + a.2.2.2.2.1.length + secretsN a.2.2.2.2.2
theorem endT_le (a : EndD) : endT a ≤ 8 * endN a := by
 have h0 := sideT_le a.1
 have h5 := secretsT_le a.2.2.2.2.2
 unfold endT endN
 omega
set_option maxRecDepth 4000 in
set_option maxHeartbeats 1000000 in
theorem toEnd_k (a : EndD) (us : List Value) (w : World) (h : endC.rep w a us) (hl : endN a ≤ 1048576) :
  Calls Tryz.prog 9 #[.agg us.toArray] w fun e w' => ∃ vs fp, e = .returned (.agg vs.toArray) ∧ endC.own w' w.heap.size a vs fp ∧ Below w.heap.size w w' := by
 obtain ⟨p1_2, q1_2, p1_4, q1_4, p4, q4, p5, q5, p6_1, q6_1, p6_2, q6_2, p6_3, q6_3, p6_4, q6_4, rfl, r1_2, r1_4, r4, r5, r6_1, r6_2, r6_3, r6_4⟩ := end_rep h
 clear h
 have BW : Below w.heap.size w (((w.alloc (.cells #[.int .i64 a.1.1, .slice p1_2 a.1.2.1.length q1_2, .int .i64 a.1.2.2.1, .slice p1_4 a.1.2.2.2.length q1_4, .int .i64 a.2.1, .int .i64 a.2.2.1, .slice p4 a.2.2.2.1.length q4, .slice p5 a.2.2.2.2.1.length q5, .slice p6_1 a.2.2.2.2.2.1.length q6_1, .slice p6_2 a.2.2.2.2.2.2.1.length q6_2, .slice p6_3 a.2.2.2.2.2.2.2.1.length q6_3, .slice p6_4 a.2.2.2.2.2.2.2.2.length q6_4] 29)).alloc (.cells #[.int .i64 0, .slice none 0 0, .int .i64 0, .slice none 0 0, .int .i64 0, .int .i64 0, .slice none 0 0, .slice none 0 0, .slice none 0 0, .slice none 0 0, .slice none 0 0, .slice none 0 0] 36)).alloc (.cells #[.int .i64 0, .slice none 0 0, .int .i64 0, .slice none 0 0, .int .i64 0, .int .i64 0, .slice none 0 0, .slice none 0 0, .slice none 0 0, .slice none 0 0, .slice none 0 0, .slice none 0 0] 36)) := Below.mk (Below.mk (alloc_below _ _) _) _
 have R : Arr (((w.alloc (.cells #[.int .i64 a.1.1, .slice p1_2 a.1.2.1.length q1_2, .int .i64 a.1.2.2.1, .slice p1_4 a.1.2.2.2.length q1_4, .int .i64 a.2.1, .int .i64 a.2.2.1, .slice p4 a.2.2.2.1.length q4, .slice p5 a.2.2.2.2.1.length q5, .slice p6_1 a.2.2.2.2.2.1.length q6_1, .slice p6_2 a.2.2.2.2.2.2.1.length q6_2, .slice p6_3 a.2.2.2.2.2.2.2.1.length q6_3, .slice p6_4 a.2.2.2.2.2.2.2.2.length q6_4] 29)).alloc (.cells #[.int .i64 0, .slice none 0 0, .int .i64 0, .slice none 0 0, .int .i64 0, .int .i64 0, .slice none 0 0, .slice none 0 0, .slice none 0 0, .slice none 0 0, .slice none 0 0, .slice none 0 0] 36)).alloc (.cells #[.int .i64 0, .slice none 0 0, .int .i64 0, .slice none 0 0, .int .i64 0, .int .i64 0, .slice none 0 0, .slice none 0 0, .slice none 0 0, .slice none 0 0, .slice none 0 0, .slice none 0 0] 36)) (w.heap.size + 1) 36 [.int .i64 0, .slice none 0 0, .int .i64 0, .slice none 0 0, .int .i64 0, .int .i64 0, .slice none 0 0, .slice none 0 0, .slice none 0 0, .slice none 0 0, .slice none 0 0, .slice none 0 0] := by
  have h := Arr.new (w.alloc (.cells #[.int .i64 a.1.1, .slice p1_2 a.1.2.1.length q1_2, .int .i64 a.1.2.2.1, .slice p1_4 a.1.2.2.2.length q1_4, .int .i64 a.2.1, .int .i64 a.2.2.1, .slice p4 a.2.2.2.1.length q4, .slice p5 a.2.2.2.2.1.length q5, .slice p6_1 a.2.2.2.2.2.1.length q6_1, .slice p6_2 a.2.2.2.2.2.2.1.length q6_2, .slice p6_3 a.2.2.2.2.2.2.2.1.length q6_3, .slice p6_4 a.2.2.2.2.2.2.2.2.length q6_4] 29)) [.int .i64 0, .slice none 0 0, .int .i64 0, .slice none 0 0, .int .i64 0, .int .i64 0, .slice none 0 0, .slice none 0 0, .slice none 0 0, .slice none 0 0, .slice none 0 0, .slice none 0 0] 36
  rw [size_alloc] at h
  exact h.old _ _
 have A : Arr (((w.alloc (.cells #[.int .i64 a.1.1, .slice p1_2 a.1.2.1.length q1_2, .int .i64 a.1.2.2.1, .slice p1_4 a.1.2.2.2.length q1_4, .int .i64 a.2.1, .int .i64 a.2.2.1, .slice p4 a.2.2.2.1.length q4, .slice p5 a.2.2.2.2.1.length q5, .slice p6_1 a.2.2.2.2.2.1.length q6_1, .slice p6_2 a.2.2.2.2.2.2.1.length q6_2, .slice p6_3 a.2.2.2.2.2.2.2.1.length q6_3, .slice p6_4 a.2.2.2.2.2.2.2.2.length q6_4] 29)).alloc (.cells #[.int .i64 0, .slice none 0 0, .int .i64 0, .slice none 0 0, .int .i64 0, .int .i64 0, .slice none 0 0, .slice none 0 0, .slice none 0 0, .slice none 0 0, .slice none 0 0, .slice none 0 0] 36)).alloc (.cells #[.int .i64 0, .slice none 0 0, .int .i64 0, .slice none 0 0, .int .i64 0, .int .i64 0, .slice none 0 0, .slice none 0 0, .slice none 0 0, .slice none 0 0, .slice none 0 0, .slice none 0 0] 36)) w.heap.size 29 [.int .i64 a.1.1, .slice p1_2 a.1.2.1.length q1_2, .int .i64 a.1.2.2.1, .slice p1_4 a.1.2.2.2.length q1_4, .int .i64 a.2.1, .int .i64 a.2.2.1, .slice p4 a.2.2.2.1.length q4, .slice p5 a.2.2.2.2.1.length q5, .slice p6_1 a.2.2.2.2.2.1.length q6_1, .slice p6_2 a.2.2.2.2.2.2.1.length q6_2, .slice p6_3 a.2.2.2.2.2.2.2.1.length q6_3, .slice p6_4 a.2.2.2.2.2.2.2.2.length q6_4] := Arr.old _ _ (Arr.old _ _ (Arr.new w [.int .i64 a.1.1, .slice p1_2 a.1.2.1.length q1_2, .int .i64 a.1.2.2.1, .slice p1_4 a.1.2.2.2.length q1_4, .int .i64 a.2.1, .int .i64 a.2.2.1, .slice p4 a.2.2.2.1.length q4, .slice p5 a.2.2.2.2.1.length q5, .slice p6_1 a.2.2.2.2.2.1.length q6_1, .slice p6_2 a.2.2.2.2.2.2.1.length q6_2, .slice p6_3 a.2.2.2.2.2.2.2.1.length q6_3, .slice p6_4 a.2.2.2.2.2.2.2.2.length q6_4] 29))
 have O : Arr (((w.alloc (.cells #[.int .i64 a.1.1, .slice p1_2 a.1.2.1.length q1_2, .int .i64 a.1.2.2.1, .slice p1_4 a.1.2.2.2.length q1_4, .int .i64 a.2.1, .int .i64 a.2.2.1, .slice p4 a.2.2.2.1.length q4, .slice p5 a.2.2.2.2.1.length q5, .slice p6_1 a.2.2.2.2.2.1.length q6_1, .slice p6_2 a.2.2.2.2.2.2.1.length q6_2, .slice p6_3 a.2.2.2.2.2.2.2.1.length q6_3, .slice p6_4 a.2.2.2.2.2.2.2.2.length q6_4] 29)).alloc (.cells #[.int .i64 0, .slice none 0 0, .int .i64 0, .slice none 0 0, .int .i64 0, .int .i64 0, .slice none 0 0, .slice none 0 0, .slice none 0 0, .slice none 0 0, .slice none 0 0, .slice none 0 0] 36)).alloc (.cells #[.int .i64 0, .slice none 0 0, .int .i64 0, .slice none 0 0, .int .i64 0, .int .i64 0, .slice none 0 0, .slice none 0 0, .slice none 0 0, .slice none 0 0, .slice none 0 0, .slice none 0 0] 36)) (w.heap.size + 1 + 1) 36 [.int .i64 0, .slice none 0 0, .int .i64 0, .slice none 0 0, .int .i64 0, .int .i64 0, .slice none 0 0, .slice none 0 0, .slice none 0 0, .slice none 0 0, .slice none 0 0, .slice none 0 0] := by
  have h := Arr.new ((w.alloc (.cells #[.int .i64 a.1.1, .slice p1_2 a.1.2.1.length q1_2, .int .i64 a.1.2.2.1, .slice p1_4 a.1.2.2.2.length q1_4, .int .i64 a.2.1, .int .i64 a.2.2.1, .slice p4 a.2.2.2.1.length q4, .slice p5 a.2.2.2.2.1.length q5, .slice p6_1 a.2.2.2.2.2.1.length q6_1, .slice p6_2 a.2.2.2.2.2.2.1.length q6_2, .slice p6_3 a.2.2.2.2.2.2.2.1.length q6_3, .slice p6_4 a.2.2.2.2.2.2.2.2.length q6_4] 29)).alloc (.cells #[.int .i64 0, .slice none 0 0, .int .i64 0, .slice none 0 0, .int .i64 0, .int .i64 0, .slice none 0 0, .slice none 0 0, .slice none 0 0, .slice none 0 0, .slice none 0 0, .slice none 0 0] 36)) [.int .i64 0, .slice none 0 0, .int .i64 0, .slice none 0 0, .int .i64 0, .int .i64 0, .slice none 0 0, .slice none 0 0, .slice none 0 0, .slice none 0 0, .slice none 0 0, .slice none 0 0] 36
  rw [size_alloc, size_alloc] at h
  exact h
 have z0 : Hid ((((w.alloc (.cells #[.int .i64 a.1.1, .slice p1_2 a.1.2.1.length q1_2, .int .i64 a.1.2.2.1, .slice p1_4 a.1.2.2.2.length q1_4, .int .i64 a.2.1, .int .i64 a.2.2.1, .slice p4 a.2.2.2.1.length q4, .slice p5 a.2.2.2.2.1.length q5, .slice p6_1 a.2.2.2.2.2.1.length q6_1, .slice p6_2 a.2.2.2.2.2.2.1.length q6_2, .slice p6_3 a.2.2.2.2.2.2.2.1.length q6_3, .slice p6_4 a.2.2.2.2.2.2.2.2.length q6_4] 29)).alloc (.cells #[.int .i64 0, .slice none 0 0, .int .i64 0, .slice none 0 0, .int .i64 0, .int .i64 0, .slice none 0 0, .slice none 0 0, .slice none 0 0, .slice none 0 0, .slice none 0 0, .slice none 0 0] 36)).alloc (.cells #[.int .i64 0, .slice none 0 0, .int .i64 0, .slice none 0 0, .int .i64 0, .int .i64 0, .slice none 0 0, .slice none 0 0, .slice none 0 0, .slice none 0 0, .slice none 0 0, .slice none 0 0] 36)).heap.size = w.heap.size + 3) := by show _ = _; rw [size_alloc, size_alloc, size_alloc]
 have R1_2 : Hid (Rd w p1_2 q1_2 a.1.2.1) := r1_2
 have R1_4 : Hid (Rd w p1_4 q1_4 a.1.2.2.2) := r1_4
 have R4 : Hid (RdL msgC w p4 q4 a.2.2.2.1) := r4
 have R5 : Hid (Rd w p5 q5 a.2.2.2.2.1) := r5
 have R6_1 : Hid (Rd w p6_1 q6_1 a.2.2.2.2.2.1) := r6_1
 have R6_2 : Hid (Rd w p6_2 q6_2 a.2.2.2.2.2.2.1) := r6_2
 have R6_3 : Hid (Rd w p6_3 q6_3 a.2.2.2.2.2.2.2.1) := r6_3
 have R6_4 : Hid (Rd w p6_4 q6_4 a.2.2.2.2.2.2.2.2) := r6_4
 clear r1_2 r1_4 r4 r5 r6_1 r6_2 r6_3 r6_4
 have HL : Hid (sideN a.1 + bulkM a.2.2.2.1 + a.2.2.2.2.1.length + secretsN a.2.2.2.2.2 ≤ 1048576) := hl
 clear hl
 go_enter Tryz.func9, Tryz.ntmps9
 go_wp2_with fail
 refine (toSide_k a.1 _ _ (side_mk (R1_2.out.keep BW) (R1_4.out.keep BW)) (by have := HL.out; omega)).mono ?_
 rintro e w1 ⟨vs0, fp0, rfl, k0, hb⟩
 rw [z0.out] at k0
 have z1 : Hid (w.heap.size + 3 ≤ w1.heap.size) := by have h := hb.size; rw [z0.out] at h; exact h
 have g0 : Hid (∀ k, k ∈ fp0 → w.heap.size + 3 ≤ k ∧ k < w1.heap.size) := fun k hk => sideC.ins k0 k hk
 replace A := A.stay hb
 replace R := R.stay hb
 replace O := O.stay hb
 replace BW := Below.step BW hb
 obtain ⟨pv1_2, qv1_2, pv1_4, qv1_4, e0, -, -⟩ := side_rep (sideC.toRep k0)
 subst e0
 have ca0 := (A.cell 0).trans (show _ = some _ from rfl)
 have co0 := (O.cell 0).trans (show _ = some _ from rfl)
 have cr0 := (R.cell 0).trans (show _ = some _ from rfl)
 have ca1 := (A.cell 1).trans (show _ = some _ from rfl)
 have co1 := (O.cell 1).trans (show _ = some _ from rfl)
 have cr1 := (R.cell 1).trans (show _ = some _ from rfl)
 have ca2 := (A.cell 2).trans (show _ = some _ from rfl)
 have co2 := (O.cell 2).trans (show _ = some _ from rfl)
 have cr2 := (R.cell 2).trans (show _ = some _ from rfl)
 have ca3 := (A.cell 3).trans (show _ = some _ from rfl)
 have co3 := (O.cell 3).trans (show _ = some _ from rfl)
 have cr3 := (R.cell 3).trans (show _ = some _ from rfl)
 have ca4 := (A.cell 4).trans (show _ = some _ from rfl)
 have co4 := (O.cell 4).trans (show _ = some _ from rfl)
 have cr4 := (R.cell 4).trans (show _ = some _ from rfl)
 have ca5 := (A.cell 5).trans (show _ = some _ from rfl)
 have co5 := (O.cell 5).trans (show _ = some _ from rfl)
 have cr5 := (R.cell 5).trans (show _ = some _ from rfl)
 have ca6 := (A.cell 6).trans (show _ = some _ from rfl)
 have co6 := (O.cell 6).trans (show _ = some _ from rfl)
 have cr6 := (R.cell 6).trans (show _ = some _ from rfl)
 have ca7 := (A.cell 7).trans (show _ = some _ from rfl)
 have co7 := (O.cell 7).trans (show _ = some _ from rfl)
 have cr7 := (R.cell 7).trans (show _ = some _ from rfl)
 have ca8 := (A.cell 8).trans (show _ = some _ from rfl)
 have co8 := (O.cell 8).trans (show _ = some _ from rfl)
 have cr8 := (R.cell 8).trans (show _ = some _ from rfl)
 have ca9 := (A.cell 9).trans (show _ = some _ from rfl)
 have co9 := (O.cell 9).trans (show _ = some _ from rfl)
 have cr9 := (R.cell 9).trans (show _ = some _ from rfl)
 have ca10 := (A.cell 10).trans (show _ = some _ from rfl)
 have co10 := (O.cell 10).trans (show _ = some _ from rfl)
 have cr10 := (R.cell 10).trans (show _ = some _ from rfl)
 have ca11 := (A.cell 11).trans (show _ = some _ from rfl)
 have co11 := (O.cell 11).trans (show _ = some _ from rfl)
 have cr11 := (R.cell 11).trans (show _ = some _ from rfl)
 have fo := O.frozen
 have fr := R.frozen
 clear hb
 go_wp2_with fail
 replace A := A.setOther (a := ⟨w.heap.size + 1 + 1, 0, none⟩) (by simp; omega) (.int .i64 a.1.1)
 replace R := R.setOther (a := ⟨w.heap.size + 1 + 1, 0, none⟩) (by simp) (.int .i64 a.1.1)
 replace O := O.set 0 (.int .i64 a.1.1)
 replace BW := BW.setCell (p := ⟨w.heap.size + 1 + 1, 0, none⟩) (by show w.heap.size ≤ w.heap.size + 1 + 1; omega) (.int .i64 a.1.1)
 replace k0 := sideC.set k0 (p := ⟨w.heap.size + 1 + 1, 0, none⟩) (by show w.heap.size + 1 + 1 < w.heap.size + 3; omega) (.int .i64 a.1.1)
 replace A := A.setOther (a := ⟨w.heap.size + 1 + 1, 1, none⟩) (by simp; omega) (.slice pv1_2 a.1.2.1.length qv1_2)
 replace R := R.setOther (a := ⟨w.heap.size + 1 + 1, 1, none⟩) (by simp) (.slice pv1_2 a.1.2.1.length qv1_2)
 replace O := O.set 1 (.slice pv1_2 a.1.2.1.length qv1_2)
 replace BW := BW.setCell (p := ⟨w.heap.size + 1 + 1, 1, none⟩) (by show w.heap.size ≤ w.heap.size + 1 + 1; omega) (.slice pv1_2 a.1.2.1.length qv1_2)
 replace k0 := sideC.set k0 (p := ⟨w.heap.size + 1 + 1, 1, none⟩) (by show w.heap.size + 1 + 1 < w.heap.size + 3; omega) (.slice pv1_2 a.1.2.1.length qv1_2)
 replace A := A.setOther (a := ⟨w.heap.size + 1 + 1, 2, none⟩) (by simp; omega) (.int .i64 a.1.2.2.1)
 replace R := R.setOther (a := ⟨w.heap.size + 1 + 1, 2, none⟩) (by simp) (.int .i64 a.1.2.2.1)
 replace O := O.set 2 (.int .i64 a.1.2.2.1)
 replace BW := BW.setCell (p := ⟨w.heap.size + 1 + 1, 2, none⟩) (by show w.heap.size ≤ w.heap.size + 1 + 1; omega) (.int .i64 a.1.2.2.1)
 replace k0 := sideC.set k0 (p := ⟨w.heap.size + 1 + 1, 2, none⟩) (by show w.heap.size + 1 + 1 < w.heap.size + 3; omega) (.int .i64 a.1.2.2.1)
 replace A := A.setOther (a := ⟨w.heap.size + 1 + 1, 3, none⟩) (by simp; omega) (.slice pv1_4 a.1.2.2.2.length qv1_4)
 replace R := R.setOther (a := ⟨w.heap.size + 1 + 1, 3, none⟩) (by simp) (.slice pv1_4 a.1.2.2.2.length qv1_4)
 replace O := O.set 3 (.slice pv1_4 a.1.2.2.2.length qv1_4)
 replace BW := BW.setCell (p := ⟨w.heap.size + 1 + 1, 3, none⟩) (by show w.heap.size ≤ w.heap.size + 1 + 1; omega) (.slice pv1_4 a.1.2.2.2.length qv1_4)
 replace k0 := sideC.set k0 (p := ⟨w.heap.size + 1 + 1, 3, none⟩) (by show w.heap.size + 1 + 1 < w.heap.size + 3; omega) (.slice pv1_4 a.1.2.2.2.length qv1_4)
 replace A := A.setOther (a := ⟨w.heap.size + 1 + 1, 4, none⟩) (by simp; omega) (.int .i64 a.2.1)
 replace R := R.setOther (a := ⟨w.heap.size + 1 + 1, 4, none⟩) (by simp) (.int .i64 a.2.1)
 replace O := O.set 4 (.int .i64 a.2.1)
 replace BW := BW.setCell (p := ⟨w.heap.size + 1 + 1, 4, none⟩) (by show w.heap.size ≤ w.heap.size + 1 + 1; omega) (.int .i64 a.2.1)
 replace k0 := sideC.set k0 (p := ⟨w.heap.size + 1 + 1, 4, none⟩) (by show w.heap.size + 1 + 1 < w.heap.size + 3; omega) (.int .i64 a.2.1)
 replace A := A.setOther (a := ⟨w.heap.size + 1 + 1, 5, none⟩) (by simp; omega) (.int .i64 a.2.2.1)
 replace R := R.setOther (a := ⟨w.heap.size + 1 + 1, 5, none⟩) (by simp) (.int .i64 a.2.2.1)
 replace O := O.set 5 (.int .i64 a.2.2.1)
 replace BW := BW.setCell (p := ⟨w.heap.size + 1 + 1, 5, none⟩) (by show w.heap.size ≤ w.heap.size + 1 + 1; omega) (.int .i64 a.2.2.1)
 replace k0 := sideC.set k0 (p := ⟨w.heap.size + 1 + 1, 5, none⟩) (by show w.heap.size + 1 + 1 < w.heap.size + 3; omega) (.int .i64 a.2.2.1)
 simp only [List.set_cons_zero, List.set_cons_succ] at O
 refine (toMsgS_k a.2.2.2.1 _ _ ⟨p4, q4, rfl, R4.out.keep BW⟩ (by have := HL.out; omega)).mono ?_
 rintro e w2 ⟨v3, fp3, rfl, k3, hb⟩
 simp only [World.size_setCell] at k3
 have z2 : Hid (w1.heap.size ≤ w2.heap.size) := by have h := hb.size; simp only [World.size_setCell] at h; exact h
 have g3 : Hid (∀ k, k ∈ fp3 → w1.heap.size ≤ k ∧ k < w2.heap.size) := fun k hk => msgsC.ins k3 k hk
 replace k3 := msgsC.low k3 (show w.heap.size + 3 ≤ w1.heap.size by have := z1.out; omega)
 replace A := A.stay hb
 replace R := R.stay hb
 replace O := O.stay hb
 replace BW := Below.step BW hb
 replace k0 := sideC.stay k0 hb
 obtain ⟨pv4, qv4, e3, -⟩ := msgsC.toRep k3
 simp only [List.cons.injEq, and_true] at e3
 subst e3
 have ca0 := (A.cell 0).trans (show _ = some _ from rfl)
 have co0 := (O.cell 0).trans (show _ = some _ from rfl)
 have cr0 := (R.cell 0).trans (show _ = some _ from rfl)
 have ca1 := (A.cell 1).trans (show _ = some _ from rfl)
 have co1 := (O.cell 1).trans (show _ = some _ from rfl)
 have cr1 := (R.cell 1).trans (show _ = some _ from rfl)
 have ca2 := (A.cell 2).trans (show _ = some _ from rfl)
 have co2 := (O.cell 2).trans (show _ = some _ from rfl)
 have cr2 := (R.cell 2).trans (show _ = some _ from rfl)
 have ca3 := (A.cell 3).trans (show _ = some _ from rfl)
 have co3 := (O.cell 3).trans (show _ = some _ from rfl)
 have cr3 := (R.cell 3).trans (show _ = some _ from rfl)
 have ca4 := (A.cell 4).trans (show _ = some _ from rfl)
 have co4 := (O.cell 4).trans (show _ = some _ from rfl)
 have cr4 := (R.cell 4).trans (show _ = some _ from rfl)
 have ca5 := (A.cell 5).trans (show _ = some _ from rfl)
 have co5 := (O.cell 5).trans (show _ = some _ from rfl)
 have cr5 := (R.cell 5).trans (show _ = some _ from rfl)
 have ca6 := (A.cell 6).trans (show _ = some _ from rfl)
 have co6 := (O.cell 6).trans (show _ = some _ from rfl)
 have cr6 := (R.cell 6).trans (show _ = some _ from rfl)
 have ca7 := (A.cell 7).trans (show _ = some _ from rfl)
 have co7 := (O.cell 7).trans (show _ = some _ from rfl)
 have cr7 := (R.cell 7).trans (show _ = some _ from rfl)
 have ca8 := (A.cell 8).trans (show _ = some _ from rfl)
 have co8 := (O.cell 8).trans (show _ = some _ from rfl)
 have cr8 := (R.cell 8).trans (show _ = some _ from rfl)
 have ca9 := (A.cell 9).trans (show _ = some _ from rfl)
 have co9 := (O.cell 9).trans (show _ = some _ from rfl)
 have cr9 := (R.cell 9).trans (show _ = some _ from rfl)
 have ca10 := (A.cell 10).trans (show _ = some _ from rfl)
 have co10 := (O.cell 10).trans (show _ = some _ from rfl)
 have cr10 := (R.cell 10).trans (show _ = some _ from rfl)
 have ca11 := (A.cell 11).trans (show _ = some _ from rfl)
 have co11 := (O.cell 11).trans (show _ = some _ from rfl)
 have cr11 := (R.cell 11).trans (show _ = some _ from rfl)
 have fo := O.frozen
 have fr := R.frozen
 clear hb
 go_wp2_with fail
 replace A := A.setOther (a := ⟨w.heap.size + 1 + 1, 6, none⟩) (by simp; omega) (.slice pv4 a.2.2.2.1.length qv4)
 replace R := R.setOther (a := ⟨w.heap.size + 1 + 1, 6, none⟩) (by simp) (.slice pv4 a.2.2.2.1.length qv4)
 replace O := O.set 6 (.slice pv4 a.2.2.2.1.length qv4)
 replace BW := BW.setCell (p := ⟨w.heap.size + 1 + 1, 6, none⟩) (by show w.heap.size ≤ w.heap.size + 1 + 1; omega) (.slice pv4 a.2.2.2.1.length qv4)
 replace k0 := sideC.set k0 (p := ⟨w.heap.size + 1 + 1, 6, none⟩) (by show w.heap.size + 1 + 1 < w.heap.size + 3; omega) (.slice pv4 a.2.2.2.1.length qv4)
 replace k3 := msgsC.set k3 (p := ⟨w.heap.size + 1 + 1, 6, none⟩) (by show w.heap.size + 1 + 1 < w.heap.size + 3; omega) (.slice pv4 a.2.2.2.1.length qv4)
 simp only [List.set_cons_zero, List.set_cons_succ] at O
 refine (toByteS_k a.2.2.2.2.1 _ _ ⟨p5, q5, rfl, R5.out.keep BW⟩ (by have := HL.out; omega)).mono ?_
 rintro e w3 ⟨v4, fp4, rfl, k4, hb⟩
 simp only [World.size_setCell] at k4
 have z3 : Hid (w2.heap.size ≤ w3.heap.size) := by have h := hb.size; simp only [World.size_setCell] at h; exact h
 have g4 : Hid (∀ k, k ∈ fp4 → w2.heap.size ≤ k ∧ k < w3.heap.size) := fun k hk => bytC.ins k4 k hk
 replace k4 := bytC.low k4 (show w.heap.size + 3 ≤ w2.heap.size by have := z1.out; have := z2.out; omega)
 replace A := A.stay hb
 replace R := R.stay hb
 replace O := O.stay hb
 replace BW := Below.step BW hb
 replace k0 := sideC.stay k0 hb
 replace k3 := msgsC.stay k3 hb
 obtain ⟨pv5, qv5, e4, -⟩ := bytC.toRep k4
 simp only [List.cons.injEq, and_true] at e4
 subst e4
 have ca0 := (A.cell 0).trans (show _ = some _ from rfl)
 have co0 := (O.cell 0).trans (show _ = some _ from rfl)
 have cr0 := (R.cell 0).trans (show _ = some _ from rfl)
 have ca1 := (A.cell 1).trans (show _ = some _ from rfl)
 have co1 := (O.cell 1).trans (show _ = some _ from rfl)
 have cr1 := (R.cell 1).trans (show _ = some _ from rfl)
 have ca2 := (A.cell 2).trans (show _ = some _ from rfl)
 have co2 := (O.cell 2).trans (show _ = some _ from rfl)
 have cr2 := (R.cell 2).trans (show _ = some _ from rfl)
 have ca3 := (A.cell 3).trans (show _ = some _ from rfl)
 have co3 := (O.cell 3).trans (show _ = some _ from rfl)
 have cr3 := (R.cell 3).trans (show _ = some _ from rfl)
 have ca4 := (A.cell 4).trans (show _ = some _ from rfl)
 have co4 := (O.cell 4).trans (show _ = some _ from rfl)
 have cr4 := (R.cell 4).trans (show _ = some _ from rfl)
 have ca5 := (A.cell 5).trans (show _ = some _ from rfl)
 have co5 := (O.cell 5).trans (show _ = some _ from rfl)
 have cr5 := (R.cell 5).trans (show _ = some _ from rfl)
 have ca6 := (A.cell 6).trans (show _ = some _ from rfl)
 have co6 := (O.cell 6).trans (show _ = some _ from rfl)
 have cr6 := (R.cell 6).trans (show _ = some _ from rfl)
 have ca7 := (A.cell 7).trans (show _ = some _ from rfl)
 have co7 := (O.cell 7).trans (show _ = some _ from rfl)
 have cr7 := (R.cell 7).trans (show _ = some _ from rfl)
 have ca8 := (A.cell 8).trans (show _ = some _ from rfl)
 have co8 := (O.cell 8).trans (show _ = some _ from rfl)
 have cr8 := (R.cell 8).trans (show _ = some _ from rfl)
 have ca9 := (A.cell 9).trans (show _ = some _ from rfl)
 have co9 := (O.cell 9).trans (show _ = some _ from rfl)
 have cr9 := (R.cell 9).trans (show _ = some _ from rfl)
 have ca10 := (A.cell 10).trans (show _ = some _ from rfl)
 have co10 := (O.cell 10).trans (show _ = some _ from rfl)
 have cr10 := (R.cell 10).trans (show _ = some _ from rfl)
 have ca11 := (A.cell 11).trans (show _ = some _ from rfl)
 have co11 := (O.cell 11).trans (show _ = some _ from rfl)
 have cr11 := (R.cell 11).trans (show _ = some _ from rfl)
 have fo := O.frozen
 have fr := R.frozen
 clear hb
 go_wp2_with fail
 replace A := A.setOther (a := ⟨w.heap.size + 1 + 1, 7, none⟩) (by simp; omega) (.slice pv5 a.2.2.2.2.1.length qv5)
 replace R := R.setOther (a := ⟨w.heap.size + 1 + 1, 7, none⟩) (by simp) (.slice pv5 a.2.2.2.2.1.length qv5)
 replace O := O.set 7 (.slice pv5 a.2.2.2.2.1.length qv5)
 replace BW := BW.setCell (p := ⟨w.heap.size + 1 + 1, 7, none⟩) (by show w.heap.size ≤ w.heap.size + 1 + 1; omega) (.slice pv5 a.2.2.2.2.1.length qv5)
 replace k0 := sideC.set k0 (p := ⟨w.heap.size + 1 + 1, 7, none⟩) (by show w.heap.size + 1 + 1 < w.heap.size + 3; omega) (.slice pv5 a.2.2.2.2.1.length qv5)
 replace k3 := msgsC.set k3 (p := ⟨w.heap.size + 1 + 1, 7, none⟩) (by show w.heap.size + 1 + 1 < w.heap.size + 3; omega) (.slice pv5 a.2.2.2.2.1.length qv5)
 replace k4 := bytC.set k4 (p := ⟨w.heap.size + 1 + 1, 7, none⟩) (by show w.heap.size + 1 + 1 < w.heap.size + 3; omega) (.slice pv5 a.2.2.2.2.1.length qv5)
 simp only [List.set_cons_zero, List.set_cons_succ] at O
 refine (toSecrets_k a.2.2.2.2.2 _ _ (secrets_mk (R6_1.out.keep BW) (R6_2.out.keep BW) (R6_3.out.keep BW) (R6_4.out.keep BW)) (by have := HL.out; omega)).mono ?_
 rintro e w4 ⟨vs5, fp5, rfl, k5, hb⟩
 simp only [World.size_setCell] at k5
 have z4 : Hid (w3.heap.size ≤ w4.heap.size) := by have h := hb.size; simp only [World.size_setCell] at h; exact h
 have g5 : Hid (∀ k, k ∈ fp5 → w3.heap.size ≤ k ∧ k < w4.heap.size) := fun k hk => secretsC.ins k5 k hk
 replace k5 := secretsC.low k5 (show w.heap.size + 3 ≤ w3.heap.size by have := z1.out; have := z2.out; have := z3.out; omega)
 replace A := A.stay hb
 replace R := R.stay hb
 replace O := O.stay hb
 replace BW := Below.step BW hb
 replace k0 := sideC.stay k0 hb
 replace k3 := msgsC.stay k3 hb
 replace k4 := bytC.stay k4 hb
 obtain ⟨pv6_1, qv6_1, pv6_2, qv6_2, pv6_3, qv6_3, pv6_4, qv6_4, e5, -, -, -, -⟩ := secrets_rep (secretsC.toRep k5)
 subst e5
 have ca0 := (A.cell 0).trans (show _ = some _ from rfl)
 have co0 := (O.cell 0).trans (show _ = some _ from rfl)
 have cr0 := (R.cell 0).trans (show _ = some _ from rfl)
 have ca1 := (A.cell 1).trans (show _ = some _ from rfl)
 have co1 := (O.cell 1).trans (show _ = some _ from rfl)
 have cr1 := (R.cell 1).trans (show _ = some _ from rfl)
 have ca2 := (A.cell 2).trans (show _ = some _ from rfl)
 have co2 := (O.cell 2).trans (show _ = some _ from rfl)
 have cr2 := (R.cell 2).trans (show _ = some _ from rfl)
 have ca3 := (A.cell 3).trans (show _ = some _ from rfl)
 have co3 := (O.cell 3).trans (show _ = some _ from rfl)
 have cr3 := (R.cell 3).trans (show _ = some _ from rfl)
 have ca4 := (A.cell 4).trans (show _ = some _ from rfl)
 have co4 := (O.cell 4).trans (show _ = some _ from rfl)
 have cr4 := (R.cell 4).trans (show _ = some _ from rfl)
 have ca5 := (A.cell 5).trans (show _ = some _ from rfl)
 have co5 := (O.cell 5).trans (show _ = some _ from rfl)
 have cr5 := (R.cell 5).trans (show _ = some _ from rfl)
 have ca6 := (A.cell 6).trans (show _ = some _ from rfl)
 have co6 := (O.cell 6).trans (show _ = some _ from rfl)
 have cr6 := (R.cell 6).trans (show _ = some _ from rfl)
 have ca7 := (A.cell 7).trans (show _ = some _ from rfl)
 have co7 := (O.cell 7).trans (show _ = some _ from rfl)
 have cr7 := (R.cell 7).trans (show _ = some _ from rfl)
 have ca8 := (A.cell 8).trans (show _ = some _ from rfl)
 have co8 := (O.cell 8).trans (show _ = some _ from rfl)
 have cr8 := (R.cell 8).trans (show _ = some _ from rfl)
 have ca9 := (A.cell 9).trans (show _ = some _ from rfl)
 have co9 := (O.cell 9).trans (show _ = some _ from rfl)
 have cr9 := (R.cell 9).trans (show _ = some _ from rfl)
 have ca10 := (A.cell 10).trans (show _ = some _ from rfl)
 have co10 := (O.cell 10).trans (show _ = some _ from rfl)
 have cr10 := (R.cell 10).trans (show _ = some _ from rfl)
 have ca11 := (A.cell 11).trans (show _ = some _ from rfl)
 have co11 := (O.cell 11).trans (show _ = some _ from rfl)
 have cr11 := (R.cell 11).trans (show _ = some _ from rfl)
 have fo := O.frozen
 have fr := R.frozen
 clear hb
 go_wp2_with fail
 refine bodyPost_ret (v := .agg #[.int .i64 a.1.1, .slice pv1_2 a.1.2.1.length qv1_2, .int .i64 a.1.2.2.1, .slice pv1_4 a.1.2.2.2.length qv1_4, .int .i64 a.2.1, .int .i64 a.2.2.1, .slice pv4 a.2.2.2.1.length qv4, .slice pv5 a.2.2.2.2.1.length qv5, .slice pv6_1 a.2.2.2.2.2.1.length qv6_1, .slice pv6_2 a.2.2.2.2.2.2.1.length qv6_2, .slice pv6_3 a.2.2.2.2.2.2.2.1.length qv6_3, .slice pv6_4 a.2.2.2.2.2.2.2.2.length qv6_4]) (by simp [results, Tryz.results9, go_sem, cr0, cr1, cr2, cr3, cr4, cr5, cr6, cr7, cr8, cr9, cr10, cr11]) rfl ⟨[.int .i64 a.1.1, .slice pv1_2 a.1.2.1.length qv1_2, .int .i64 a.1.2.2.1, .slice pv1_4 a.1.2.2.2.length qv1_4, .int .i64 a.2.1, .int .i64 a.2.2.1, .slice pv4 a.2.2.2.1.length qv4, .slice pv5 a.2.2.2.2.1.length qv5, .slice pv6_1 a.2.2.2.2.2.1.length qv6_1, .slice pv6_2 a.2.2.2.2.2.2.1.length qv6_2, .slice pv6_3 a.2.2.2.2.2.2.2.1.length qv6_3, .slice pv6_4 a.2.2.2.2.2.2.2.2.length qv6_4], _, rfl, endC.low (own_pair w1.heap.size (sideC.set (sideC.set (sideC.set (sideC.set (sideC.set (sideC.set (sideC.set (sideC.set (sideC.set (sideC.set (sideC.set (sideC.set (sideC.set (sideC.set (sideC.set (sideC.set k0 (show w.heap.size + 1 + 1 < w.heap.size + 3 by omega) _) (show w.heap.size + 1 + 1 < w.heap.size + 3 by omega) _) (show w.heap.size + 1 + 1 < w.heap.size + 3 by omega) _) (show w.heap.size + 1 + 1 < w.heap.size + 3 by omega) _) (show w.heap.size + 1 < w.heap.size + 3 by omega) _) (show w.heap.size + 1 < w.heap.size + 3 by omega) _) (show w.heap.size + 1 < w.heap.size + 3 by omega) _) (show w.heap.size + 1 < w.heap.size + 3 by omega) _) (show w.heap.size + 1 < w.heap.size + 3 by omega) _) (show w.heap.size + 1 < w.heap.size + 3 by omega) _) (show w.heap.size + 1 < w.heap.size + 3 by omega) _) (show w.heap.size + 1 < w.heap.size + 3 by omega) _) (show w.heap.size + 1 < w.heap.size + 3 by omega) _) (show w.heap.size + 1 < w.heap.size + 3 by omega) _) (show w.heap.size + 1 < w.heap.size + 3 by omega) _) (show w.heap.size + 1 < w.heap.size + 3 by omega) _) (own_pair 0 own_int (own_pair 0 own_int (own_pair w2.heap.size (msgsC.set (msgsC.set (msgsC.set (msgsC.set (msgsC.set (msgsC.set (msgsC.set (msgsC.set (msgsC.set (msgsC.set (msgsC.set (msgsC.set (msgsC.set (msgsC.set (msgsC.set (msgsC.set k3 (show w.heap.size + 1 + 1 < w.heap.size + 3 by omega) _) (show w.heap.size + 1 + 1 < w.heap.size + 3 by omega) _) (show w.heap.size + 1 + 1 < w.heap.size + 3 by omega) _) (show w.heap.size + 1 + 1 < w.heap.size + 3 by omega) _) (show w.heap.size + 1 < w.heap.size + 3 by omega) _) (show w.heap.size + 1 < w.heap.size + 3 by omega) _) (show w.heap.size + 1 < w.heap.size + 3 by omega) _) (show w.heap.size + 1 < w.heap.size + 3 by omega) _) (show w.heap.size + 1 < w.heap.size + 3 by omega) _) (show w.heap.size + 1 < w.heap.size + 3 by omega) _) (show w.heap.size + 1 < w.heap.size + 3 by omega) _) (show w.heap.size + 1 < w.heap.size + 3 by omega) _) (show w.heap.size + 1 < w.heap.size + 3 by omega) _) (show w.heap.size + 1 < w.heap.size + 3 by omega) _) (show w.heap.size + 1 < w.heap.size + 3 by omega) _) (show w.heap.size + 1 < w.heap.size + 3 by omega) _) (own_pair w3.heap.size (bytC.set (bytC.set (bytC.set (bytC.set (bytC.set (bytC.set (bytC.set (bytC.set (bytC.set (bytC.set (bytC.set (bytC.set (bytC.set (bytC.set (bytC.set (bytC.set k4 (show w.heap.size + 1 + 1 < w.heap.size + 3 by omega) _) (show w.heap.size + 1 + 1 < w.heap.size + 3 by omega) _) (show w.heap.size + 1 + 1 < w.heap.size + 3 by omega) _) (show w.heap.size + 1 + 1 < w.heap.size + 3 by omega) _) (show w.heap.size + 1 < w.heap.size + 3 by omega) _) (show w.heap.size + 1 < w.heap.size + 3 by omega) _) (show w.heap.size + 1 < w.heap.size + 3 by omega) _) (show w.heap.size + 1 < w.heap.size + 3 by omega) _) (show w.heap.size + 1 < w.heap.size + 3 by omega) _) (show w.heap.size + 1 < w.heap.size + 3 by omega) _) (show w.heap.size + 1 < w.heap.size + 3 by omega) _) (show w.heap.size + 1 < w.heap.size + 3 by omega) _) (show w.heap.size + 1 < w.heap.size + 3 by omega) _) (show w.heap.size + 1 < w.heap.size + 3 by omega) _) (show w.heap.size + 1 < w.heap.size + 3 by omega) _) (show w.heap.size + 1 < w.heap.size + 3 by omega) _) (secretsC.set (secretsC.set (secretsC.set (secretsC.set (secretsC.set (secretsC.set (secretsC.set (secretsC.set (secretsC.set (secretsC.set (secretsC.set (secretsC.set (secretsC.set (secretsC.set (secretsC.set (secretsC.set k5 (show w.heap.size + 1 + 1 < w.heap.size + 3 by omega) _) (show w.heap.size + 1 + 1 < w.heap.size + 3 by omega) _) (show w.heap.size + 1 + 1 < w.heap.size + 3 by omega) _) (show w.heap.size + 1 + 1 < w.heap.size + 3 by omega) _) (show w.heap.size + 1 < w.heap.size + 3 by omega) _) (show w.heap.size + 1 < w.heap.size + 3 by omega) _) (show w.heap.size + 1 < w.heap.size + 3 by omega) _) (show w.heap.size + 1 < w.heap.size + 3 by omega) _) (show w.heap.size + 1 < w.heap.size + 3 by omega) _) (show w.heap.size + 1 < w.heap.size + 3 by omega) _) (show w.heap.size + 1 < w.heap.size + 3 by omega) _) (show w.heap.size + 1 < w.heap.size + 3 by omega) _) (show w.heap.size + 1 < w.heap.size + 3 by omega) _) (show w.heap.size + 1 < w.heap.size + 3 by omega) _) (show w.heap.size + 1 < w.heap.size + 3 by omega) _) (show w.heap.size + 1 < w.heap.size + 3 by omega) _) (fun k hk => (g4.out k hk).2) (fun k hk => Nat.le_trans (by have := z1.out; have := z2.out; have := z3.out; have := z4.out; omega) (g5.out k hk).1)) (fun k hk => (g3.out k hk).2) (ge_app (fun k hk => Nat.le_trans (by have := z1.out; have := z2.out; have := z3.out; have := z4.out; omega) (g4.out k hk).1) (fun k hk => Nat.le_trans (by have := z1.out; have := z2.out; have := z3.out; have := z4.out; omega) (g5.out k hk).1))) lt_nil (fun _ _ => Nat.zero_le _)) lt_nil (fun _ _ => Nat.zero_le _)) (fun k hk => (g0.out k hk).2) (ge_app ge_nil (ge_app ge_nil (ge_app (fun k hk => Nat.le_trans (by have := z1.out; have := z2.out; have := z3.out; have := z4.out; omega) (g3.out k hk).1) (ge_app (fun k hk => Nat.le_trans (by have := z1.out; have := z2.out; have := z3.out; have := z4.out; omega) (g4.out k hk).1) (fun k hk => Nat.le_trans (by have := z1.out; have := z2.out; have := z3.out; have := z4.out; omega) (g5.out k hk).1)))))) (Nat.le_add_right _ 3), ((((((((((((((((BW.setCell (show w.heap.size ≤ w.heap.size + 1 + 1 by omega) _).setCell (show w.heap.size ≤ w.heap.size + 1 + 1 by omega) _).setCell (show w.heap.size ≤ w.heap.size + 1 + 1 by omega) _).setCell (show w.heap.size ≤ w.heap.size + 1 + 1 by omega) _).setCell (show w.heap.size ≤ w.heap.size + 1 by omega) _).setCell (show w.heap.size ≤ w.heap.size + 1 by omega) _).setCell (show w.heap.size ≤ w.heap.size + 1 by omega) _).setCell (show w.heap.size ≤ w.heap.size + 1 by omega) _).setCell (show w.heap.size ≤ w.heap.size + 1 by omega) _).setCell (show w.heap.size ≤ w.heap.size + 1 by omega) _).setCell (show w.heap.size ≤ w.heap.size + 1 by omega) _).setCell (show w.heap.size ≤ w.heap.size + 1 by omega) _).setCell (show w.heap.size ≤ w.heap.size + 1 by omega) _).setCell (show w.heap.size ≤ w.heap.size + 1 by omega) _).setCell (show w.heap.size ≤ w.heap.size + 1 by omega) _).setCell (show w.heap.size ≤ w.heap.size + 1 by omega) _)⟩
set_option maxRecDepth 4000 in
set_option maxHeartbeats 1000000 in
theorem szEnd_k (a : EndD) (us : List Value) (left : Int) (w : World) (h : endC.rep w a us) (h0 : 0 ≤ left) (h1 : left ≤ 1048576) :
  Calls Tryz.prog 6 #[.agg us.toArray, .int .i64 left] w fun e w' => e = .returned (.int .i64 (szR (endN a) left)) ∧ Below w.heap.size w w' := by
 obtain ⟨p1_2, q1_2, p1_4, q1_4, p4, q4, p5, q5, p6_1, q6_1, p6_2, q6_2, p6_3, q6_3, p6_4, q6_4, rfl, r1_2, r1_4, r4, r5, r6_1, r6_2, r6_3, r6_4⟩ := end_rep h
 clear h
 have BW := alloc_below w (.cells #[.int .i64 a.1.1, .slice p1_2 a.1.2.1.length q1_2, .int .i64 a.1.2.2.1, .slice p1_4 a.1.2.2.2.length q1_4, .int .i64 a.2.1, .int .i64 a.2.2.1, .slice p4 a.2.2.2.1.length q4, .slice p5 a.2.2.2.2.1.length q5, .slice p6_1 a.2.2.2.2.2.1.length q6_1, .slice p6_2 a.2.2.2.2.2.2.1.length q6_2, .slice p6_3 a.2.2.2.2.2.2.2.1.length q6_3, .slice p6_4 a.2.2.2.2.2.2.2.2.length q6_4] 29)
 have A := Arr.new w [.int .i64 a.1.1, .slice p1_2 a.1.2.1.length q1_2, .int .i64 a.1.2.2.1, .slice p1_4 a.1.2.2.2.length q1_4, .int .i64 a.2.1, .int .i64 a.2.2.1, .slice p4 a.2.2.2.1.length q4, .slice p5 a.2.2.2.2.1.length q5, .slice p6_1 a.2.2.2.2.2.1.length q6_1, .slice p6_2 a.2.2.2.2.2.2.1.length q6_2, .slice p6_3 a.2.2.2.2.2.2.2.1.length q6_3, .slice p6_4 a.2.2.2.2.2.2.2.2.length q6_4] 29
 have R1_2 : Hid (Rd w p1_2 q1_2 a.1.2.1) := r1_2
 have R1_4 : Hid (Rd w p1_4 q1_4 a.1.2.2.2) := r1_4
 have R4 : Hid (RdL msgC w p4 q4 a.2.2.2.1) := r4
 have R5 : Hid (Rd w p5 q5 a.2.2.2.2.1) := r5
 have R6_1 : Hid (Rd w p6_1 q6_1 a.2.2.2.2.2.1) := r6_1
 have R6_2 : Hid (Rd w p6_2 q6_2 a.2.2.2.2.2.2.1) := r6_2
 have R6_3 : Hid (Rd w p6_3 q6_3 a.2.2.2.2.2.2.2.1) := r6_3
 have R6_4 : Hid (Rd w p6_4 q6_4 a.2.2.2.2.2.2.2.2) := r6_4
 clear r1_2 r1_4 r4 r5 r6_1 r6_2 r6_3 r6_4
 by_cases s0 : ((sideN a.1 : Nat) : Int) ≤ left
 ·by_cases s1 : ((bulkM a.2.2.2.1 : Nat) : Int) ≤ left - ((sideN a.1 : Nat) : Int)
  ·by_cases s2 : ((a.2.2.2.2.1.length : Nat) : Int) ≤ left - ((sideN a.1 : Nat) : Int) - ((bulkM a.2.2.2.1 : Nat) : Int)
   ·by_cases s3 : ((secretsN a.2.2.2.2.2 : Nat) : Int) ≤ left - ((sideN a.1 : Nat) : Int) - ((bulkM a.2.2.2.1 : Nat) : Int) - ((a.2.2.2.2.1.length : Nat) : Int)
    ·go_enter Tryz.func6, Tryz.ntmps6
     go_wp2_with fail
     refine (szSide_k a.1 _ _ _ (side_mk (R1_2.out.keep BW) (R1_4.out.keep BW)) (by omega) (by omega)).mono ?_
     rintro e w1 ⟨rfl, hb⟩
     replace A := A.stay hb
     replace BW := Below.step BW hb
     have ca0 := (A.cell 0).trans (show _ = some _ from rfl)
     have ca1 := (A.cell 1).trans (show _ = some _ from rfl)
     have ca2 := (A.cell 2).trans (show _ = some _ from rfl)
     have ca3 := (A.cell 3).trans (show _ = some _ from rfl)
     have ca4 := (A.cell 4).trans (show _ = some _ from rfl)
     have ca5 := (A.cell 5).trans (show _ = some _ from rfl)
     have ca6 := (A.cell 6).trans (show _ = some _ from rfl)
     have ca7 := (A.cell 7).trans (show _ = some _ from rfl)
     have ca8 := (A.cell 8).trans (show _ = some _ from rfl)
     have ca9 := (A.cell 9).trans (show _ = some _ from rfl)
     have ca10 := (A.cell 10).trans (show _ = some _ from rfl)
     have ca11 := (A.cell 11).trans (show _ = some _ from rfl)
     clear hb
     rw [szR, if_pos (by omega)]
     go_wp2_with fail
     refine (szMsgS_k a.2.2.2.1 _ _ _ ⟨p4, q4, rfl, R4.out.keep BW⟩ (by omega) (by omega)).mono ?_
     rintro e w2 ⟨rfl, hb⟩
     replace A := A.stay hb
     replace BW := Below.step BW hb
     have ca0 := (A.cell 0).trans (show _ = some _ from rfl)
     have ca1 := (A.cell 1).trans (show _ = some _ from rfl)
     have ca2 := (A.cell 2).trans (show _ = some _ from rfl)
     have ca3 := (A.cell 3).trans (show _ = some _ from rfl)
     have ca4 := (A.cell 4).trans (show _ = some _ from rfl)
     have ca5 := (A.cell 5).trans (show _ = some _ from rfl)
     have ca6 := (A.cell 6).trans (show _ = some _ from rfl)
     have ca7 := (A.cell 7).trans (show _ = some _ from rfl)
     have ca8 := (A.cell 8).trans (show _ = some _ from rfl)
     have ca9 := (A.cell 9).trans (show _ = some _ from rfl)
     have ca10 := (A.cell 10).trans (show _ = some _ from rfl)
     have ca11 := (A.cell 11).trans (show _ = some _ from rfl)
     clear hb
     rw [szR, if_pos (by omega)]
     go_wp2_with fail
     refine (szByteS_k a.2.2.2.2.1 _ _ _ ⟨p5, q5, rfl, R5.out.keep BW⟩ (by omega) (by omega)).mono ?_
     rintro e w3 ⟨rfl, hb⟩
     replace A := A.stay hb
     replace BW := Below.step BW hb
     have ca0 := (A.cell 0).trans (show _ = some _ from rfl)
     have ca1 := (A.cell 1).trans (show _ = some _ from rfl)
     have ca2 := (A.cell 2).trans (show _ = some _ from rfl)
     have ca3 := (A.cell 3).trans (show _ = some _ from rfl)
     have ca4 := (A.cell 4).trans (show _ = some _ from rfl)
     have ca5 := (A.cell 5).trans (show _ = some _ from rfl)
     have ca6 := (A.cell 6).trans (show _ = some _ from rfl)
     have ca7 := (A.cell 7).trans (show _ = some _ from rfl)
     have ca8 := (A.cell 8).trans (show _ = some _ from rfl)
     have ca9 := (A.cell 9).trans (show _ = some _ from rfl)
     have ca10 := (A.cell 10).trans (show _ = some _ from rfl)
     have ca11 := (A.cell 11).trans (show _ = some _ from rfl)
     clear hb
     rw [szR, if_pos (by omega)]
     go_wp2_with fail
     refine (szSecrets_k a.2.2.2.2.2 _ _ _ (secrets_mk (R6_1.out.keep BW) (R6_2.out.keep BW) (R6_3.out.keep BW) (R6_4.out.keep BW)) (by omega) (by omega)).mono ?_
     rintro e w4 ⟨rfl, hb⟩
     replace A := A.stay hb
     replace BW := Below.step BW hb
     have ca0 := (A.cell 0).trans (show _ = some _ from rfl)
     have ca1 := (A.cell 1).trans (show _ = some _ from rfl)
     have ca2 := (A.cell 2).trans (show _ = some _ from rfl)
     have ca3 := (A.cell 3).trans (show _ = some _ from rfl)
     have ca4 := (A.cell 4).trans (show _ = some _ from rfl)
     have ca5 := (A.cell 5).trans (show _ = some _ from rfl)
     have ca6 := (A.cell 6).trans (show _ = some _ from rfl)
     have ca7 := (A.cell 7).trans (show _ = some _ from rfl)
     have ca8 := (A.cell 8).trans (show _ = some _ from rfl)
     have ca9 := (A.cell 9).trans (show _ = some _ from rfl)
     have ca10 := (A.cell 10).trans (show _ = some _ from rfl)
     have ca11 := (A.cell 11).trans (show _ = some _ from rfl)
     clear hb
     rw [szR, if_pos (by omega)]
     have hne : ¬ (left - (sideN a.1 : Int) - (bulkM a.2.2.2.1 : Int) - (a.2.2.2.2.1.length : Int) - (secretsN a.2.2.2.2.2 : Int) < 0) := by omega
     have hE : Hid (szR (endN a) left = left - (sideN a.1 : Int) - (bulkM a.2.2.2.1 : Int) - (a.2.2.2.2.1.length : Int) - (secretsN a.2.2.2.2.2 : Int)) := by show _ = _; unfold endN; rw [szR, if_pos (by omega)] <;> omega
     go_wp2
     go_ret
     exact ⟨by rw [hE.out]; rfl, BW⟩
    ·go_enter Tryz.func6, Tryz.ntmps6
     go_wp2_with fail
     refine (szSide_k a.1 _ _ _ (side_mk (R1_2.out.keep BW) (R1_4.out.keep BW)) (by omega) (by omega)).mono ?_
     rintro e w1 ⟨rfl, hb⟩
     replace A := A.stay hb
     replace BW := Below.step BW hb
     have ca0 := (A.cell 0).trans (show _ = some _ from rfl)
     have ca1 := (A.cell 1).trans (show _ = some _ from rfl)
     have ca2 := (A.cell 2).trans (show _ = some _ from rfl)
     have ca3 := (A.cell 3).trans (show _ = some _ from rfl)
     have ca4 := (A.cell 4).trans (show _ = some _ from rfl)
     have ca5 := (A.cell 5).trans (show _ = some _ from rfl)
     have ca6 := (A.cell 6).trans (show _ = some _ from rfl)
     have ca7 := (A.cell 7).trans (show _ = some _ from rfl)
     have ca8 := (A.cell 8).trans (show _ = some _ from rfl)
     have ca9 := (A.cell 9).trans (show _ = some _ from rfl)
     have ca10 := (A.cell 10).trans (show _ = some _ from rfl)
     have ca11 := (A.cell 11).trans (show _ = some _ from rfl)
     clear hb
     rw [szR, if_pos (by omega)]
     go_wp2_with fail
     refine (szMsgS_k a.2.2.2.1 _ _ _ ⟨p4, q4, rfl, R4.out.keep BW⟩ (by omega) (by omega)).mono ?_
     rintro e w2 ⟨rfl, hb⟩
     replace A := A.stay hb
     replace BW := Below.step BW hb
     have ca0 := (A.cell 0).trans (show _ = some _ from rfl)
     have ca1 := (A.cell 1).trans (show _ = some _ from rfl)
     have ca2 := (A.cell 2).trans (show _ = some _ from rfl)
     have ca3 := (A.cell 3).trans (show _ = some _ from rfl)
     have ca4 := (A.cell 4).trans (show _ = some _ from rfl)
     have ca5 := (A.cell 5).trans (show _ = some _ from rfl)
     have ca6 := (A.cell 6).trans (show _ = some _ from rfl)
     have ca7 := (A.cell 7).trans (show _ = some _ from rfl)
     have ca8 := (A.cell 8).trans (show _ = some _ from rfl)
     have ca9 := (A.cell 9).trans (show _ = some _ from rfl)
     have ca10 := (A.cell 10).trans (show _ = some _ from rfl)
     have ca11 := (A.cell 11).trans (show _ = some _ from rfl)
     clear hb
     rw [szR, if_pos (by omega)]
     go_wp2_with fail
     refine (szByteS_k a.2.2.2.2.1 _ _ _ ⟨p5, q5, rfl, R5.out.keep BW⟩ (by omega) (by omega)).mono ?_
     rintro e w3 ⟨rfl, hb⟩
     replace A := A.stay hb
     replace BW := Below.step BW hb
     have ca0 := (A.cell 0).trans (show _ = some _ from rfl)
     have ca1 := (A.cell 1).trans (show _ = some _ from rfl)
     have ca2 := (A.cell 2).trans (show _ = some _ from rfl)
     have ca3 := (A.cell 3).trans (show _ = some _ from rfl)
     have ca4 := (A.cell 4).trans (show _ = some _ from rfl)
     have ca5 := (A.cell 5).trans (show _ = some _ from rfl)
     have ca6 := (A.cell 6).trans (show _ = some _ from rfl)
     have ca7 := (A.cell 7).trans (show _ = some _ from rfl)
     have ca8 := (A.cell 8).trans (show _ = some _ from rfl)
     have ca9 := (A.cell 9).trans (show _ = some _ from rfl)
     have ca10 := (A.cell 10).trans (show _ = some _ from rfl)
     have ca11 := (A.cell 11).trans (show _ = some _ from rfl)
     clear hb
     rw [szR, if_pos (by omega)]
     go_wp2_with fail
     refine (szSecrets_k a.2.2.2.2.2 _ _ _ (secrets_mk (R6_1.out.keep BW) (R6_2.out.keep BW) (R6_3.out.keep BW) (R6_4.out.keep BW)) (by omega) (by omega)).mono ?_
     rintro e w4 ⟨rfl, hb⟩
     replace A := A.stay hb
     replace BW := Below.step BW hb
     have ca0 := (A.cell 0).trans (show _ = some _ from rfl)
     have ca1 := (A.cell 1).trans (show _ = some _ from rfl)
     have ca2 := (A.cell 2).trans (show _ = some _ from rfl)
     have ca3 := (A.cell 3).trans (show _ = some _ from rfl)
     have ca4 := (A.cell 4).trans (show _ = some _ from rfl)
     have ca5 := (A.cell 5).trans (show _ = some _ from rfl)
     have ca6 := (A.cell 6).trans (show _ = some _ from rfl)
     have ca7 := (A.cell 7).trans (show _ = some _ from rfl)
     have ca8 := (A.cell 8).trans (show _ = some _ from rfl)
     have ca9 := (A.cell 9).trans (show _ = some _ from rfl)
     have ca10 := (A.cell 10).trans (show _ = some _ from rfl)
     have ca11 := (A.cell 11).trans (show _ = some _ from rfl)
     clear hb
     rw [szR, if_neg (by omega)]
     go_wp2
     go_ret
     exact ⟨by unfold endN; rw [szR, if_neg (by omega)] <;> rfl, BW⟩
   ·go_enter Tryz.func6, Tryz.ntmps6
    go_wp2_with fail
    refine (szSide_k a.1 _ _ _ (side_mk (R1_2.out.keep BW) (R1_4.out.keep BW)) (by omega) (by omega)).mono ?_
    rintro e w1 ⟨rfl, hb⟩
    replace A := A.stay hb
    replace BW := Below.step BW hb
    have ca0 := (A.cell 0).trans (show _ = some _ from rfl)
    have ca1 := (A.cell 1).trans (show _ = some _ from rfl)
    have ca2 := (A.cell 2).trans (show _ = some _ from rfl)
    have ca3 := (A.cell 3).trans (show _ = some _ from rfl)
    have ca4 := (A.cell 4).trans (show _ = some _ from rfl)
    have ca5 := (A.cell 5).trans (show _ = some _ from rfl)
    have ca6 := (A.cell 6).trans (show _ = some _ from rfl)
    have ca7 := (A.cell 7).trans (show _ = some _ from rfl)
    have ca8 := (A.cell 8).trans (show _ = some _ from rfl)
    have ca9 := (A.cell 9).trans (show _ = some _ from rfl)
    have ca10 := (A.cell 10).trans (show _ = some _ from rfl)
    have ca11 := (A.cell 11).trans (show _ = some _ from rfl)
    clear hb
    rw [szR, if_pos (by omega)]
    go_wp2_with fail
    refine (szMsgS_k a.2.2.2.1 _ _ _ ⟨p4, q4, rfl, R4.out.keep BW⟩ (by omega) (by omega)).mono ?_
    rintro e w2 ⟨rfl, hb⟩
    replace A := A.stay hb
    replace BW := Below.step BW hb
    have ca0 := (A.cell 0).trans (show _ = some _ from rfl)
    have ca1 := (A.cell 1).trans (show _ = some _ from rfl)
    have ca2 := (A.cell 2).trans (show _ = some _ from rfl)
    have ca3 := (A.cell 3).trans (show _ = some _ from rfl)
    have ca4 := (A.cell 4).trans (show _ = some _ from rfl)
    have ca5 := (A.cell 5).trans (show _ = some _ from rfl)
    have ca6 := (A.cell 6).trans (show _ = some _ from rfl)
    have ca7 := (A.cell 7).trans (show _ = some _ from rfl)
    have ca8 := (A.cell 8).trans (show _ = some _ from rfl)
    have ca9 := (A.cell 9).trans (show _ = some _ from rfl)
    have ca10 := (A.cell 10).trans (show _ = some _ from rfl)
    have ca11 := (A.cell 11).trans (show _ = some _ from rfl)
    clear hb
    rw [szR, if_pos (by omega)]
    go_wp2_with fail
    refine (szByteS_k a.2.2.2.2.1 _ _ _ ⟨p5, q5, rfl, R5.out.keep BW⟩ (by omega) (by omega)).mono ?_
    rintro e w3 ⟨rfl, hb⟩
    replace A := A.stay hb
    replace BW := Below.step BW hb
    have ca0 := (A.cell 0).trans (show _ = some _ from rfl)
    have ca1 := (A.cell 1).trans (show _ = some _ from rfl)
    have ca2 := (A.cell 2).trans (show _ = some _ from rfl)
    have ca3 := (A.cell 3).trans (show _ = some _ from rfl)
    have ca4 := (A.cell 4).trans (show _ = some _ from rfl)
    have ca5 := (A.cell 5).trans (show _ = some _ from rfl)
    have ca6 := (A.cell 6).trans (show _ = some _ from rfl)
    have ca7 := (A.cell 7).trans (show _ = some _ from rfl)
    have ca8 := (A.cell 8).trans (show _ = some _ from rfl)
    have ca9 := (A.cell 9).trans (show _ = some _ from rfl)
    have ca10 := (A.cell 10).trans (show _ = some _ from rfl)
    have ca11 := (A.cell 11).trans (show _ = some _ from rfl)
    clear hb
    rw [szR, if_neg (by omega)]
    go_wp2
    go_ret
    exact ⟨by unfold endN; rw [szR, if_neg (by omega)] <;> rfl, BW⟩
  ·go_enter Tryz.func6, Tryz.ntmps6
   go_wp2_with fail
   refine (szSide_k a.1 _ _ _ (side_mk (R1_2.out.keep BW) (R1_4.out.keep BW)) (by omega) (by omega)).mono ?_
   rintro e w1 ⟨rfl, hb⟩
   replace A := A.stay hb
   replace BW := Below.step BW hb
   have ca0 := (A.cell 0).trans (show _ = some _ from rfl)
   have ca1 := (A.cell 1).trans (show _ = some _ from rfl)
   have ca2 := (A.cell 2).trans (show _ = some _ from rfl)
   have ca3 := (A.cell 3).trans (show _ = some _ from rfl)
   have ca4 := (A.cell 4).trans (show _ = some _ from rfl)
   have ca5 := (A.cell 5).trans (show _ = some _ from rfl)
   have ca6 := (A.cell 6).trans (show _ = some _ from rfl)
   have ca7 := (A.cell 7).trans (show _ = some _ from rfl)
   have ca8 := (A.cell 8).trans (show _ = some _ from rfl)
   have ca9 := (A.cell 9).trans (show _ = some _ from rfl)
   have ca10 := (A.cell 10).trans (show _ = some _ from rfl)
   have ca11 := (A.cell 11).trans (show _ = some _ from rfl)
   clear hb
   rw [szR, if_pos (by omega)]
   go_wp2_with fail
   refine (szMsgS_k a.2.2.2.1 _ _ _ ⟨p4, q4, rfl, R4.out.keep BW⟩ (by omega) (by omega)).mono ?_
   rintro e w2 ⟨rfl, hb⟩
   replace A := A.stay hb
   replace BW := Below.step BW hb
   have ca0 := (A.cell 0).trans (show _ = some _ from rfl)
   have ca1 := (A.cell 1).trans (show _ = some _ from rfl)
   have ca2 := (A.cell 2).trans (show _ = some _ from rfl)
   have ca3 := (A.cell 3).trans (show _ = some _ from rfl)
   have ca4 := (A.cell 4).trans (show _ = some _ from rfl)
   have ca5 := (A.cell 5).trans (show _ = some _ from rfl)
   have ca6 := (A.cell 6).trans (show _ = some _ from rfl)
   have ca7 := (A.cell 7).trans (show _ = some _ from rfl)
   have ca8 := (A.cell 8).trans (show _ = some _ from rfl)
   have ca9 := (A.cell 9).trans (show _ = some _ from rfl)
   have ca10 := (A.cell 10).trans (show _ = some _ from rfl)
   have ca11 := (A.cell 11).trans (show _ = some _ from rfl)
   clear hb
   rw [szR, if_neg (by omega)]
   go_wp2
   go_ret
   exact ⟨by unfold endN; rw [szR, if_neg (by omega)] <;> rfl, BW⟩
 ·go_enter Tryz.func6, Tryz.ntmps6
  go_wp2_with fail
  refine (szSide_k a.1 _ _ _ (side_mk (R1_2.out.keep BW) (R1_4.out.keep BW)) (by omega) (by omega)).mono ?_
  rintro e w1 ⟨rfl, hb⟩
  replace A := A.stay hb
  replace BW := Below.step BW hb
  have ca0 := (A.cell 0).trans (show _ = some _ from rfl)
  have ca1 := (A.cell 1).trans (show _ = some _ from rfl)
  have ca2 := (A.cell 2).trans (show _ = some _ from rfl)
  have ca3 := (A.cell 3).trans (show _ = some _ from rfl)
  have ca4 := (A.cell 4).trans (show _ = some _ from rfl)
  have ca5 := (A.cell 5).trans (show _ = some _ from rfl)
  have ca6 := (A.cell 6).trans (show _ = some _ from rfl)
  have ca7 := (A.cell 7).trans (show _ = some _ from rfl)
  have ca8 := (A.cell 8).trans (show _ = some _ from rfl)
  have ca9 := (A.cell 9).trans (show _ = some _ from rfl)
  have ca10 := (A.cell 10).trans (show _ = some _ from rfl)
  have ca11 := (A.cell 11).trans (show _ = some _ from rfl)
  clear hb
  rw [szR, if_neg (by omega)]
  go_wp2
  go_ret
  exact ⟨by unfold endN; rw [szR, if_neg (by omega)] <;> rfl, BW⟩
set_option maxRecDepth 4000 in
set_option maxHeartbeats 1000000 in
theorem eqEnd_k (a : EndD) (us vs : List Value) (w : World) (h1 : endC.rep w a us) (h2 : endC.rep w a vs) :
  Calls Tryz.prog 13 #[.agg us.toArray, .agg vs.toArray] w fun e w' => e = .returned (.bool true) ∧ Below w.heap.size w w' := by
 obtain ⟨p1_2, q1_2, p1_4, q1_4, p4, q4, p5, q5, p6_1, q6_1, p6_2, q6_2, p6_3, q6_3, p6_4, q6_4, rfl, r1_2, r1_4, r4, r5, r6_1, r6_2, r6_3, r6_4⟩ := end_rep h1
 obtain ⟨pb1_2, qb1_2, pb1_4, qb1_4, pb4, qb4, pb5, qb5, pb6_1, qb6_1, pb6_2, qb6_2, pb6_3, qb6_3, pb6_4, qb6_4, rfl, rb1_2, rb1_4, rb4, rb5, rb6_1, rb6_2, rb6_3, rb6_4⟩ := end_rep h2
 clear h1 h2
 have BW : Below w.heap.size w ((w.alloc (.cells #[.int .i64 a.1.1, .slice p1_2 a.1.2.1.length q1_2, .int .i64 a.1.2.2.1, .slice p1_4 a.1.2.2.2.length q1_4, .int .i64 a.2.1, .int .i64 a.2.2.1, .slice p4 a.2.2.2.1.length q4, .slice p5 a.2.2.2.2.1.length q5, .slice p6_1 a.2.2.2.2.2.1.length q6_1, .slice p6_2 a.2.2.2.2.2.2.1.length q6_2, .slice p6_3 a.2.2.2.2.2.2.2.1.length q6_3, .slice p6_4 a.2.2.2.2.2.2.2.2.length q6_4] 36)).alloc (.cells #[.int .i64 a.1.1, .slice pb1_2 a.1.2.1.length qb1_2, .int .i64 a.1.2.2.1, .slice pb1_4 a.1.2.2.2.length qb1_4, .int .i64 a.2.1, .int .i64 a.2.2.1, .slice pb4 a.2.2.2.1.length qb4, .slice pb5 a.2.2.2.2.1.length qb5, .slice pb6_1 a.2.2.2.2.2.1.length qb6_1, .slice pb6_2 a.2.2.2.2.2.2.1.length qb6_2, .slice pb6_3 a.2.2.2.2.2.2.2.1.length qb6_3, .slice pb6_4 a.2.2.2.2.2.2.2.2.length qb6_4] 36)) := Below.mk (alloc_below _ _) _
 have A : Arr ((w.alloc (.cells #[.int .i64 a.1.1, .slice p1_2 a.1.2.1.length q1_2, .int .i64 a.1.2.2.1, .slice p1_4 a.1.2.2.2.length q1_4, .int .i64 a.2.1, .int .i64 a.2.2.1, .slice p4 a.2.2.2.1.length q4, .slice p5 a.2.2.2.2.1.length q5, .slice p6_1 a.2.2.2.2.2.1.length q6_1, .slice p6_2 a.2.2.2.2.2.2.1.length q6_2, .slice p6_3 a.2.2.2.2.2.2.2.1.length q6_3, .slice p6_4 a.2.2.2.2.2.2.2.2.length q6_4] 36)).alloc (.cells #[.int .i64 a.1.1, .slice pb1_2 a.1.2.1.length qb1_2, .int .i64 a.1.2.2.1, .slice pb1_4 a.1.2.2.2.length qb1_4, .int .i64 a.2.1, .int .i64 a.2.2.1, .slice pb4 a.2.2.2.1.length qb4, .slice pb5 a.2.2.2.2.1.length qb5, .slice pb6_1 a.2.2.2.2.2.1.length qb6_1, .slice pb6_2 a.2.2.2.2.2.2.1.length qb6_2, .slice pb6_3 a.2.2.2.2.2.2.2.1.length qb6_3, .slice pb6_4 a.2.2.2.2.2.2.2.2.length qb6_4] 36)) w.heap.size 36 [.int .i64 a.1.1, .slice p1_2 a.1.2.1.length q1_2, .int .i64 a.1.2.2.1, .slice p1_4 a.1.2.2.2.length q1_4, .int .i64 a.2.1, .int .i64 a.2.2.1, .slice p4 a.2.2.2.1.length q4, .slice p5 a.2.2.2.2.1.length q5, .slice p6_1 a.2.2.2.2.2.1.length q6_1, .slice p6_2 a.2.2.2.2.2.2.1.length q6_2, .slice p6_3 a.2.2.2.2.2.2.2.1.length q6_3, .slice p6_4 a.2.2.2.2.2.2.2.2.length q6_4] := (Arr.new w [.int .i64 a.1.1, .slice p1_2 a.1.2.1.length q1_2, .int .i64 a.1.2.2.1, .slice p1_4 a.1.2.2.2.length q1_4, .int .i64 a.2.1, .int .i64 a.2.2.1, .slice p4 a.2.2.2.1.length q4, .slice p5 a.2.2.2.2.1.length q5, .slice p6_1 a.2.2.2.2.2.1.length q6_1, .slice p6_2 a.2.2.2.2.2.2.1.length q6_2, .slice p6_3 a.2.2.2.2.2.2.2.1.length q6_3, .slice p6_4 a.2.2.2.2.2.2.2.2.length q6_4] 36).old _ _
 have B : Arr ((w.alloc (.cells #[.int .i64 a.1.1, .slice p1_2 a.1.2.1.length q1_2, .int .i64 a.1.2.2.1, .slice p1_4 a.1.2.2.2.length q1_4, .int .i64 a.2.1, .int .i64 a.2.2.1, .slice p4 a.2.2.2.1.length q4, .slice p5 a.2.2.2.2.1.length q5, .slice p6_1 a.2.2.2.2.2.1.length q6_1, .slice p6_2 a.2.2.2.2.2.2.1.length q6_2, .slice p6_3 a.2.2.2.2.2.2.2.1.length q6_3, .slice p6_4 a.2.2.2.2.2.2.2.2.length q6_4] 36)).alloc (.cells #[.int .i64 a.1.1, .slice pb1_2 a.1.2.1.length qb1_2, .int .i64 a.1.2.2.1, .slice pb1_4 a.1.2.2.2.length qb1_4, .int .i64 a.2.1, .int .i64 a.2.2.1, .slice pb4 a.2.2.2.1.length qb4, .slice pb5 a.2.2.2.2.1.length qb5, .slice pb6_1 a.2.2.2.2.2.1.length qb6_1, .slice pb6_2 a.2.2.2.2.2.2.1.length qb6_2, .slice pb6_3 a.2.2.2.2.2.2.2.1.length qb6_3, .slice pb6_4 a.2.2.2.2.2.2.2.2.length qb6_4] 36)) (w.heap.size + 1) 36 [.int .i64 a.1.1, .slice pb1_2 a.1.2.1.length qb1_2, .int .i64 a.1.2.2.1, .slice pb1_4 a.1.2.2.2.length qb1_4, .int .i64 a.2.1, .int .i64 a.2.2.1, .slice pb4 a.2.2.2.1.length qb4, .slice pb5 a.2.2.2.2.1.length qb5, .slice pb6_1 a.2.2.2.2.2.1.length qb6_1, .slice pb6_2 a.2.2.2.2.2.2.1.length qb6_2, .slice pb6_3 a.2.2.2.2.2.2.2.1.length qb6_3, .slice pb6_4 a.2.2.2.2.2.2.2.2.length qb6_4] := by
  have h := Arr.new (w.alloc (.cells #[.int .i64 a.1.1, .slice p1_2 a.1.2.1.length q1_2, .int .i64 a.1.2.2.1, .slice p1_4 a.1.2.2.2.length q1_4, .int .i64 a.2.1, .int .i64 a.2.2.1, .slice p4 a.2.2.2.1.length q4, .slice p5 a.2.2.2.2.1.length q5, .slice p6_1 a.2.2.2.2.2.1.length q6_1, .slice p6_2 a.2.2.2.2.2.2.1.length q6_2, .slice p6_3 a.2.2.2.2.2.2.2.1.length q6_3, .slice p6_4 a.2.2.2.2.2.2.2.2.length q6_4] 36)) [.int .i64 a.1.1, .slice pb1_2 a.1.2.1.length qb1_2, .int .i64 a.1.2.2.1, .slice pb1_4 a.1.2.2.2.length qb1_4, .int .i64 a.2.1, .int .i64 a.2.2.1, .slice pb4 a.2.2.2.1.length qb4, .slice pb5 a.2.2.2.2.1.length qb5, .slice pb6_1 a.2.2.2.2.2.1.length qb6_1, .slice pb6_2 a.2.2.2.2.2.2.1.length qb6_2, .slice pb6_3 a.2.2.2.2.2.2.2.1.length qb6_3, .slice pb6_4 a.2.2.2.2.2.2.2.2.length qb6_4] 36
  rw [size_alloc] at h
  exact h
 replace r1_2 := r1_2.keep BW
 replace rb1_2 := rb1_2.keep BW
 replace r1_4 := r1_4.keep BW
 replace rb1_4 := rb1_4.keep BW
 replace r4 := r4.keep BW
 replace rb4 := rb4.keep BW
 replace r5 := r5.keep BW
 replace rb5 := rb5.keep BW
 replace r6_1 := r6_1.keep BW
 replace rb6_1 := rb6_1.keep BW
 replace r6_2 := r6_2.keep BW
 replace rb6_2 := rb6_2.keep BW
 replace r6_3 := r6_3.keep BW
 replace rb6_3 := rb6_3.keep BW
 replace r6_4 := r6_4.keep BW
 replace rb6_4 := rb6_4.keep BW
 go_enter Tryz.func13, Tryz.ntmps13
 go_wp2_with fail
 refine (eqSide_k a.1 _ _ _ (side_mk r1_2 r1_4) (side_mk rb1_2 rb1_4)).mono ?_
 rintro e w1 ⟨rfl, hb⟩
 replace A := A.stay hb
 replace B := B.stay hb
 replace BW := Below.step BW hb
 replace r1_2 := r1_2.keep hb
 replace rb1_2 := rb1_2.keep hb
 replace r1_4 := r1_4.keep hb
 replace rb1_4 := rb1_4.keep hb
 replace r4 := r4.keep hb
 replace rb4 := rb4.keep hb
 replace r5 := r5.keep hb
 replace rb5 := rb5.keep hb
 replace r6_1 := r6_1.keep hb
 replace rb6_1 := rb6_1.keep hb
 replace r6_2 := r6_2.keep hb
 replace rb6_2 := rb6_2.keep hb
 replace r6_3 := r6_3.keep hb
 replace rb6_3 := rb6_3.keep hb
 replace r6_4 := r6_4.keep hb
 replace rb6_4 := rb6_4.keep hb
 have ca0 := A.cell 0
 have cb0 := B.cell 0
 have ca1 := A.cell 1
 have cb1 := B.cell 1
 have ca2 := A.cell 2
 have cb2 := B.cell 2
 have ca3 := A.cell 3
 have cb3 := B.cell 3
 have ca4 := A.cell 4
 have cb4 := B.cell 4
 have ca5 := A.cell 5
 have cb5 := B.cell 5
 have ca6 := A.cell 6
 have cb6 := B.cell 6
 have ca7 := A.cell 7
 have cb7 := B.cell 7
 have ca8 := A.cell 8
 have cb8 := B.cell 8
 have ca9 := A.cell 9
 have cb9 := B.cell 9
 have ca10 := A.cell 10
 have cb10 := B.cell 10
 have ca11 := A.cell 11
 have cb11 := B.cell 11
 simp at ca0 cb0 ca1 cb1 ca2 cb2 ca3 cb3 ca4 cb4 ca5 cb5 ca6 cb6 ca7 cb7 ca8 cb8 ca9 cb9 ca10 cb10 ca11 cb11
 clear hb
 go_wp2_with fail
 refine (eqMsgS_c a.2.2.2.1 p4 pb4 q4 qb4 _ r4 rb4).mono ?_
 rintro e w2 ⟨rfl, hb⟩
 replace A := A.stay hb
 replace B := B.stay hb
 replace BW := Below.step BW hb
 replace r1_2 := r1_2.keep hb
 replace rb1_2 := rb1_2.keep hb
 replace r1_4 := r1_4.keep hb
 replace rb1_4 := rb1_4.keep hb
 replace r4 := r4.keep hb
 replace rb4 := rb4.keep hb
 replace r5 := r5.keep hb
 replace rb5 := rb5.keep hb
 replace r6_1 := r6_1.keep hb
 replace rb6_1 := rb6_1.keep hb
 replace r6_2 := r6_2.keep hb
 replace rb6_2 := rb6_2.keep hb
 replace r6_3 := r6_3.keep hb
 replace rb6_3 := rb6_3.keep hb
 replace r6_4 := r6_4.keep hb
 replace rb6_4 := rb6_4.keep hb
 have ca0 := A.cell 0
 have cb0 := B.cell 0
 have ca1 := A.cell 1
 have cb1 := B.cell 1
 have ca2 := A.cell 2
 have cb2 := B.cell 2
 have ca3 := A.cell 3
 have cb3 := B.cell 3
 have ca4 := A.cell 4
 have cb4 := B.cell 4
 have ca5 := A.cell 5
 have cb5 := B.cell 5
 have ca6 := A.cell 6
 have cb6 := B.cell 6
 have ca7 := A.cell 7
 have cb7 := B.cell 7
 have ca8 := A.cell 8
 have cb8 := B.cell 8
 have ca9 := A.cell 9
 have cb9 := B.cell 9
 have ca10 := A.cell 10
 have cb10 := B.cell 10
 have ca11 := A.cell 11
 have cb11 := B.cell 11
 simp at ca0 cb0 ca1 cb1 ca2 cb2 ca3 cb3 ca4 cb4 ca5 cb5 ca6 cb6 ca7 cb7 ca8 cb8 ca9 cb9 ca10 cb10 ca11 cb11
 clear hb
 go_wp2_with fail
 refine (eqByteS_c p5 pb5 q5 qb5 a.2.2.2.2.1 _ r5 rb5).mono ?_
 rintro e w3 ⟨rfl, hb⟩
 replace A := A.stay hb
 replace B := B.stay hb
 replace BW := Below.step BW hb
 replace r1_2 := r1_2.keep hb
 replace rb1_2 := rb1_2.keep hb
 replace r1_4 := r1_4.keep hb
 replace rb1_4 := rb1_4.keep hb
 replace r4 := r4.keep hb
 replace rb4 := rb4.keep hb
 replace r5 := r5.keep hb
 replace rb5 := rb5.keep hb
 replace r6_1 := r6_1.keep hb
 replace rb6_1 := rb6_1.keep hb
 replace r6_2 := r6_2.keep hb
 replace rb6_2 := rb6_2.keep hb
 replace r6_3 := r6_3.keep hb
 replace rb6_3 := rb6_3.keep hb
 replace r6_4 := r6_4.keep hb
 replace rb6_4 := rb6_4.keep hb
 have ca0 := A.cell 0
 have cb0 := B.cell 0
 have ca1 := A.cell 1
 have cb1 := B.cell 1
 have ca2 := A.cell 2
 have cb2 := B.cell 2
 have ca3 := A.cell 3
 have cb3 := B.cell 3
 have ca4 := A.cell 4
 have cb4 := B.cell 4
 have ca5 := A.cell 5
 have cb5 := B.cell 5
 have ca6 := A.cell 6
 have cb6 := B.cell 6
 have ca7 := A.cell 7
 have cb7 := B.cell 7
 have ca8 := A.cell 8
 have cb8 := B.cell 8
 have ca9 := A.cell 9
 have cb9 := B.cell 9
 have ca10 := A.cell 10
 have cb10 := B.cell 10
 have ca11 := A.cell 11
 have cb11 := B.cell 11
 simp at ca0 cb0 ca1 cb1 ca2 cb2 ca3 cb3 ca4 cb4 ca5 cb5 ca6 cb6 ca7 cb7 ca8 cb8 ca9 cb9 ca10 cb10 ca11 cb11
 clear hb
 go_wp2_with fail
 refine (eqSecrets_k a.2.2.2.2.2 _ _ _ (secrets_mk r6_1 r6_2 r6_3 r6_4) (secrets_mk rb6_1 rb6_2 rb6_3 rb6_4)).mono ?_
 rintro e w4 ⟨rfl, hb⟩
 replace A := A.stay hb
 replace B := B.stay hb
 replace BW := Below.step BW hb
 replace r1_2 := r1_2.keep hb
 replace rb1_2 := rb1_2.keep hb
 replace r1_4 := r1_4.keep hb
 replace rb1_4 := rb1_4.keep hb
 replace r4 := r4.keep hb
 replace rb4 := rb4.keep hb
 replace r5 := r5.keep hb
 replace rb5 := rb5.keep hb
 replace r6_1 := r6_1.keep hb
 replace rb6_1 := rb6_1.keep hb
 replace r6_2 := r6_2.keep hb
 replace rb6_2 := rb6_2.keep hb
 replace r6_3 := r6_3.keep hb
 replace rb6_3 := rb6_3.keep hb
 replace r6_4 := r6_4.keep hb
 replace rb6_4 := rb6_4.keep hb
 have ca0 := A.cell 0
 have cb0 := B.cell 0
 have ca1 := A.cell 1
 have cb1 := B.cell 1
 have ca2 := A.cell 2
 have cb2 := B.cell 2
 have ca3 := A.cell 3
 have cb3 := B.cell 3
 have ca4 := A.cell 4
 have cb4 := B.cell 4
 have ca5 := A.cell 5
 have cb5 := B.cell 5
 have ca6 := A.cell 6
 have cb6 := B.cell 6
 have ca7 := A.cell 7
 have cb7 := B.cell 7
 have ca8 := A.cell 8
 have cb8 := B.cell 8
 have ca9 := A.cell 9
 have cb9 := B.cell 9
 have ca10 := A.cell 10
 have cb10 := B.cell 10
 have ca11 := A.cell 11
 have cb11 := B.cell 11
 simp at ca0 cb0 ca1 cb1 ca2 cb2 ca3 cb3 ca4 cb4 ca5 cb5 ca6 cb6 ca7 cb7 ca8 cb8 ca9 cb9 ca10 cb10 ca11 cb11
 clear hb
 go_wp2
 go_ret
 exact ⟨rfl, BW⟩
set_option maxRecDepth 4000 in
set_option maxHeartbeats 1000000 in
theorem markEnd_k (a : EndD) (us : List Value) (fp : List Nat) (B m : Nat) (mi : Int) (hmi : mi = (m : Int)) (w : World) (h : endC.own w B a us fp) (hm : m + endT a ≤ 1000000000) :
  Calls Tryz.prog 15 #[.agg us.toArray, .int .i64 mi] w fun e w' => e = .returned (.int .i64 (mi + (endT a : Int))) ∧ endC.own w' B (endM a m) us fp ∧ Only fp w w' := by
 subst hmi
 obtain ⟨us0, ts0, f0, g0, rfl, rfl, nd0, k0, us1, ts1, f1, g1, rfl, rfl, nd1, k1, us2, ts2, f2, g2, rfl, rfl, nd2, k2, us3, ts3, f3, g3, rfl, rfl, nd3, k3, us4, ts4, f4, g4, rfl, rfl, nd4, k4, k5⟩ := h
 obtain ⟨p1_2, q1_2, p1_4, q1_4, e0, -, -⟩ := side_rep (sideC.toRep k0)
 subst e0
 obtain ⟨e1, ef1⟩ := k1
 subst e1 ef1
 obtain ⟨e2, ef2⟩ := k2
 subst e2 ef2
 obtain ⟨p4, q4, e3, -⟩ := msgsC.toRep k3
 subst e3
 obtain ⟨p5, q5, e4, -⟩ := bytC.toRep k4
 subst e4
 obtain ⟨p6_1, q6_1, p6_2, q6_2, p6_3, q6_3, p6_4, q6_4, e5, -, -, -, -⟩ := secrets_rep (secretsC.toRep k5)
 subst e5
 have z0 : Hid (∀ x, x ∈ f0 → x < w.heap.size) := fun x hx => (sideC.ins k0 x hx).2
 have z3 : Hid (∀ x, x ∈ f3 → x < w.heap.size) := fun x hx => (msgsC.ins k3 x hx).2
 have z4 : Hid (∀ x, x ∈ f4 → x < w.heap.size) := fun x hx => (bytC.ins k4 x hx).2
 have z5 : Hid (∀ x, x ∈ g4 → x < w.heap.size) := fun x hx => (secretsC.ins k5 x hx).2
 have d0_3 : Hid (∀ x, x ∈ f0 → x ∉ f3) := fun x h1 h2 => nodup_apart nd0 x h1 (by simp [h2])
 have d0_4 : Hid (∀ x, x ∈ f0 → x ∉ f4) := fun x h1 h2 => nodup_apart nd0 x h1 (by simp [h2])
 have d0_5 : Hid (∀ x, x ∈ f0 → x ∉ g4) := fun x h1 h2 => nodup_apart nd0 x h1 (by simp [h2])
 have d3_4 : Hid (∀ x, x ∈ f3 → x ∉ f4) := fun x h1 h2 => nodup_apart nd3 x h1 (by simp [h2])
 have d3_5 : Hid (∀ x, x ∈ f3 → x ∉ g4) := fun x h1 h2 => nodup_apart nd3 x h1 (by simp [h2])
 have d4_5 : Hid (∀ x, x ∈ f4 → x ∉ g4) := fun x h1 h2 => nodup_apart nd4 x h1 (by simp [h2])
 have s0 : Hid (∀ x, x ∈ f0 → x ∈ f0 ++ ([] ++ ([] ++ (f3 ++ (f4 ++ g4))))) := fun x hx => by simp [hx]
 have s3 : Hid (∀ x, x ∈ f3 → x ∈ f0 ++ ([] ++ ([] ++ (f3 ++ (f4 ++ g4))))) := fun x hx => by simp [hx]
 have s4 : Hid (∀ x, x ∈ f4 → x ∈ f0 ++ ([] ++ ([] ++ (f3 ++ (f4 ++ g4))))) := fun x hx => by simp [hx]
 have s5 : Hid (∀ x, x ∈ g4 → x ∈ f0 ++ ([] ++ ([] ++ (f3 ++ (f4 ++ g4))))) := fun x hx => by simp [hx]
 have A := Arr.new w [.int .i64 a.1.1, .slice p1_2 a.1.2.1.length q1_2, .int .i64 a.1.2.2.1, .slice p1_4 a.1.2.2.2.length q1_4, .int .i64 a.2.1, .int .i64 a.2.2.1, .slice p4 a.2.2.2.1.length q4, .slice p5 a.2.2.2.2.1.length q5, .slice p6_1 a.2.2.2.2.2.1.length q6_1, .slice p6_2 a.2.2.2.2.2.2.1.length q6_2, .slice p6_3 a.2.2.2.2.2.2.2.1.length q6_3, .slice p6_4 a.2.2.2.2.2.2.2.2.length q6_4] 36
 have ON : Only (f0 ++ ([] ++ ([] ++ (f3 ++ (f4 ++ g4))))) w (w.alloc (.cells #[.int .i64 a.1.1, .slice p1_2 a.1.2.1.length q1_2, .int .i64 a.1.2.2.1, .slice p1_4 a.1.2.2.2.length q1_4, .int .i64 a.2.1, .int .i64 a.2.2.1, .slice p4 a.2.2.2.1.length q4, .slice p5 a.2.2.2.2.1.length q5, .slice p6_1 a.2.2.2.2.2.1.length q6_1, .slice p6_2 a.2.2.2.2.2.2.1.length q6_2, .slice p6_3 a.2.2.2.2.2.2.2.1.length q6_3, .slice p6_4 a.2.2.2.2.2.2.2.2.length q6_4] 36)) := Only.below (alloc_below _ _)
 replace k0 := sideC.stay k0 (alloc_below _ (.cells #[.int .i64 a.1.1, .slice p1_2 a.1.2.1.length q1_2, .int .i64 a.1.2.2.1, .slice p1_4 a.1.2.2.2.length q1_4, .int .i64 a.2.1, .int .i64 a.2.2.1, .slice p4 a.2.2.2.1.length q4, .slice p5 a.2.2.2.2.1.length q5, .slice p6_1 a.2.2.2.2.2.1.length q6_1, .slice p6_2 a.2.2.2.2.2.2.1.length q6_2, .slice p6_3 a.2.2.2.2.2.2.2.1.length q6_3, .slice p6_4 a.2.2.2.2.2.2.2.2.length q6_4] 36))
 replace k3 := msgsC.stay k3 (alloc_below _ (.cells #[.int .i64 a.1.1, .slice p1_2 a.1.2.1.length q1_2, .int .i64 a.1.2.2.1, .slice p1_4 a.1.2.2.2.length q1_4, .int .i64 a.2.1, .int .i64 a.2.2.1, .slice p4 a.2.2.2.1.length q4, .slice p5 a.2.2.2.2.1.length q5, .slice p6_1 a.2.2.2.2.2.1.length q6_1, .slice p6_2 a.2.2.2.2.2.2.1.length q6_2, .slice p6_3 a.2.2.2.2.2.2.2.1.length q6_3, .slice p6_4 a.2.2.2.2.2.2.2.2.length q6_4] 36))
 replace k4 := bytC.stay k4 (alloc_below _ (.cells #[.int .i64 a.1.1, .slice p1_2 a.1.2.1.length q1_2, .int .i64 a.1.2.2.1, .slice p1_4 a.1.2.2.2.length q1_4, .int .i64 a.2.1, .int .i64 a.2.2.1, .slice p4 a.2.2.2.1.length q4, .slice p5 a.2.2.2.2.1.length q5, .slice p6_1 a.2.2.2.2.2.1.length q6_1, .slice p6_2 a.2.2.2.2.2.2.1.length q6_2, .slice p6_3 a.2.2.2.2.2.2.2.1.length q6_3, .slice p6_4 a.2.2.2.2.2.2.2.2.length q6_4] 36))
 replace k5 := secretsC.stay k5 (alloc_below _ (.cells #[.int .i64 a.1.1, .slice p1_2 a.1.2.1.length q1_2, .int .i64 a.1.2.2.1, .slice p1_4 a.1.2.2.2.length q1_4, .int .i64 a.2.1, .int .i64 a.2.2.1, .slice p4 a.2.2.2.1.length q4, .slice p5 a.2.2.2.2.1.length q5, .slice p6_1 a.2.2.2.2.2.1.length q6_1, .slice p6_2 a.2.2.2.2.2.2.1.length q6_2, .slice p6_3 a.2.2.2.2.2.2.2.1.length q6_3, .slice p6_4 a.2.2.2.2.2.2.2.2.length q6_4] 36))
 have ND0 : Hid _ := nd0
 have ND1 : Hid _ := nd1
 have ND2 : Hid _ := nd2
 have ND3 : Hid _ := nd3
 have ND4 : Hid _ := nd4
 clear nd0 nd1 nd2 nd3 nd4
 have hT : Hid (m + (sideT a.1 + bulkM a.2.2.2.1 + a.2.2.2.2.1.length + secretsT a.2.2.2.2.2) ≤ 1000000000) := hm
 clear hm
 go_enter Tryz.func15, Tryz.ntmps15
 go_wp2_with fail
 refine (markSide_k a.1 _ _ B m _ (by first | rfl | simp | (simp; omega) | (push_cast; omega)) _ k0 (by have := hT.out; omega)).mono ?_
 rintro e w1 ⟨rfl, k0, ho⟩
 replace k3 := msgsC.other k3 ho (fun x h1 h2 => d0_3.out x h2 h1)
 replace k4 := bytC.other k4 ho (fun x h1 h2 => d0_4.out x h2 h1)
 replace k5 := secretsC.other k5 ho (fun x h1 h2 => d0_5.out x h2 h1)
 replace A := A.only ho (fun h => Nat.lt_irrefl _ (z0.out _ h))
 replace ON := ON.trans_sub ho s0.out
 have ca0 := A.cell 0
 have ca1 := A.cell 1
 have ca2 := A.cell 2
 have ca3 := A.cell 3
 have ca4 := A.cell 4
 have ca5 := A.cell 5
 have ca6 := A.cell 6
 have ca7 := A.cell 7
 have ca8 := A.cell 8
 have ca9 := A.cell 9
 have ca10 := A.cell 10
 have ca11 := A.cell 11
 simp at ca0 ca1 ca2 ca3 ca4 ca5 ca6 ca7 ca8 ca9 ca10 ca11
 clear ho
 go_wp2_with fail
 refine (markMsgS_k a.2.2.2.1 _ _ B (m + sideT a.1) _ (by first | rfl | simp | (simp; omega) | (push_cast; omega)) _ k3 (by have := hT.out; omega) (by have := hT.out; omega)).mono ?_
 rintro e w2 ⟨rfl, k3, ho⟩
 replace k0 := sideC.other k0 ho (fun x h1 h2 => d0_3.out x h1 h2)
 replace k4 := bytC.other k4 ho (fun x h1 h2 => d3_4.out x h2 h1)
 replace k5 := secretsC.other k5 ho (fun x h1 h2 => d3_5.out x h2 h1)
 replace A := A.only ho (fun h => Nat.lt_irrefl _ (z3.out _ h))
 replace ON := ON.trans_sub ho s3.out
 have ca0 := A.cell 0
 have ca1 := A.cell 1
 have ca2 := A.cell 2
 have ca3 := A.cell 3
 have ca4 := A.cell 4
 have ca5 := A.cell 5
 have ca6 := A.cell 6
 have ca7 := A.cell 7
 have ca8 := A.cell 8
 have ca9 := A.cell 9
 have ca10 := A.cell 10
 have ca11 := A.cell 11
 simp at ca0 ca1 ca2 ca3 ca4 ca5 ca6 ca7 ca8 ca9 ca10 ca11
 clear ho
 go_wp2_with fail
 refine (markByteS_k a.2.2.2.2.1 _ _ B ((m + sideT a.1) + bulkM a.2.2.2.1) _ (by first | rfl | simp | (simp; omega) | (push_cast; omega)) _ k4 (by have := hT.out; omega)).mono ?_
 rintro e w3 ⟨rfl, k4, ho⟩
 replace k0 := sideC.other k0 ho (fun x h1 h2 => d0_4.out x h1 h2)
 replace k3 := msgsC.other k3 ho (fun x h1 h2 => d3_4.out x h1 h2)
 replace k5 := secretsC.other k5 ho (fun x h1 h2 => d4_5.out x h2 h1)
 replace A := A.only ho (fun h => Nat.lt_irrefl _ (z4.out _ h))
 replace ON := ON.trans_sub ho s4.out
 have ca0 := A.cell 0
 have ca1 := A.cell 1
 have ca2 := A.cell 2
 have ca3 := A.cell 3
 have ca4 := A.cell 4
 have ca5 := A.cell 5
 have ca6 := A.cell 6
 have ca7 := A.cell 7
 have ca8 := A.cell 8
 have ca9 := A.cell 9
 have ca10 := A.cell 10
 have ca11 := A.cell 11
 simp at ca0 ca1 ca2 ca3 ca4 ca5 ca6 ca7 ca8 ca9 ca10 ca11
 clear ho
 go_wp2_with fail
 refine (markSecrets_k a.2.2.2.2.2 _ _ B (((m + sideT a.1) + bulkM a.2.2.2.1) + a.2.2.2.2.1.length) _ (by first | rfl | simp | (simp; omega) | (push_cast; omega)) _ k5 (by have := hT.out; omega)).mono ?_
 rintro e w4 ⟨rfl, k5, ho⟩
 replace k0 := sideC.other k0 ho (fun x h1 h2 => d0_5.out x h1 h2)
 replace k3 := msgsC.other k3 ho (fun x h1 h2 => d3_5.out x h1 h2)
 replace k4 := bytC.other k4 ho (fun x h1 h2 => d4_5.out x h1 h2)
 replace A := A.only ho (fun h => Nat.lt_irrefl _ (z5.out _ h))
 replace ON := ON.trans_sub ho s5.out
 have ca0 := A.cell 0
 have ca1 := A.cell 1
 have ca2 := A.cell 2
 have ca3 := A.cell 3
 have ca4 := A.cell 4
 have ca5 := A.cell 5
 have ca6 := A.cell 6
 have ca7 := A.cell 7
 have ca8 := A.cell 8
 have ca9 := A.cell 9
 have ca10 := A.cell 10
 have ca11 := A.cell 11
 simp at ca0 ca1 ca2 ca3 ca4 ca5 ca6 ca7 ca8 ca9 ca10 ca11
 clear ho
 go_wp2
 go_ret
 exact ⟨by unfold endT; simp; try omega, ⟨_, _, _, _, rfl, rfl, ND0.out, k0, ⟨_, _, [], _, rfl, rfl, ND1.out, ⟨rfl, rfl⟩, ⟨_, _, [], _, rfl, rfl, ND2.out, ⟨rfl, rfl⟩, ⟨_, _, _, _, rfl, rfl, ND3.out, k3, ⟨_, _, _, _, rfl, rfl, ND4.out, k4, k5⟩⟩⟩⟩⟩, ON⟩
set_option maxRecDepth 4000 in
set_option maxHeartbeats 1000000 in
theorem heldEnd_k (a : EndD) (us : List Value) (m : Nat) (mi : Int) (hmi : mi = (m : Int)) (w : World) (h : endC.rep w (endM a m) us) (hm : m + endT a ≤ 1048577) :
  Calls Tryz.prog 64 #[.agg us.toArray, .int .i64 mi] w fun e w' => e = .returned (.int .i64 (mi + (endT a : Int))) ∧ Below w.heap.size w w' := by
 subst hmi
 obtain ⟨us0, ts0, rfl, h0, us1, ts1, rfl, h1, us2, ts2, rfl, h2, us3, ts3, rfl, h3, us4, ts4, rfl, h4, h5⟩ := h
 replace h0 : sideC.rep w (sideM a.1 m) _ := h0
 obtain ⟨p1_2, q1_2, p1_4, q1_4, e0, -, -⟩ := side_rep h0
 subst e0
 have e1 : us1 = [Value.int .i64 (endM a m).2.1] := h1
 subst e1
 have e2 : us2 = [Value.int .i64 (endM a m).2.2.1] := h2
 subst e2
 replace h3 : msgsC.rep w (mkM a.2.2.2.1 (m + sideT a.1)) _ := h3
 obtain ⟨p4, q4, e3, -⟩ := id h3
 subst e3
 obtain ⟨p5, q5, rfl, r5⟩ := h4
 replace h5 : secretsC.rep w (secretsM a.2.2.2.2.2 (((m + sideT a.1) + bulkM a.2.2.2.1) + a.2.2.2.2.1.length)) _ := h5
 obtain ⟨p6_1, q6_1, p6_2, q6_2, p6_3, q6_3, p6_4, q6_4, e5, -, -, -, -⟩ := secrets_rep h5
 subst e5
 have A := Arr.new w [.int .i64 (sideM a.1 m).1, .slice p1_2 (sideM a.1 m).2.1.length q1_2, .int .i64 (sideM a.1 m).2.2.1, .slice p1_4 (sideM a.1 m).2.2.2.length q1_4, .int .i64 (endM a m).2.1, .int .i64 (endM a m).2.2.1, .slice p4 (mkM a.2.2.2.1 (m + sideT a.1)).length q4, .slice p5 (endM a m).2.2.2.2.1.length q5, .slice p6_1 (secretsM a.2.2.2.2.2 (((m + sideT a.1) + bulkM a.2.2.2.1) + a.2.2.2.2.1.length)).1.length q6_1, .slice p6_2 (secretsM a.2.2.2.2.2 (((m + sideT a.1) + bulkM a.2.2.2.1) + a.2.2.2.2.1.length)).2.1.length q6_2, .slice p6_3 (secretsM a.2.2.2.2.2 (((m + sideT a.1) + bulkM a.2.2.2.1) + a.2.2.2.2.1.length)).2.2.1.length q6_3, .slice p6_4 (secretsM a.2.2.2.2.2 (((m + sideT a.1) + bulkM a.2.2.2.1) + a.2.2.2.2.1.length)).2.2.2.length q6_4] 36
 have BW := alloc_below w (.cells #[.int .i64 (sideM a.1 m).1, .slice p1_2 (sideM a.1 m).2.1.length q1_2, .int .i64 (sideM a.1 m).2.2.1, .slice p1_4 (sideM a.1 m).2.2.2.length q1_4, .int .i64 (endM a m).2.1, .int .i64 (endM a m).2.2.1, .slice p4 (mkM a.2.2.2.1 (m + sideT a.1)).length q4, .slice p5 (endM a m).2.2.2.2.1.length q5, .slice p6_1 (secretsM a.2.2.2.2.2 (((m + sideT a.1) + bulkM a.2.2.2.1) + a.2.2.2.2.1.length)).1.length q6_1, .slice p6_2 (secretsM a.2.2.2.2.2 (((m + sideT a.1) + bulkM a.2.2.2.1) + a.2.2.2.2.1.length)).2.1.length q6_2, .slice p6_3 (secretsM a.2.2.2.2.2 (((m + sideT a.1) + bulkM a.2.2.2.1) + a.2.2.2.2.1.length)).2.2.1.length q6_3, .slice p6_4 (secretsM a.2.2.2.2.2 (((m + sideT a.1) + bulkM a.2.2.2.1) + a.2.2.2.2.1.length)).2.2.2.length q6_4] 36)
 replace h0 := sideC.keep h0 BW
 replace h3 := msgsC.keep h3 BW
 replace r5 := r5.keep BW
 replace h5 := secretsC.keep h5 BW
 have hT : Hid (m + (sideT a.1 + bulkM a.2.2.2.1 + a.2.2.2.2.1.length + secretsT a.2.2.2.2.2) ≤ 1048577) := hm
 clear hm
 go_enter Tryz.func64, Tryz.ntmps64
 go_wp2_with fail
 refine (heldSide_k a.1 _ m _ (by first | rfl | simp | (simp; omega) | (push_cast; omega)) _ h0 (by have := hT.out; omega)).mono ?_
 rintro e w1 ⟨rfl, hb⟩
 replace A := A.stay hb
 replace BW := Below.step BW hb
 replace h0 := sideC.keep h0 hb
 replace h3 := msgsC.keep h3 hb
 replace r5 := r5.keep hb
 replace h5 := secretsC.keep h5 hb
 have ca0 := A.cell 0
 have ca1 := A.cell 1
 have ca2 := A.cell 2
 have ca3 := A.cell 3
 have ca4 := A.cell 4
 have ca5 := A.cell 5
 have ca6 := A.cell 6
 have ca7 := A.cell 7
 have ca8 := A.cell 8
 have ca9 := A.cell 9
 have ca10 := A.cell 10
 have ca11 := A.cell 11
 simp at ca0 ca1 ca2 ca3 ca4 ca5 ca6 ca7 ca8 ca9 ca10 ca11
 clear hb
 go_wp2_with fail
 refine (heldMsgS_k a.2.2.2.1 _ (m + sideT a.1) _ (by first | rfl | simp | (simp; omega) | (push_cast; omega)) _ h3 (by have := hT.out; omega)).mono ?_
 rintro e w2 ⟨rfl, hb⟩
 replace A := A.stay hb
 replace BW := Below.step BW hb
 replace h0 := sideC.keep h0 hb
 replace h3 := msgsC.keep h3 hb
 replace r5 := r5.keep hb
 replace h5 := secretsC.keep h5 hb
 have ca0 := A.cell 0
 have ca1 := A.cell 1
 have ca2 := A.cell 2
 have ca3 := A.cell 3
 have ca4 := A.cell 4
 have ca5 := A.cell 5
 have ca6 := A.cell 6
 have ca7 := A.cell 7
 have ca8 := A.cell 8
 have ca9 := A.cell 9
 have ca10 := A.cell 10
 have ca11 := A.cell 11
 simp at ca0 ca1 ca2 ca3 ca4 ca5 ca6 ca7 ca8 ca9 ca10 ca11
 clear hb
 go_wp2_with fail
 refine (heldByteS_k (endM a m).2.2.2.2.1 p5 q5 a.2.2.2.2.1.length ((m + sideT a.1) + bulkM a.2.2.2.1) rfl _ (by first | rfl | simp | (simp; omega) | (push_cast; omega)) _ r5 (by have := hT.out; omega)).mono ?_
 rintro e w3 ⟨rfl, hw⟩
 subst hw
 go_wp2_with fail
 refine (heldSecrets_k a.2.2.2.2.2 _ (((m + sideT a.1) + bulkM a.2.2.2.1) + a.2.2.2.2.1.length) _ (by first | rfl | simp | (simp; omega) | (push_cast; omega)) _ h5 (by have := hT.out; omega)).mono ?_
 rintro e w4 ⟨rfl, hb⟩
 replace A := A.stay hb
 replace BW := Below.step BW hb
 replace h0 := sideC.keep h0 hb
 replace h3 := msgsC.keep h3 hb
 replace r5 := r5.keep hb
 replace h5 := secretsC.keep h5 hb
 have ca0 := A.cell 0
 have ca1 := A.cell 1
 have ca2 := A.cell 2
 have ca3 := A.cell 3
 have ca4 := A.cell 4
 have ca5 := A.cell 5
 have ca6 := A.cell 6
 have ca7 := A.cell 7
 have ca8 := A.cell 8
 have ca9 := A.cell 9
 have ca10 := A.cell 10
 have ca11 := A.cell 11
 simp at ca0 ca1 ca2 ca3 ca4 ca5 ca6 ca7 ca8 ca9 ca10 ca11
 clear hb
 go_wp2
 go_ret
 exact ⟨by unfold endT; simp; try omega, BW⟩
end Go.Proofs.YtiabacnmmojfjabGreatDoor
