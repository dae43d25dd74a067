import Derived.Test.YtiabacnmmojfjabGreatDoorJoint7
import Derived.Test.YtiabacnmmojfjabGreatDoorMsgC
namespace Go.Proofs.YtiabacnmmojfjabGreatDoor
open Go.ChangeShapes Go.WideShapes Go.ChangeAt Go.RowKit
def msgT (a : MsgD) : Nat := a.2.length
def msgM (a : MsgD) (m : Nat) : MsgD := (a.1, marks m a.2.length)
def msgN (a : MsgD) : Nat := a.2.length
theorem msgT_le (a : MsgD) : msgT a ≤ 8 * msgN a := by
 unfold msgT msgN
 omega
set_option maxRecDepth 4000 in
set_option maxHeartbeats 1000000 in
theorem toMsg_k (a : MsgD) (us : List Value) (w : World) (h : msgC.rep w a us) (hl : msgN a ≤ 1048576) :
  Calls Tryz.prog 21 #[.agg us.toArray] w fun e w' => ∃ vs fp, e = .returned (.agg vs.toArray) ∧ msgC.own w' w.heap.size a vs fp ∧ Below w.heap.size w w' := by
 obtain ⟨p2, q2, rfl, r2⟩ := msg_rep h
 clear h
 have BW : Below w.heap.size w (((w.alloc (.cells #[.int .i64 a.1, .slice p2 a.2.length q2] 50)).alloc (.cells #[.int .i64 0, .slice none 0 0] 53)).alloc (.cells #[.int .i64 a.1, .slice none 0 0] 53)) := Below.mk (Below.mk (alloc_below _ _) _) _
 have R : Arr (((w.alloc (.cells #[.int .i64 a.1, .slice p2 a.2.length q2] 50)).alloc (.cells #[.int .i64 0, .slice none 0 0] 53)).alloc (.cells #[.int .i64 a.1, .slice none 0 0] 53)) (w.heap.size + 1) 53 [.int .i64 0, .slice none 0 0] := by
  have h := Arr.new (w.alloc (.cells #[.int .i64 a.1, .slice p2 a.2.length q2] 50)) [.int .i64 0, .slice none 0 0] 53
  rw [size_alloc] at h
  exact h.old _ _
 have A : Arr (((w.alloc (.cells #[.int .i64 a.1, .slice p2 a.2.length q2] 50)).alloc (.cells #[.int .i64 0, .slice none 0 0] 53)).alloc (.cells #[.int .i64 a.1, .slice none 0 0] 53)) w.heap.size 50 [.int .i64 a.1, .slice p2 a.2.length q2] := Arr.old _ _ (Arr.old _ _ (Arr.new w [.int .i64 a.1, .slice p2 a.2.length q2] 50))
 have O : Arr (((w.alloc (.cells #[.int .i64 a.1, .slice p2 a.2.length q2] 50)).alloc (.cells #[.int .i64 0, .slice none 0 0] 53)).alloc (.cells #[.int .i64 a.1, .slice none 0 0] 53)) (w.heap.size + 1 + 1) 53 [.int .i64 a.1, .slice none 0 0] := by
  have h := Arr.new ((w.alloc (.cells #[.int .i64 a.1, .slice p2 a.2.length q2] 50)).alloc (.cells #[.int .i64 0, .slice none 0 0] 53)) [.int .i64 a.1, .slice none 0 0] 53
  rw [size_alloc, size_alloc] at h
  exact h
 have z0 : Hid ((((w.alloc (.cells #[.int .i64 a.1, .slice p2 a.2.length q2] 50)).alloc (.cells #[.int .i64 0, .slice none 0 0] 53)).alloc (.cells #[.int .i64 a.1, .slice none 0 0] 53)).heap.size = w.heap.size + 3) := by show _ = _; rw [size_alloc, size_alloc, size_alloc]
 have R2 : Hid (Rd w p2 q2 a.2) := r2
 clear r2
 have HL : Hid (a.2.length ≤ 1048576) := hl
 clear hl
 go_enter Tryz.func21, Tryz.ntmps21
 go_wp2_with fail
 refine (toByteS_k a.2 _ _ ⟨p2, q2, rfl, R2.out.keep BW⟩ (by have := HL.out; omega)).mono ?_
 rintro e w1 ⟨v1, fp1, rfl, k1, hb⟩
 rw [z0.out] at k1
 have z1 : Hid (w.heap.size + 3 ≤ w1.heap.size) := by have h := hb.size; rw [z0.out] at h; exact h
 have g1 : Hid (∀ k, k ∈ fp1 → w.heap.size + 3 ≤ k ∧ k < w1.heap.size) := fun k hk => bytC.ins k1 k hk
 replace A := A.stay hb
 replace R := R.stay hb
 replace O := O.stay hb
 replace BW := Below.step BW hb
 obtain ⟨pv2, qv2, e1, -⟩ := bytC.toRep k1
 simp only [List.cons.injEq, and_true] at e1
 subst e1
 have ca0 := (A.cell 0).trans (show _ = some _ from rfl)
 have co0 := (O.cell 0).trans (show _ = some _ from rfl)
 have cr0 := (R.cell 0).trans (show _ = some _ from rfl)
 have ca1 := (A.cell 1).trans (show _ = some _ from rfl)
 have co1 := (O.cell 1).trans (show _ = some _ from rfl)
 have cr1 := (R.cell 1).trans (show _ = some _ from rfl)
 have fo := O.frozen
 have fr := R.frozen
 clear hb
 go_wp2_with fail
 refine bodyPost_ret (v := .agg #[.int .i64 a.1, .slice pv2 a.2.length qv2]) (by simp [results, Tryz.results21, go_sem, cr0, cr1]) rfl ⟨[.int .i64 a.1, .slice pv2 a.2.length qv2], _, rfl, msgC.low (own_pair 0 own_int (bytC.set (bytC.set (bytC.set k1 (show w.heap.size + 1 + 1 < w.heap.size + 3 by omega) _) (show w.heap.size + 1 < w.heap.size + 3 by omega) _) (show w.heap.size + 1 < w.heap.size + 3 by omega) _) lt_nil (fun _ _ => Nat.zero_le _)) (Nat.le_add_right _ 3), (((BW.setCell (show w.heap.size ≤ w.heap.size + 1 + 1 by omega) _).setCell (show w.heap.size ≤ w.heap.size + 1 by omega) _).setCell (show w.heap.size ≤ w.heap.size + 1 by omega) _)⟩
set_option maxRecDepth 4000 in
set_option maxHeartbeats 1000000 in
theorem szMsg_k (a : MsgD) (us : List Value) (left : Int) (w : World) (h : msgC.rep w a us) (h0 : 0 ≤ left) (h1 : left ≤ 1048576) :
  Calls Tryz.prog 19 #[.agg us.toArray, .int .i64 left] w fun e w' => e = .returned (.int .i64 (szR (msgN a) left)) ∧ Below w.heap.size w w' := by
 obtain ⟨p2, q2, rfl, r2⟩ := msg_rep h
 clear h
 have BW := alloc_below w (.cells #[.int .i64 a.1, .slice p2 a.2.length q2] 50)
 have A := Arr.new w [.int .i64 a.1, .slice p2 a.2.length q2] 50
 have R2 : Hid (Rd w p2 q2 a.2) := r2
 clear r2
 by_cases s0 : ((a.2.length : Nat) : Int) ≤ left
 ·go_enter Tryz.func19, Tryz.ntmps19
  go_wp2_with fail
  refine (szByteS_k a.2 _ _ _ ⟨p2, q2, rfl, R2.out.keep BW⟩ (by omega) (by omega)).mono ?_
  rintro e w1 ⟨rfl, hb⟩
  replace A := A.stay hb
  replace BW := Below.step BW hb
  have ca0 := (A.cell 0).trans (show _ = some _ from rfl)
  have ca1 := (A.cell 1).trans (show _ = some _ from rfl)
  clear hb
  rw [szR, if_pos (by omega)]
  have hne : ¬ (left - (a.2.length : Int) < 0) := by omega
  have hE : Hid (szR (msgN a) left = left - (a.2.length : Int)) := by show _ = _; unfold msgN; rw [szR, if_pos (by omega)] <;> omega
  go_wp2
  go_ret
  exact ⟨by rw [hE.out]; rfl, BW⟩
 ·go_enter Tryz.func19, Tryz.ntmps19
  go_wp2_with fail
  refine (szByteS_k a.2 _ _ _ ⟨p2, q2, rfl, R2.out.keep BW⟩ (by omega) (by omega)).mono ?_
  rintro e w1 ⟨rfl, hb⟩
  replace A := A.stay hb
  replace BW := Below.step BW hb
  have ca0 := (A.cell 0).trans (show _ = some _ from rfl)
  have ca1 := (A.cell 1).trans (show _ = some _ from rfl)
  clear hb
  rw [szR, if_neg (by omega)]
  go_wp2
  go_ret
  exact ⟨by unfold msgN; rw [szR, if_neg (by omega)] <;> rfl, BW⟩
set_option maxRecDepth 4000 in
set_option maxHeartbeats 1000000 in
theorem eqMsg_k (a : MsgD) (us vs : List Value) (w : World) (h1 : msgC.rep w a us) (h2 : msgC.rep w a vs) :
  Calls Tryz.prog 23 #[.agg us.toArray, .agg vs.toArray] w fun e w' => e = .returned (.bool true) ∧ Below w.heap.size w w' := by
 obtain ⟨p2, q2, rfl, r2⟩ := msg_rep h1
 obtain ⟨pb2, qb2, rfl, rb2⟩ := msg_rep h2
 clear h1 h2
 have BW : Below w.heap.size w ((w.alloc (.cells #[.int .i64 a.1, .slice p2 a.2.length q2] 53)).alloc (.cells #[.int .i64 a.1, .slice pb2 a.2.length qb2] 53)) := Below.mk (alloc_below _ _) _
 have A : Arr ((w.alloc (.cells #[.int .i64 a.1, .slice p2 a.2.length q2] 53)).alloc (.cells #[.int .i64 a.1, .slice pb2 a.2.length qb2] 53)) w.heap.size 53 [.int .i64 a.1, .slice p2 a.2.length q2] := (Arr.new w [.int .i64 a.1, .slice p2 a.2.length q2] 53).old _ _
 have B : Arr ((w.alloc (.cells #[.int .i64 a.1, .slice p2 a.2.length q2] 53)).alloc (.cells #[.int .i64 a.1, .slice pb2 a.2.length qb2] 53)) (w.heap.size + 1) 53 [.int .i64 a.1, .slice pb2 a.2.length qb2] := by
  have h := Arr.new (w.alloc (.cells #[.int .i64 a.1, .slice p2 a.2.length q2] 53)) [.int .i64 a.1, .slice pb2 a.2.length qb2] 53
  rw [size_alloc] at h
  exact h
 replace r2 := r2.keep BW
 replace rb2 := rb2.keep BW
 go_enter Tryz.func23, Tryz.ntmps23
 go_wp2_with fail
 refine (eqByteS_c p2 pb2 q2 qb2 a.2 _ r2 rb2).mono ?_
 rintro e w1 ⟨rfl, hb⟩
 replace A := A.stay hb
 replace B := B.stay hb
 replace BW := Below.step BW hb
 replace r2 := r2.keep hb
 replace rb2 := rb2.keep hb
 have ca0 := A.cell 0
 have cb0 := B.cell 0
 have ca1 := A.cell 1
 have cb1 := B.cell 1
 simp at ca0 cb0 ca1 cb1
 clear hb
 go_wp2
 go_ret
 exact ⟨rfl, BW⟩
set_option maxRecDepth 4000 in
set_option maxHeartbeats 1000000 in
theorem markMsg_k (a : MsgD) (us : List Value) (fp : List Nat) (B m : Nat) (mi : Int) (hmi : mi = (m : Int)) (w : World) (h : msgC.own w B a us fp) (hm : m + msgT a ≤ 1000000000) :
  Calls Tryz.prog 24 #[.agg us.toArray, .int .i64 mi] w fun e w' => e = .returned (.int .i64 (mi + (msgT a : Int))) ∧ msgC.own w' B (msgM a m) us fp ∧ Only fp w w' := by
 subst hmi
 obtain ⟨us0, ts0, f0, g0, rfl, rfl, nd0, k0, k1⟩ := h
 obtain ⟨e0, ef0⟩ := k0
 subst e0 ef0
 obtain ⟨p2, q2, e1, -⟩ := bytC.toRep k1
 subst e1
 have z1 : Hid (∀ x, x ∈ g0 → x < w.heap.size) := fun x hx => (bytC.ins k1 x hx).2
 have s1 : Hid (∀ x, x ∈ g0 → x ∈ [] ++ g0) := fun x hx => by simp [hx]
 have A := Arr.new w [.int .i64 a.1, .slice p2 a.2.length q2] 53
 have ON : Only ([] ++ g0) w (w.alloc (.cells #[.int .i64 a.1, .slice p2 a.2.length q2] 53)) := Only.below (alloc_below _ _)
 replace k1 := bytC.stay k1 (alloc_below _ (.cells #[.int .i64 a.1, .slice p2 a.2.length q2] 53))
 have ND0 : Hid _ := nd0
 clear nd0
 have hT : Hid (m + (a.2.length) ≤ 1000000000) := hm
 clear hm
 go_enter Tryz.func24, Tryz.ntmps24
 go_wp2_with fail
 refine (markByteS_k a.2 _ _ B m _ (by first | rfl | simp | (simp; omega) | (push_cast; omega)) _ k1 (by have := hT.out; omega)).mono ?_
 rintro e w1 ⟨rfl, k1, ho⟩
 replace A := A.only ho (fun h => Nat.lt_irrefl _ (z1.out _ h))
 replace ON := ON.trans_sub ho s1.out
 have ca0 := A.cell 0
 have ca1 := A.cell 1
 simp at ca0 ca1
 clear ho
 go_wp2
 go_ret
 exact ⟨by unfold msgT; simp; try omega, ⟨_, _, [], _, rfl, rfl, ND0.out, ⟨rfl, rfl⟩, k1⟩, ON⟩
abbrev MsgResultD := Int × MsgD
abbrev SideD := Int × List UInt8 × Int × List UInt8
def sideC : Cod SideD := prodC (intC .i64) (prodC bytC (prodC (intC .i64) bytC))
theorem side_rep {w : World} {a : SideD} {vs : List Value} (h : sideC.rep w a vs) : ∃ p2 q2 p4 q4, vs = [.int .i64 a.1, .slice p2 a.2.1.length q2, .int .i64 a.2.2.1, .slice p4 a.2.2.2.length q4] ∧ Rd w p2 q2 a.2.1 ∧ Rd w p4 q4 a.2.2.2 := by
 obtain ⟨us0, ts0, rfl, h0, us1, ts1, rfl, h1, us2, ts2, rfl, h2, h3⟩ := h
 have e0 : us0 = [Value.int .i64 _] := h0
 subst e0
 obtain ⟨p2, q2, rfl, r2⟩ := h1
 have e2 : us2 = [Value.int .i64 _] := h2
 subst e2
 obtain ⟨p4, q4, rfl, r4⟩ := h3
 exact ⟨p2, q2, p4, q4, rfl, r2, r4⟩
theorem side_mk {w : World} {a : SideD} {p2 : Option Addr} {q2 : Nat} {p4 : Option Addr} {q4 : Nat} (r2 : Rd w p2 q2 a.2.1) (r4 : Rd w p4 q4 a.2.2.2) : sideC.rep w a [.int .i64 a.1, .slice p2 a.2.1.length q2, .int .i64 a.2.2.1, .slice p4 a.2.2.2.length q4] := ⟨[.int .i64 a.1], _, rfl, rfl, ⟨[.slice p2 a.2.1.length q2], _, rfl, ⟨p2, q2, rfl, r2⟩, ⟨[.int .i64 a.2.2.1], _, rfl, rfl, ⟨p4, q4, rfl, r4⟩⟩⟩⟩
def sideT (a : SideD) : Nat := a.2.1.length + a.2.2.2.length
def sideM (a : SideD) (m : Nat) : SideD := (a.1, marks m a.2.1.length, a.2.2.1, marks (m + a.2.1.length) a.2.2.2.length)
def sideN (a : SideD) : Nat := a.2.1.length + a.2.2.2.length
theorem sideT_le (a : SideD) : sideT a ≤ 8 * sideN a := by
 unfold sideT sideN
 omega
set_option maxRecDepth 4000 in
set_option maxHeartbeats 1000000 in
theorem toSide_k (a : SideD) (us : List Value) (w : World) (h : sideC.rep w a us) (hl : sideN a ≤ 1048576) :
  Calls Tryz.prog 27 #[.agg us.toArray] w fun e w' => ∃ vs fp, e = .returned (.agg vs.toArray) ∧ sideC.own w' w.heap.size a vs fp ∧ Below w.heap.size w w' := by
 obtain ⟨p2, q2, p4, q4, rfl, r2, r4⟩ := side_rep h
 clear h
 have BW : Below w.heap.size w (((w.alloc (.cells #[.int .i64 a.1, .slice p2 a.2.1.length q2, .int .i64 a.2.2.1, .slice p4 a.2.2.2.length q4] 24)).alloc (.cells #[.int .i64 0, .slice none 0 0, .int .i64 0, .slice none 0 0] 32)).alloc (.cells #[.int .i64 a.1, .slice none 0 0, .int .i64 0, .slice none 0 0] 32)) := Below.mk (Below.mk (alloc_below _ _) _) _
 have R : Arr (((w.alloc (.cells #[.int .i64 a.1, .slice p2 a.2.1.length q2, .int .i64 a.2.2.1, .slice p4 a.2.2.2.length q4] 24)).alloc (.cells #[.int .i64 0, .slice none 0 0, .int .i64 0, .slice none 0 0] 32)).alloc (.cells #[.int .i64 a.1, .slice none 0 0, .int .i64 0, .slice none 0 0] 32)) (w.heap.size + 1) 32 [.int .i64 0, .slice none 0 0, .int .i64 0, .slice none 0 0] := by
  have h := Arr.new (w.alloc (.cells #[.int .i64 a.1, .slice p2 a.2.1.length q2, .int .i64 a.2.2.1, .slice p4 a.2.2.2.length q4] 24)) [.int .i64 0, .slice none 0 0, .int .i64 0, .slice none 0 0] 32
  rw [size_alloc] at h
  exact h.old _ _
 have A : Arr (((w.alloc (.cells #[.int .i64 a.1, .slice p2 a.2.1.length q2, .int .i64 a.2.2.1, .slice p4 a.2.2.2.length q4] 24)).alloc (.cells #[.int .i64 0, .slice none 0 0, .int .i64 0, .slice none 0 0] 32)).alloc (.cells #[.int .i64 a.1, .slice none 0 0, .int .i64 0, .slice none 0 0] 32)) w.heap.size 24 [.int .i64 a.1, .slice p2 a.2.1.length q2, .int .i64 a.2.2.1, .slice p4 a.2.2.2.length q4] := Arr.old _ _ (Arr.old _ _ (Arr.new w [.int .i64 a.1, .slice p2 a.2.1.length q2, .int .i64 a.2.2.1, .slice p4 a.2.2.2.length q4] 24))
 have O : Arr (((w.alloc (.cells #[.int .i64 a.1, .slice p2 a.2.1.length q2, .int .i64 a.2.2.1, .slice p4 a.2.2.2.length q4] 24)).alloc (.cells #[.int .i64 0, .slice none 0 0, .int .i64 0, .slice none 0 0] 32)).alloc (.cells #[.int .i64 a.1, .slice none 0 0, .int .i64 0, .slice none 0 0] 32)) (w.heap.size + 1 + 1) 32 [.int .i64 a.1, .slice none 0 0, .int .i64 0, .slice none 0 0] := by
  have h := Arr.new ((w.alloc (.cells #[.int .i64 a.1, .slice p2 a.2.1.length q2, .int .i64 a.2.2.1, .slice p4 a.2.2.2.length q4] 24)).alloc (.cells #[.int .i64 0, .slice none 0 0, .int .i64 0, .slice none 0 0] 32)) [.int .i64 a.1, .slice none 0 0, .int .i64 0, .slice none 0 0] 32
  rw [size_alloc, size_alloc] at h
  exact h
 have z0 : Hid ((((w.alloc (.cells #[.int .i64 a.1, .slice p2 a.2.1.length q2, .int .i64 a.2.2.1, .slice p4 a.2.2.2.length q4] 24)).alloc (.cells #[.int .i64 0, .slice none 0 0, .int .i64 0, .slice none 0 0] 32)).alloc (.cells #[.int .i64 a.1, .slice none 0 0, .int .i64 0, .slice none 0 0] 32)).heap.size = w.heap.size + 3) := by show _ = _; rw [size_alloc, size_alloc, size_alloc]
 have R2 : Hid (Rd w p2 q2 a.2.1) := r2
 have R4 : Hid (Rd w p4 q4 a.2.2.2) := r4
 clear r2 r4
 have HL : Hid (a.2.1.length + a.2.2.2.length ≤ 1048576) := hl
 clear hl
 go_enter Tryz.func27, Tryz.ntmps27
 go_wp2_with fail
 refine (toByteS_k a.2.1 _ _ ⟨p2, q2, rfl, R2.out.keep BW⟩ (by have := HL.out; omega)).mono ?_
 rintro e w1 ⟨v1, fp1, rfl, k1, hb⟩
 rw [z0.out] at k1
 have z1 : Hid (w.heap.size + 3 ≤ w1.heap.size) := by have h := hb.size; rw [z0.out] at h; exact h
 have g1 : Hid (∀ k, k ∈ fp1 → w.heap.size + 3 ≤ k ∧ k < w1.heap.size) := fun k hk => bytC.ins k1 k hk
 replace A := A.stay hb
 replace R := R.stay hb
 replace O := O.stay hb
 replace BW := Below.step BW hb
 obtain ⟨pv2, qv2, e1, -⟩ := bytC.toRep k1
 simp only [List.cons.injEq, and_true] at e1
 subst e1
 have ca0 := (A.cell 0).trans (show _ = some _ from rfl)
 have co0 := (O.cell 0).trans (show _ = some _ from rfl)
 have cr0 := (R.cell 0).trans (show _ = some _ from rfl)
 have ca1 := (A.cell 1).trans (show _ = some _ from rfl)
 have co1 := (O.cell 1).trans (show _ = some _ from rfl)
 have cr1 := (R.cell 1).trans (show _ = some _ from rfl)
 have ca2 := (A.cell 2).trans (show _ = some _ from rfl)
 have co2 := (O.cell 2).trans (show _ = some _ from rfl)
 have cr2 := (R.cell 2).trans (show _ = some _ from rfl)
 have ca3 := (A.cell 3).trans (show _ = some _ from rfl)
 have co3 := (O.cell 3).trans (show _ = some _ from rfl)
 have cr3 := (R.cell 3).trans (show _ = some _ from rfl)
 have fo := O.frozen
 have fr := R.frozen
 clear hb
 go_wp2_with fail
 replace A := A.setOther (a := ⟨w.heap.size + 1 + 1, 1, none⟩) (by simp; omega) (.slice pv2 a.2.1.length qv2)
 replace R := R.setOther (a := ⟨w.heap.size + 1 + 1, 1, none⟩) (by simp) (.slice pv2 a.2.1.length qv2)
 replace O := O.set 1 (.slice pv2 a.2.1.length qv2)
 replace BW := BW.setCell (p := ⟨w.heap.size + 1 + 1, 1, none⟩) (by show w.heap.size ≤ w.heap.size + 1 + 1; omega) (.slice pv2 a.2.1.length qv2)
 replace k1 := bytC.set k1 (p := ⟨w.heap.size + 1 + 1, 1, none⟩) (by show w.heap.size + 1 + 1 < w.heap.size + 3; omega) (.slice pv2 a.2.1.length qv2)
 replace A := A.setOther (a := ⟨w.heap.size + 1 + 1, 2, none⟩) (by simp; omega) (.int .i64 a.2.2.1)
 replace R := R.setOther (a := ⟨w.heap.size + 1 + 1, 2, none⟩) (by simp) (.int .i64 a.2.2.1)
 replace O := O.set 2 (.int .i64 a.2.2.1)
 replace BW := BW.setCell (p := ⟨w.heap.size + 1 + 1, 2, none⟩) (by show w.heap.size ≤ w.heap.size + 1 + 1; omega) (.int .i64 a.2.2.1)
 replace k1 := bytC.set k1 (p := ⟨w.heap.size + 1 + 1, 2, none⟩) (by show w.heap.size + 1 + 1 < w.heap.size + 3; omega) (.int .i64 a.2.2.1)
 simp only [List.set_cons_zero, List.set_cons_succ] at O
 refine (toByteS_k a.2.2.2 _ _ ⟨p4, q4, rfl, R4.out.keep BW⟩ (by have := HL.out; omega)).mono ?_
 rintro e w2 ⟨v3, fp3, rfl, k3, hb⟩
 simp only [World.size_setCell] at k3
 have z2 : Hid (w1.heap.size ≤ w2.heap.size) := by have h := hb.size; simp only [World.size_setCell] at h; exact h
 have g3 : Hid (∀ k, k ∈ fp3 → w1.heap.size ≤ k ∧ k < w2.heap.size) := fun k hk => bytC.ins k3 k hk
 replace k3 := bytC.low k3 (show w.heap.size + 3 ≤ w1.heap.size by have := z1.out; omega)
 replace A := A.stay hb
 replace R := R.stay hb
 replace O := O.stay hb
 replace BW := Below.step BW hb
 replace k1 := bytC.stay k1 hb
 obtain ⟨pv4, qv4, e3, -⟩ := bytC.toRep k3
 simp only [List.cons.injEq, and_true] at e3
 subst e3
 have ca0 := (A.cell 0).trans (show _ = some _ from rfl)
 have co0 := (O.cell 0).trans (show _ = some _ from rfl)
 have cr0 := (R.cell 0).trans (show _ = some _ from rfl)
 have ca1 := (A.cell 1).trans (show _ = some _ from rfl)
 have co1 := (O.cell 1).trans (show _ = some _ from rfl)
 have cr1 := (R.cell 1).trans (show _ = some _ from rfl)
 have ca2 := (A.cell 2).trans (show _ = some _ from rfl)
 have co2 := (O.cell 2).trans (show _ = some _ from rfl)
 have cr2 := (R.cell 2).trans (show _ = some _ from rfl)
 have ca3 := (A.cell 3).trans (show _ = some _ from rfl)
 have co3 := (O.cell 3).trans (show _ = some _ from rfl)
 have cr3 := (R.cell 3).trans (show _ = some _ from rfl)
 have fo := O.frozen
 have fr := R.frozen
 clear hb
 go_wp2_with fail
 refine bodyPost_ret (v := .agg #[.int .i64 a.1, .slice pv2 a.2.1.length qv2, .int .i64 a.2.2.1, .slice pv4 a.2.2.2.length qv4]) (by simp [results, Tryz.results27, go_sem, cr0, cr1, cr2, cr3]) rfl ⟨[.int .i64 a.1, .slice pv2 a.2.1.length qv2, .int .i64 a.2.2.1, .slice pv4 a.2.2.2.length qv4], _, rfl, sideC.low (own_pair 0 own_int (own_pair w1.heap.size (bytC.set (bytC.set (bytC.set (bytC.set (bytC.set k1 (show w.heap.size + 1 + 1 < w.heap.size + 3 by omega) _) (show w.heap.size + 1 < w.heap.size + 3 by omega) _) (show w.heap.size + 1 < w.heap.size + 3 by omega) _) (show w.heap.size + 1 < w.heap.size + 3 by omega) _) (show w.heap.size + 1 < w.heap.size + 3 by omega) _) (own_pair 0 own_int (bytC.set (bytC.set (bytC.set (bytC.set (bytC.set k3 (show w.heap.size + 1 + 1 < w.heap.size + 3 by omega) _) (show w.heap.size + 1 < w.heap.size + 3 by omega) _) (show w.heap.size + 1 < w.heap.size + 3 by omega) _) (show w.heap.size + 1 < w.heap.size + 3 by omega) _) (show w.heap.size + 1 < w.heap.size + 3 by omega) _) lt_nil (fun _ _ => Nat.zero_le _)) (fun k hk => (g1.out k hk).2) (ge_app ge_nil (fun k hk => Nat.le_trans (by have := z1.out; have := z2.out; omega) (g3.out k hk).1))) lt_nil (fun _ _ => Nat.zero_le _)) (Nat.le_add_right _ 3), (((((BW.setCell (show w.heap.size ≤ w.heap.size + 1 + 1 by omega) _).setCell (show w.heap.size ≤ w.heap.size + 1 by omega) _).setCell (show w.heap.size ≤ w.heap.size + 1 by omega) _).setCell (show w.heap.size ≤ w.heap.size + 1 by omega) _).setCell (show w.heap.size ≤ w.heap.size + 1 by omega) _)⟩
set_option maxRecDepth 4000 in
set_option maxHeartbeats 1000000 in
theorem szSide_k (a : SideD) (us : List Value) (left : Int) (w : World) (h : sideC.rep w a us) (h0 : 0 ≤ left) (h1 : left ≤ 1048576) :
  Calls Tryz.prog 25 #[.agg us.toArray, .int .i64 left] w fun e w' => e = .returned (.int .i64 (szR (sideN a) left)) ∧ Below w.heap.size w w' := by
 obtain ⟨p2, q2, p4, q4, rfl, r2, r4⟩ := side_rep h
 clear h
 have BW := alloc_below w (.cells #[.int .i64 a.1, .slice p2 a.2.1.length q2, .int .i64 a.2.2.1, .slice p4 a.2.2.2.length q4] 24)
 have A := Arr.new w [.int .i64 a.1, .slice p2 a.2.1.length q2, .int .i64 a.2.2.1, .slice p4 a.2.2.2.length q4] 24
 have R2 : Hid (Rd w p2 q2 a.2.1) := r2
 have R4 : Hid (Rd w p4 q4 a.2.2.2) := r4
 clear r2 r4
 by_cases s0 : ((a.2.1.length : Nat) : Int) ≤ left
 ·by_cases s1 : ((a.2.2.2.length : Nat) : Int) ≤ left - ((a.2.1.length : Nat) : Int)
  ·go_enter Tryz.func25, Tryz.ntmps25
   go_wp2_with fail
   refine (szByteS_k a.2.1 _ _ _ ⟨p2, q2, rfl, R2.out.keep BW⟩ (by omega) (by omega)).mono ?_
   rintro e w1 ⟨rfl, hb⟩
   replace A := A.stay hb
   replace BW := Below.step BW hb
   have ca0 := (A.cell 0).trans (show _ = some _ from rfl)
   have ca1 := (A.cell 1).trans (show _ = some _ from rfl)
   have ca2 := (A.cell 2).trans (show _ = some _ from rfl)
   have ca3 := (A.cell 3).trans (show _ = some _ from rfl)
   clear hb
   rw [szR, if_pos (by omega)]
   go_wp2_with fail
   refine (szByteS_k a.2.2.2 _ _ _ ⟨p4, q4, rfl, R4.out.keep BW⟩ (by omega) (by omega)).mono ?_
   rintro e w2 ⟨rfl, hb⟩
   replace A := A.stay hb
   replace BW := Below.step BW hb
   have ca0 := (A.cell 0).trans (show _ = some _ from rfl)
   have ca1 := (A.cell 1).trans (show _ = some _ from rfl)
   have ca2 := (A.cell 2).trans (show _ = some _ from rfl)
   have ca3 := (A.cell 3).trans (show _ = some _ from rfl)
   clear hb
   rw [szR, if_pos (by omega)]
   have hne : ¬ (left - (a.2.1.length : Int) - (a.2.2.2.length : Int) < 0) := by omega
   have hE : Hid (szR (sideN a) left = left - (a.2.1.length : Int) - (a.2.2.2.length : Int)) := by show _ = _; unfold sideN; rw [szR, if_pos (by omega)] <;> omega
   go_wp2
   go_ret
   exact ⟨by rw [hE.out]; rfl, BW⟩
  ·go_enter Tryz.func25, Tryz.ntmps25
   go_wp2_with fail
   refine (szByteS_k a.2.1 _ _ _ ⟨p2, q2, rfl, R2.out.keep BW⟩ (by omega) (by omega)).mono ?_
   rintro e w1 ⟨rfl, hb⟩
   replace A := A.stay hb
   replace BW := Below.step BW hb
   have ca0 := (A.cell 0).trans (show _ = some _ from rfl)
   have ca1 := (A.cell 1).trans (show _ = some _ from rfl)
   have ca2 := (A.cell 2).trans (show _ = some _ from rfl)
   have ca3 := (A.cell 3).trans (show _ = some _ from rfl)
   clear hb
   rw [szR, if_pos (by omega)]
   go_wp2_with fail
   refine (szByteS_k a.2.2.2 _ _ _ ⟨p4, q4, rfl, R4.out.keep BW⟩ (by omega) (by omega)).mono ?_
   rintro e w2 ⟨rfl, hb⟩
   replace A := A.stay hb
   replace BW := Below.step BW hb
   have ca0 := (A.cell 0).trans (show _ = some _ from rfl)
   have ca1 := (A.cell 1).trans (show _ = some _ from rfl)
   have ca2 := (A.cell 2).trans (show _ = some _ from rfl)
   have ca3 := (A.cell 3).trans (show _ = some _ from rfl)
   clear hb
   rw [szR, if_neg (by omega)]
   go_wp2
   go_ret
   exact ⟨by unfold sideN; rw [szR, if_neg (by omega)] <;> rfl, BW⟩
 ·go_enter Tryz.func25, Tryz.ntmps25
  go_wp2_with fail
  refine (szByteS_k a.2.1 _ _ _ ⟨p2, q2, rfl, R2.out.keep BW⟩ (by omega) (by omega)).mono ?_
  rintro e w1 ⟨rfl, hb⟩
  replace A := A.stay hb
  replace BW := Below.step BW hb
  have ca0 := (A.cell 0).trans (show _ = some _ from rfl)
  have ca1 := (A.cell 1).trans (show _ = some _ from rfl)
  have ca2 := (A.cell 2).trans (show _ = some _ from rfl)
  have ca3 := (A.cell 3).trans (show _ = some _ from rfl)
  clear hb
  rw [szR, if_neg (by omega)]
  go_wp2
  go_ret
  exact ⟨by unfold sideN; rw [szR, if_neg (by omega)] <;> rfl, BW⟩
set_option maxRecDepth 4000 in
set_option maxHeartbeats 1000000 in
theorem eqSide_k (a : SideD) (us vs : List Value) (w : World) (h1 : sideC.rep w a us) (h2 : sideC.rep w a vs) :
  Calls Tryz.prog 30 #[.agg us.toArray, .agg vs.toArray] w fun e w' => e = .returned (.bool true) ∧ Below w.heap.size w w' := by
 obtain ⟨p2, q2, p4, q4, rfl, r2, r4⟩ := side_rep h1
 obtain ⟨pb2, qb2, pb4, qb4, rfl, rb2, rb4⟩ := side_rep h2
 clear h1 h2
 have BW : Below w.heap.size w ((w.alloc (.cells #[.int .i64 a.1, .slice p2 a.2.1.length q2, .int .i64 a.2.2.1, .slice p4 a.2.2.2.length q4] 32)).alloc (.cells #[.int .i64 a.1, .slice pb2 a.2.1.length qb2, .int .i64 a.2.2.1, .slice pb4 a.2.2.2.length qb4] 32)) := Below.mk (alloc_below _ _) _
 have A : Arr ((w.alloc (.cells #[.int .i64 a.1, .slice p2 a.2.1.length q2, .int .i64 a.2.2.1, .slice p4 a.2.2.2.length q4] 32)).alloc (.cells #[.int .i64 a.1, .slice pb2 a.2.1.length qb2, .int .i64 a.2.2.1, .slice pb4 a.2.2.2.length qb4] 32)) w.heap.size 32 [.int .i64 a.1, .slice p2 a.2.1.length q2, .int .i64 a.2.2.1, .slice p4 a.2.2.2.length q4] := (Arr.new w [.int .i64 a.1, .slice p2 a.2.1.length q2, .int .i64 a.2.2.1, .slice p4 a.2.2.2.length q4] 32).old _ _
 have B : Arr ((w.alloc (.cells #[.int .i64 a.1, .slice p2 a.2.1.length q2, .int .i64 a.2.2.1, .slice p4 a.2.2.2.length q4] 32)).alloc (.cells #[.int .i64 a.1, .slice pb2 a.2.1.length qb2, .int .i64 a.2.2.1, .slice pb4 a.2.2.2.length qb4] 32)) (w.heap.size + 1) 32 [.int .i64 a.1, .slice pb2 a.2.1.length qb2, .int .i64 a.2.2.1, .slice pb4 a.2.2.2.length qb4] := by
  have h := Arr.new (w.alloc (.cells #[.int .i64 a.1, .slice p2 a.2.1.length q2, .int .i64 a.2.2.1, .slice p4 a.2.2.2.length q4] 32)) [.int .i64 a.1, .slice pb2 a.2.1.length qb2, .int .i64 a.2.2.1, .slice pb4 a.2.2.2.length qb4] 32
  rw [size_alloc] at h
  exact h
 replace r2 := r2.keep BW
 replace rb2 := rb2.keep BW
 replace r4 := r4.keep BW
 replace rb4 := rb4.keep BW
 go_enter Tryz.func30, Tryz.ntmps30
 go_wp2_with fail
 refine (eqByteS_c p2 pb2 q2 qb2 a.2.1 _ r2 rb2).mono ?_
 rintro e w1 ⟨rfl, hb⟩
 replace A := A.stay hb
 replace B := B.stay hb
 replace BW := Below.step BW hb
 replace r2 := r2.keep hb
 replace rb2 := rb2.keep hb
 replace r4 := r4.keep hb
 replace rb4 := rb4.keep hb
 have ca0 := A.cell 0
 have cb0 := B.cell 0
 have ca1 := A.cell 1
 have cb1 := B.cell 1
 have ca2 := A.cell 2
 have cb2 := B.cell 2
 have ca3 := A.cell 3
 have cb3 := B.cell 3
 simp at ca0 cb0 ca1 cb1 ca2 cb2 ca3 cb3
 clear hb
 go_wp2_with fail
 refine (eqByteS_c p4 pb4 q4 qb4 a.2.2.2 _ r4 rb4).mono ?_
 rintro e w2 ⟨rfl, hb⟩
 replace A := A.stay hb
 replace B := B.stay hb
 replace BW := Below.step BW hb
 replace r2 := r2.keep hb
 replace rb2 := rb2.keep hb
 replace r4 := r4.keep hb
 replace rb4 := rb4.keep hb
 have ca0 := A.cell 0
 have cb0 := B.cell 0
 have ca1 := A.cell 1
 have cb1 := B.cell 1
 have ca2 := A.cell 2
 have cb2 := B.cell 2
 have ca3 := A.cell 3
 have cb3 := B.cell 3
 simp at ca0 cb0 ca1 cb1 ca2 cb2 ca3 cb3
 clear hb
 go_wp2
 go_ret
 exact ⟨rfl, BW⟩
set_option maxRecDepth 4000 in
set_option maxHeartbeats 1000000 in
theorem markSide_k (a : SideD) (us : List Value) (fp : List Nat) (B m : Nat) (mi : Int) (hmi : mi = (m : Int)) (w : World) (h : sideC.own w B a us fp) (hm : m + sideT a ≤ 1000000000) :
  Calls Tryz.prog 31 #[.agg us.toArray, .int .i64 mi] w fun e w' => e = .returned (.int .i64 (mi + (sideT a : Int))) ∧ sideC.own w' B (sideM a m) us fp ∧ Only fp w w' := by
 subst hmi
 obtain ⟨us0, ts0, f0, g0, rfl, rfl, nd0, k0, us1, ts1, f1, g1, rfl, rfl, nd1, k1, us2, ts2, f2, g2, rfl, rfl, nd2, k2, k3⟩ := h
 obtain ⟨e0, ef0⟩ := k0
 subst e0 ef0
 obtain ⟨p2, q2, e1, -⟩ := bytC.toRep k1
 subst e1
 obtain ⟨e2, ef2⟩ := k2
 subst e2 ef2
 obtain ⟨p4, q4, e3, -⟩ := bytC.toRep k3
 subst e3
 have z1 : Hid (∀ x, x ∈ f1 → x < w.heap.size) := fun x hx => (bytC.ins k1 x hx).2
 have z3 : Hid (∀ x, x ∈ g2 → x < w.heap.size) := fun x hx => (bytC.ins k3 x hx).2
 have d1_3 : Hid (∀ x, x ∈ f1 → x ∉ g2) := fun x h1 h2 => nodup_apart nd1 x h1 (by simp [h2])
 have s1 : Hid (∀ x, x ∈ f1 → x ∈ [] ++ (f1 ++ ([] ++ g2))) := fun x hx => by simp [hx]
 have s3 : Hid (∀ x, x ∈ g2 → x ∈ [] ++ (f1 ++ ([] ++ g2))) := fun x hx => by simp [hx]
 have A := Arr.new w [.int .i64 a.1, .slice p2 a.2.1.length q2, .int .i64 a.2.2.1, .slice p4 a.2.2.2.length q4] 32
 have ON : Only ([] ++ (f1 ++ ([] ++ g2))) w (w.alloc (.cells #[.int .i64 a.1, .slice p2 a.2.1.length q2, .int .i64 a.2.2.1, .slice p4 a.2.2.2.length q4] 32)) := Only.below (alloc_below _ _)
 replace k1 := bytC.stay k1 (alloc_below _ (.cells #[.int .i64 a.1, .slice p2 a.2.1.length q2, .int .i64 a.2.2.1, .slice p4 a.2.2.2.length q4] 32))
 replace k3 := bytC.stay k3 (alloc_below _ (.cells #[.int .i64 a.1, .slice p2 a.2.1.length q2, .int .i64 a.2.2.1, .slice p4 a.2.2.2.length q4] 32))
 have ND0 : Hid _ := nd0
 have ND1 : Hid _ := nd1
 have ND2 : Hid _ := nd2
 clear nd0 nd1 nd2
 have hT : Hid (m + (a.2.1.length + a.2.2.2.length) ≤ 1000000000) := hm
 clear hm
 go_enter Tryz.func31, Tryz.ntmps31
 go_wp2_with fail
 refine (markByteS_k a.2.1 _ _ B m _ (by first | rfl | simp | (simp; omega) | (push_cast; omega)) _ k1 (by have := hT.out; omega)).mono ?_
 rintro e w1 ⟨rfl, k1, ho⟩
 replace k3 := bytC.other k3 ho (fun x h1 h2 => d1_3.out x h2 h1)
 replace A := A.only ho (fun h => Nat.lt_irrefl _ (z1.out _ h))
 replace ON := ON.trans_sub ho s1.out
 have ca0 := A.cell 0
 have ca1 := A.cell 1
 have ca2 := A.cell 2
 have ca3 := A.cell 3
 simp at ca0 ca1 ca2 ca3
 clear ho
 go_wp2_with fail
 refine (markByteS_k a.2.2.2 _ _ B (m + a.2.1.length) _ (by first | rfl | simp | (simp; omega) | (push_cast; omega)) _ k3 (by have := hT.out; omega)).mono ?_
 rintro e w2 ⟨rfl, k3, ho⟩
 replace k1 := bytC.other k1 ho (fun x h1 h2 => d1_3.out x h1 h2)
 replace A := A.only ho (fun h => Nat.lt_irrefl _ (z3.out _ h))
 replace ON := ON.trans_sub ho s3.out
 have ca0 := A.cell 0
 have ca1 := A.cell 1
 have ca2 := A.cell 2
 have ca3 := A.cell 3
 simp at ca0 ca1 ca2 ca3
 clear ho
 go_wp2
 go_ret
 exact ⟨by unfold sideT; simp; try omega, ⟨_, _, [], _, rfl, rfl, ND0.out, ⟨rfl, rfl⟩, ⟨_, _, _, _, rfl, rfl, ND1.out, k1, ⟨_, _, [], _, rfl, rfl, ND2.out, ⟨rfl, rfl⟩, k3⟩⟩⟩, ON⟩
set_option maxRecDepth 4000 in
set_option maxHeartbeats 1000000 in
theorem heldSide_k (a : SideD) (us : List Value) (m : Nat) (mi : Int) (hmi : mi = (m : Int)) (w : World) (h : sideC.rep w (sideM a m) us) (hm : m + sideT a ≤ 1048577) :
  Calls Tryz.prog 111 #[.agg us.toArray, .int .i64 mi] w fun e w' => e = .returned (.int .i64 (mi + (sideT a : Int))) ∧ Below w.heap.size w w' := by
 subst hmi
 obtain ⟨us0, ts0, rfl, h0, us1, ts1, rfl, h1, us2, ts2, rfl, h2, h3⟩ := h
 have e0 : us0 = [Value.int .i64 (sideM a m).1] := h0
 subst e0
 obtain ⟨p2, q2, rfl, r2⟩ := h1
 have e2 : us2 = [Value.int .i64 (sideM a m).2.2.1] := h2
 subst e2
 obtain ⟨p4, q4, rfl, r4⟩ := h3
 have A := Arr.new w [.int .i64 (sideM a m).1, .slice p2 (sideM a m).2.1.length q2, .int .i64 (sideM a m).2.2.1, .slice p4 (sideM a m).2.2.2.length q4] 32
 have BW := alloc_below w (.cells #[.int .i64 (sideM a m).1, .slice p2 (sideM a m).2.1.length q2, .int .i64 (sideM a m).2.2.1, .slice p4 (sideM a m).2.2.2.length q4] 32)
 replace r2 := r2.keep BW
 replace r4 := r4.keep BW
 have hT : Hid (m + (a.2.1.length + a.2.2.2.length) ≤ 1048577) := hm
 clear hm
 go_enter Tryz.func111, Tryz.ntmps111
 go_wp2_with fail
 refine (heldByteS_k (sideM a m).2.1 p2 q2 a.2.1.length m rfl _ (by first | rfl | simp | (simp; omega) | (push_cast; omega)) _ r2 (by have := hT.out; omega)).mono ?_
 rintro e w1 ⟨rfl, hw⟩
 subst hw
 go_wp2_with fail
 refine (heldByteS_k (sideM a m).2.2.2 p4 q4 a.2.2.2.length (m + a.2.1.length) rfl _ (by first | rfl | simp | (simp; omega) | (push_cast; omega)) _ r4 (by have := hT.out; omega)).mono ?_
 rintro e w2 ⟨rfl, hw⟩
 subst hw
 go_wp2
 go_ret
 exact ⟨by unfold sideT; simp; try omega, BW⟩
end Go.Proofs.YtiabacnmmojfjabGreatDoor
