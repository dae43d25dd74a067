/- How Session lies in memory, and the contracts of the laws' helpers on it (written by tools/codgen.py). -/
import Derived.Test.YthiabbgkfmopiaaGreatJoint8
import Derived.Test.YthiabbgkfmopiaaGreatJoint10
import Derived.Test.YthiabbgkfmopiaaGreatHeldC
namespace Go.Proofs.YthiabbgkfmopiaaGreat
open Go.ChangeShapes Go.WideShapes Go.ChangeAt Go.RowKit

abbrev SessionD := List UInt8 × Int × List (List UInt8) × List (List UInt8) × List HeldD
def sessionC : Cod SessionD := prodC bytC (prodC (intC .i64) (prodC blksC (prodC blksC holdsC)))
theorem session_rep {w : World} {a : SessionD} {vs : List Value} (h : sessionC.rep w a vs) : ∃ p1 q1 p3 q3 p4 q4 p5 q5, vs = [.slice p1 a.1.length q1, .int .i64 a.2.1, .slice p3 a.2.2.1.length q3, .slice p4 a.2.2.2.1.length q4, .slice p5 a.2.2.2.2.length q5] ∧ Rd w p1 q1 a.1 ∧ RdL bytC w p3 q3 a.2.2.1 ∧ RdL bytC w p4 q4 a.2.2.2.1 ∧ RdL holdC w p5 q5 a.2.2.2.2 := by
  obtain ⟨us0, ts0, rfl, h0, us1, ts1, rfl, h1, us2, ts2, rfl, h2, us3, ts3, rfl, h3, h4⟩ := h
  obtain ⟨p1, q1, rfl, r1⟩ := h0
  have e1 : us1 = [Value.int .i64 _] := h1
  subst e1
  obtain ⟨p3, q3, rfl, r3⟩ := h2
  obtain ⟨p4, q4, rfl, r4⟩ := h3
  obtain ⟨p5, q5, rfl, r5⟩ := h4
  exact ⟨p1, q1, p3, q3, p4, q4, p5, q5, rfl, r1, r3, r4, r5⟩
theorem session_mk {w : World} {a : SessionD} {p1 : Option Addr} {q1 : Nat} {p3 : Option Addr} {q3 : Nat} {p4 : Option Addr} {q4 : Nat} {p5 : Option Addr} {q5 : Nat} (r1 : Rd w p1 q1 a.1) (r3 : RdL bytC w p3 q3 a.2.2.1) (r4 : RdL bytC w p4 q4 a.2.2.2.1) (r5 : RdL holdC w p5 q5 a.2.2.2.2) : sessionC.rep w a [.slice p1 a.1.length q1, .int .i64 a.2.1, .slice p3 a.2.2.1.length q3, .slice p4 a.2.2.2.1.length q4, .slice p5 a.2.2.2.2.length q5] := ⟨[.slice p1 a.1.length q1], _, rfl, ⟨p1, q1, rfl, r1⟩, ⟨[.int .i64 a.2.1], _, rfl, rfl, ⟨[.slice p3 a.2.2.1.length q3], _, rfl, ⟨p3, q3, rfl, r3⟩, ⟨[.slice p4 a.2.2.2.1.length q4], _, rfl, ⟨p4, q4, rfl, r4⟩, ⟨p5, q5, rfl, r5⟩⟩⟩⟩⟩
def sessionT (a : SessionD) : Nat := a.1.length + sumB a.2.2.1 + sumB a.2.2.2.1 + bulkH a.2.2.2.2
def sessionM (a : SessionD) (m : Nat) : SessionD := (marks m a.1.length, a.2.1, mkB a.2.2.1 (m + a.1.length), mkB a.2.2.2.1 ((m + a.1.length) + sumB a.2.2.1), mkH a.2.2.2.2 (((m + a.1.length) + sumB a.2.2.1) + sumB a.2.2.2.1))

def sessionN (a : SessionD) : Nat := a.1.length + bulkB a.2.2.1 + bulkB a.2.2.2.1 + sizeH a.2.2.2.2
theorem sessionT_le (a : SessionD) : sessionT a ≤ 8 * sessionN a := by
  have h2 := sumB_bulk a.2.2.1
  have h3 := sumB_bulk a.2.2.2.1
  have h4 := bulkH_le a.2.2.2.2
  unfold sessionT sessionN
  omega

set_option maxRecDepth 4000 in
set_option maxHeartbeats 1000000 in
theorem toSession_k (a : SessionD) (us : List Value) (w : World) (h : sessionC.rep w a us) (hl : sessionN a ≤ 1048576) :
    Calls Tryz.prog 70 #[.agg us.toArray] w fun e w' => ∃ vs fp, e = .returned (.agg vs.toArray) ∧ sessionC.own w' w.heap.size a vs fp ∧ Below w.heap.size w w' := by
  obtain ⟨p1, q1, p3, q3, p4, q4, p5, q5, rfl, r1, r3, r4, r5⟩ := session_rep h
  clear h
  have BW : Below w.heap.size w (((w.alloc (.cells #[.slice p1 a.1.length q1, .int .i64 a.2.1, .slice p3 a.2.2.1.length q3, .slice p4 a.2.2.2.1.length q4, .slice p5 a.2.2.2.2.length q5] 86)).alloc (.cells #[.slice none 0 0, .int .i64 0, .slice none 0 0, .slice none 0 0, .slice none 0 0] 53)).alloc (.cells #[.slice none 0 0, .int .i64 0, .slice none 0 0, .slice none 0 0, .slice none 0 0] 53)) := Below.mk (Below.mk (alloc_below _ _) _) _
  have R : Arr (((w.alloc (.cells #[.slice p1 a.1.length q1, .int .i64 a.2.1, .slice p3 a.2.2.1.length q3, .slice p4 a.2.2.2.1.length q4, .slice p5 a.2.2.2.2.length q5] 86)).alloc (.cells #[.slice none 0 0, .int .i64 0, .slice none 0 0, .slice none 0 0, .slice none 0 0] 53)).alloc (.cells #[.slice none 0 0, .int .i64 0, .slice none 0 0, .slice none 0 0, .slice none 0 0] 53)) (w.heap.size + 1) 53 [.slice none 0 0, .int .i64 0, .slice none 0 0, .slice none 0 0, .slice none 0 0] := by
    have h := Arr.new (w.alloc (.cells #[.slice p1 a.1.length q1, .int .i64 a.2.1, .slice p3 a.2.2.1.length q3, .slice p4 a.2.2.2.1.length q4, .slice p5 a.2.2.2.2.length q5] 86)) [.slice none 0 0, .int .i64 0, .slice none 0 0, .slice none 0 0, .slice none 0 0] 53
    rw [size_alloc] at h
    exact h.old _ _
  have A : Arr (((w.alloc (.cells #[.slice p1 a.1.length q1, .int .i64 a.2.1, .slice p3 a.2.2.1.length q3, .slice p4 a.2.2.2.1.length q4, .slice p5 a.2.2.2.2.length q5] 86)).alloc (.cells #[.slice none 0 0, .int .i64 0, .slice none 0 0, .slice none 0 0, .slice none 0 0] 53)).alloc (.cells #[.slice none 0 0, .int .i64 0, .slice none 0 0, .slice none 0 0, .slice none 0 0] 53)) w.heap.size 86 [.slice p1 a.1.length q1, .int .i64 a.2.1, .slice p3 a.2.2.1.length q3, .slice p4 a.2.2.2.1.length q4, .slice p5 a.2.2.2.2.length q5] := Arr.old _ _ (Arr.old _ _ (Arr.new w [.slice p1 a.1.length q1, .int .i64 a.2.1, .slice p3 a.2.2.1.length q3, .slice p4 a.2.2.2.1.length q4, .slice p5 a.2.2.2.2.length q5] 86))
  have O : Arr (((w.alloc (.cells #[.slice p1 a.1.length q1, .int .i64 a.2.1, .slice p3 a.2.2.1.length q3, .slice p4 a.2.2.2.1.length q4, .slice p5 a.2.2.2.2.length q5] 86)).alloc (.cells #[.slice none 0 0, .int .i64 0, .slice none 0 0, .slice none 0 0, .slice none 0 0] 53)).alloc (.cells #[.slice none 0 0, .int .i64 0, .slice none 0 0, .slice none 0 0, .slice none 0 0] 53)) (w.heap.size + 1 + 1) 53 [.slice none 0 0, .int .i64 0, .slice none 0 0, .slice none 0 0, .slice none 0 0] := by
    have h := Arr.new ((w.alloc (.cells #[.slice p1 a.1.length q1, .int .i64 a.2.1, .slice p3 a.2.2.1.length q3, .slice p4 a.2.2.2.1.length q4, .slice p5 a.2.2.2.2.length q5] 86)).alloc (.cells #[.slice none 0 0, .int .i64 0, .slice none 0 0, .slice none 0 0, .slice none 0 0] 53)) [.slice none 0 0, .int .i64 0, .slice none 0 0, .slice none 0 0, .slice none 0 0] 53
    rw [size_alloc, size_alloc] at h
    exact h
  have z0 : Hid ((((w.alloc (.cells #[.slice p1 a.1.length q1, .int .i64 a.2.1, .slice p3 a.2.2.1.length q3, .slice p4 a.2.2.2.1.length q4, .slice p5 a.2.2.2.2.length q5] 86)).alloc (.cells #[.slice none 0 0, .int .i64 0, .slice none 0 0, .slice none 0 0, .slice none 0 0] 53)).alloc (.cells #[.slice none 0 0, .int .i64 0, .slice none 0 0, .slice none 0 0, .slice none 0 0] 53)).heap.size = w.heap.size + 3) := by show _ = _; rw [size_alloc, size_alloc, size_alloc]
  have R1 : Hid (Rd w p1 q1 a.1) := r1
  have R3 : Hid (RdL bytC w p3 q3 a.2.2.1) := r3
  have R4 : Hid (RdL bytC w p4 q4 a.2.2.2.1) := r4
  have R5 : Hid (RdL holdC w p5 q5 a.2.2.2.2) := r5
  clear r1 r3 r4 r5
  have HL : Hid (a.1.length + bulkB a.2.2.1 + bulkB a.2.2.2.1 + sizeH a.2.2.2.2 ≤ 1048576) := hl
  clear hl
  go_enter Tryz.func70, Tryz.ntmps70
  go_wp2_with fail
  refine (toByteS_k a.1 _ _ ⟨p1, q1, rfl, R1.out.keep BW⟩ (by have := HL.out; omega)).mono ?_
  rintro e w1 ⟨v0, fp0, rfl, k0, hb⟩
  rw [z0.out] at k0
  have z1 : Hid (w.heap.size + 3 ≤ w1.heap.size) := by have h := hb.size; rw [z0.out] at h; exact h
  have g0 : Hid (∀ k, k ∈ fp0 → w.heap.size + 3 ≤ k ∧ k < w1.heap.size) := fun k hk => bytC.ins k0 k hk
  replace A := A.stay hb
  replace R := R.stay hb
  replace O := O.stay hb
  replace BW := Below.step BW hb
  obtain ⟨pv1, qv1, e0, -⟩ := bytC.toRep k0
  simp only [List.cons.injEq, and_true] at e0
  subst e0
  have ca0 := (A.cell 0).trans (show _ = some _ from rfl)
  have co0 := (O.cell 0).trans (show _ = some _ from rfl)
  have cr0 := (R.cell 0).trans (show _ = some _ from rfl)
  have ca1 := (A.cell 1).trans (show _ = some _ from rfl)
  have co1 := (O.cell 1).trans (show _ = some _ from rfl)
  have cr1 := (R.cell 1).trans (show _ = some _ from rfl)
  have ca2 := (A.cell 2).trans (show _ = some _ from rfl)
  have co2 := (O.cell 2).trans (show _ = some _ from rfl)
  have cr2 := (R.cell 2).trans (show _ = some _ from rfl)
  have ca3 := (A.cell 3).trans (show _ = some _ from rfl)
  have co3 := (O.cell 3).trans (show _ = some _ from rfl)
  have cr3 := (R.cell 3).trans (show _ = some _ from rfl)
  have ca4 := (A.cell 4).trans (show _ = some _ from rfl)
  have co4 := (O.cell 4).trans (show _ = some _ from rfl)
  have cr4 := (R.cell 4).trans (show _ = some _ from rfl)
  have fo := O.frozen
  have fr := R.frozen
  clear hb
  go_wp2_with fail
  replace A := A.setOther (a := ⟨w.heap.size + 1 + 1, 0, none⟩) (by simp; omega) (.slice pv1 a.1.length qv1)
  replace R := R.setOther (a := ⟨w.heap.size + 1 + 1, 0, none⟩) (by simp) (.slice pv1 a.1.length qv1)
  replace O := O.set 0 (.slice pv1 a.1.length qv1)
  replace BW := BW.setCell (p := ⟨w.heap.size + 1 + 1, 0, none⟩) (by show w.heap.size ≤ w.heap.size + 1 + 1; omega) (.slice pv1 a.1.length qv1)
  replace k0 := bytC.set k0 (p := ⟨w.heap.size + 1 + 1, 0, none⟩) (by show w.heap.size + 1 + 1 < w.heap.size + 3; omega) (.slice pv1 a.1.length qv1)
  replace A := A.setOther (a := ⟨w.heap.size + 1 + 1, 1, none⟩) (by simp; omega) (.int .i64 a.2.1)
  replace R := R.setOther (a := ⟨w.heap.size + 1 + 1, 1, none⟩) (by simp) (.int .i64 a.2.1)
  replace O := O.set 1 (.int .i64 a.2.1)
  replace BW := BW.setCell (p := ⟨w.heap.size + 1 + 1, 1, none⟩) (by show w.heap.size ≤ w.heap.size + 1 + 1; omega) (.int .i64 a.2.1)
  replace k0 := bytC.set k0 (p := ⟨w.heap.size + 1 + 1, 1, none⟩) (by show w.heap.size + 1 + 1 < w.heap.size + 3; omega) (.int .i64 a.2.1)
  simp only [List.set_cons_zero, List.set_cons_succ] at O
  refine (toByteSS_k a.2.2.1 _ _ ⟨p3, q3, rfl, R3.out.keep BW⟩ (by have := HL.out; omega)).mono ?_
  rintro e w2 ⟨v2, fp2, rfl, k2, hb⟩
  simp only [World.size_setCell] at k2
  have z2 : Hid (w1.heap.size ≤ w2.heap.size) := by have h := hb.size; simp only [World.size_setCell] at h; exact h
  have g2 : Hid (∀ k, k ∈ fp2 → w1.heap.size ≤ k ∧ k < w2.heap.size) := fun k hk => blksC.ins k2 k hk
  replace k2 := blksC.low k2 (show w.heap.size + 3 ≤ w1.heap.size by have := z1.out; omega)
  replace A := A.stay hb
  replace R := R.stay hb
  replace O := O.stay hb
  replace BW := Below.step BW hb
  replace k0 := bytC.stay k0 hb
  obtain ⟨pv3, qv3, e2, -⟩ := blksC.toRep k2
  simp only [List.cons.injEq, and_true] at e2
  subst e2
  have ca0 := (A.cell 0).trans (show _ = some _ from rfl)
  have co0 := (O.cell 0).trans (show _ = some _ from rfl)
  have cr0 := (R.cell 0).trans (show _ = some _ from rfl)
  have ca1 := (A.cell 1).trans (show _ = some _ from rfl)
  have co1 := (O.cell 1).trans (show _ = some _ from rfl)
  have cr1 := (R.cell 1).trans (show _ = some _ from rfl)
  have ca2 := (A.cell 2).trans (show _ = some _ from rfl)
  have co2 := (O.cell 2).trans (show _ = some _ from rfl)
  have cr2 := (R.cell 2).trans (show _ = some _ from rfl)
  have ca3 := (A.cell 3).trans (show _ = some _ from rfl)
  have co3 := (O.cell 3).trans (show _ = some _ from rfl)
  have cr3 := (R.cell 3).trans (show _ = some _ from rfl)
  have ca4 := (A.cell 4).trans (show _ = some _ from rfl)
  have co4 := (O.cell 4).trans (show _ = some _ from rfl)
  have cr4 := (R.cell 4).trans (show _ = some _ from rfl)
  have fo := O.frozen
  have fr := R.frozen
  clear hb
  go_wp2_with fail
  replace A := A.setOther (a := ⟨w.heap.size + 1 + 1, 2, none⟩) (by simp; omega) (.slice pv3 a.2.2.1.length qv3)
  replace R := R.setOther (a := ⟨w.heap.size + 1 + 1, 2, none⟩) (by simp) (.slice pv3 a.2.2.1.length qv3)
  replace O := O.set 2 (.slice pv3 a.2.2.1.length qv3)
  replace BW := BW.setCell (p := ⟨w.heap.size + 1 + 1, 2, none⟩) (by show w.heap.size ≤ w.heap.size + 1 + 1; omega) (.slice pv3 a.2.2.1.length qv3)
  replace k0 := bytC.set k0 (p := ⟨w.heap.size + 1 + 1, 2, none⟩) (by show w.heap.size + 1 + 1 < w.heap.size + 3; omega) (.slice pv3 a.2.2.1.length qv3)
  replace k2 := blksC.set k2 (p := ⟨w.heap.size + 1 + 1, 2, none⟩) (by show w.heap.size + 1 + 1 < w.heap.size + 3; omega) (.slice pv3 a.2.2.1.length qv3)
  simp only [List.set_cons_zero, List.set_cons_succ] at O
  refine (toByteSS_k a.2.2.2.1 _ _ ⟨p4, q4, rfl, R4.out.keep BW⟩ (by have := HL.out; omega)).mono ?_
  rintro e w3 ⟨v3, fp3, rfl, k3, hb⟩
  simp only [World.size_setCell] at k3
  have z3 : Hid (w2.heap.size ≤ w3.heap.size) := by have h := hb.size; simp only [World.size_setCell] at h; exact h
  have g3 : Hid (∀ k, k ∈ fp3 → w2.heap.size ≤ k ∧ k < w3.heap.size) := fun k hk => blksC.ins k3 k hk
  replace k3 := blksC.low k3 (show w.heap.size + 3 ≤ w2.heap.size by have := z1.out; have := z2.out; omega)
  replace A := A.stay hb
  replace R := R.stay hb
  replace O := O.stay hb
  replace BW := Below.step BW hb
  replace k0 := bytC.stay k0 hb
  replace k2 := blksC.stay k2 hb
  obtain ⟨pv4, qv4, e3, -⟩ := blksC.toRep k3
  simp only [List.cons.injEq, and_true] at e3
  subst e3
  have ca0 := (A.cell 0).trans (show _ = some _ from rfl)
  have co0 := (O.cell 0).trans (show _ = some _ from rfl)
  have cr0 := (R.cell 0).trans (show _ = some _ from rfl)
  have ca1 := (A.cell 1).trans (show _ = some _ from rfl)
  have co1 := (O.cell 1).trans (show _ = some _ from rfl)
  have cr1 := (R.cell 1).trans (show _ = some _ from rfl)
  have ca2 := (A.cell 2).trans (show _ = some _ from rfl)
  have co2 := (O.cell 2).trans (show _ = some _ from rfl)
  have cr2 := (R.cell 2).trans (show _ = some _ from rfl)
  have ca3 := (A.cell 3).trans (show _ = some _ from rfl)
  have co3 := (O.cell 3).trans (show _ = some _ from rfl)
  have cr3 := (R.cell 3).trans (show _ = some _ from rfl)
  have ca4 := (A.cell 4).trans (show _ = some _ from rfl)
  have co4 := (O.cell 4).trans (show _ = some _ from rfl)
  have cr4 := (R.cell 4).trans (show _ = some _ from rfl)
  have fo := O.frozen
  have fr := R.frozen
  clear hb
  go_wp2_with fail
  replace A := A.setOther (a := ⟨w.heap.size + 1 + 1, 3, none⟩) (by simp; omega) (.slice pv4 a.2.2.2.1.length qv4)
  replace R := R.setOther (a := ⟨w.heap.size + 1 + 1, 3, none⟩) (by simp) (.slice pv4 a.2.2.2.1.length qv4)
  replace O := O.set 3 (.slice pv4 a.2.2.2.1.length qv4)
  replace BW := BW.setCell (p := ⟨w.heap.size + 1 + 1, 3, none⟩) (by show w.heap.size ≤ w.heap.size + 1 + 1; omega) (.slice pv4 a.2.2.2.1.length qv4)
  replace k0 := bytC.set k0 (p := ⟨w.heap.size + 1 + 1, 3, none⟩) (by show w.heap.size + 1 + 1 < w.heap.size + 3; omega) (.slice pv4 a.2.2.2.1.length qv4)
  replace k2 := blksC.set k2 (p := ⟨w.heap.size + 1 + 1, 3, none⟩) (by show w.heap.size + 1 + 1 < w.heap.size + 3; omega) (.slice pv4 a.2.2.2.1.length qv4)
  replace k3 := blksC.set k3 (p := ⟨w.heap.size + 1 + 1, 3, none⟩) (by show w.heap.size + 1 + 1 < w.heap.size + 3; omega) (.slice pv4 a.2.2.2.1.length qv4)
  simp only [List.set_cons_zero, List.set_cons_succ] at O
  refine (toHeldS_k a.2.2.2.2 _ _ ⟨p5, q5, rfl, R5.out.keep BW⟩ (by have := HL.out; omega)).mono ?_
  rintro e w4 ⟨v4, fp4, rfl, k4, hb⟩
  simp only [World.size_setCell] at k4
  have z4 : Hid (w3.heap.size ≤ w4.heap.size) := by have h := hb.size; simp only [World.size_setCell] at h; exact h
  have g4 : Hid (∀ k, k ∈ fp4 → w3.heap.size ≤ k ∧ k < w4.heap.size) := fun k hk => holdsC.ins k4 k hk
  replace k4 := holdsC.low k4 (show w.heap.size + 3 ≤ w3.heap.size by have := z1.out; have := z2.out; have := z3.out; omega)
  replace A := A.stay hb
  replace R := R.stay hb
  replace O := O.stay hb
  replace BW := Below.step BW hb
  replace k0 := bytC.stay k0 hb
  replace k2 := blksC.stay k2 hb
  replace k3 := blksC.stay k3 hb
  obtain ⟨pv5, qv5, e4, -⟩ := holdsC.toRep k4
  simp only [List.cons.injEq, and_true] at e4
  subst e4
  have ca0 := (A.cell 0).trans (show _ = some _ from rfl)
  have co0 := (O.cell 0).trans (show _ = some _ from rfl)
  have cr0 := (R.cell 0).trans (show _ = some _ from rfl)
  have ca1 := (A.cell 1).trans (show _ = some _ from rfl)
  have co1 := (O.cell 1).trans (show _ = some _ from rfl)
  have cr1 := (R.cell 1).trans (show _ = some _ from rfl)
  have ca2 := (A.cell 2).trans (show _ = some _ from rfl)
  have co2 := (O.cell 2).trans (show _ = some _ from rfl)
  have cr2 := (R.cell 2).trans (show _ = some _ from rfl)
  have ca3 := (A.cell 3).trans (show _ = some _ from rfl)
  have co3 := (O.cell 3).trans (show _ = some _ from rfl)
  have cr3 := (R.cell 3).trans (show _ = some _ from rfl)
  have ca4 := (A.cell 4).trans (show _ = some _ from rfl)
  have co4 := (O.cell 4).trans (show _ = some _ from rfl)
  have cr4 := (R.cell 4).trans (show _ = some _ from rfl)
  have fo := O.frozen
  have fr := R.frozen
  clear hb
  go_wp2_with fail
  refine bodyPost_ret (v := .agg #[.slice pv1 a.1.length qv1, .int .i64 a.2.1, .slice pv3 a.2.2.1.length qv3, .slice pv4 a.2.2.2.1.length qv4, .slice pv5 a.2.2.2.2.length qv5]) (by simp [results, Tryz.results70, go_sem, cr0, cr1, cr2, cr3, cr4]) rfl ⟨[.slice pv1 a.1.length qv1, .int .i64 a.2.1, .slice pv3 a.2.2.1.length qv3, .slice pv4 a.2.2.2.1.length qv4, .slice pv5 a.2.2.2.2.length qv5], _, rfl, sessionC.low (own_pair w1.heap.size (bytC.set (bytC.set (bytC.set (bytC.set (bytC.set (bytC.set k0 (show w.heap.size + 1 + 1 < w.heap.size + 3 by omega) _) (show w.heap.size + 1 < w.heap.size + 3 by omega) _) (show w.heap.size + 1 < w.heap.size + 3 by omega) _) (show w.heap.size + 1 < w.heap.size + 3 by omega) _) (show w.heap.size + 1 < w.heap.size + 3 by omega) _) (show w.heap.size + 1 < w.heap.size + 3 by omega) _) (own_pair 0 own_int (own_pair w2.heap.size (blksC.set (blksC.set (blksC.set (blksC.set (blksC.set (blksC.set k2 (show w.heap.size + 1 + 1 < w.heap.size + 3 by omega) _) (show w.heap.size + 1 < w.heap.size + 3 by omega) _) (show w.heap.size + 1 < w.heap.size + 3 by omega) _) (show w.heap.size + 1 < w.heap.size + 3 by omega) _) (show w.heap.size + 1 < w.heap.size + 3 by omega) _) (show w.heap.size + 1 < w.heap.size + 3 by omega) _) (own_pair w3.heap.size (blksC.set (blksC.set (blksC.set (blksC.set (blksC.set (blksC.set k3 (show w.heap.size + 1 + 1 < w.heap.size + 3 by omega) _) (show w.heap.size + 1 < w.heap.size + 3 by omega) _) (show w.heap.size + 1 < w.heap.size + 3 by omega) _) (show w.heap.size + 1 < w.heap.size + 3 by omega) _) (show w.heap.size + 1 < w.heap.size + 3 by omega) _) (show w.heap.size + 1 < w.heap.size + 3 by omega) _) (holdsC.set (holdsC.set (holdsC.set (holdsC.set (holdsC.set (holdsC.set k4 (show w.heap.size + 1 + 1 < w.heap.size + 3 by omega) _) (show w.heap.size + 1 < w.heap.size + 3 by omega) _) (show w.heap.size + 1 < w.heap.size + 3 by omega) _) (show w.heap.size + 1 < w.heap.size + 3 by omega) _) (show w.heap.size + 1 < w.heap.size + 3 by omega) _) (show w.heap.size + 1 < w.heap.size + 3 by omega) _) (fun k hk => (g3.out k hk).2) (fun k hk => Nat.le_trans (by have := z1.out; have := z2.out; have := z3.out; have := z4.out; omega) (g4.out k hk).1)) (fun k hk => (g2.out k hk).2) (ge_app (fun k hk => Nat.le_trans (by have := z1.out; have := z2.out; have := z3.out; have := z4.out; omega) (g3.out k hk).1) (fun k hk => Nat.le_trans (by have := z1.out; have := z2.out; have := z3.out; have := z4.out; omega) (g4.out k hk).1))) lt_nil (fun _ _ => Nat.zero_le _)) (fun k hk => (g0.out k hk).2) (ge_app ge_nil (ge_app (fun k hk => Nat.le_trans (by have := z1.out; have := z2.out; have := z3.out; have := z4.out; omega) (g2.out k hk).1) (ge_app (fun k hk => Nat.le_trans (by have := z1.out; have := z2.out; have := z3.out; have := z4.out; omega) (g3.out k hk).1) (fun k hk => Nat.le_trans (by have := z1.out; have := z2.out; have := z3.out; have := z4.out; omega) (g4.out k hk).1))))) (Nat.le_add_right _ 3), ((((((BW.setCell (show w.heap.size ≤ w.heap.size + 1 + 1 by omega) _).setCell (show w.heap.size ≤ w.heap.size + 1 by omega) _).setCell (show w.heap.size ≤ w.heap.size + 1 by omega) _).setCell (show w.heap.size ≤ w.heap.size + 1 by omega) _).setCell (show w.heap.size ≤ w.heap.size + 1 by omega) _).setCell (show w.heap.size ≤ w.heap.size + 1 by omega) _)⟩

set_option maxRecDepth 4000 in
set_option maxHeartbeats 1000000 in
theorem szSession_k (a : SessionD) (us : List Value) (left : Int) (w : World) (h : sessionC.rep w a us) (h0 : 0 ≤ left) (h1 : left ≤ 1048576) :
    Calls Tryz.prog 64 #[.agg us.toArray, .int .i64 left] w fun e w' => e = .returned (.int .i64 (szR (sessionN a) left)) ∧ Below w.heap.size w w' := by
  obtain ⟨p1, q1, p3, q3, p4, q4, p5, q5, rfl, r1, r3, r4, r5⟩ := session_rep h
  clear h
  have BW := alloc_below w (.cells #[.slice p1 a.1.length q1, .int .i64 a.2.1, .slice p3 a.2.2.1.length q3, .slice p4 a.2.2.2.1.length q4, .slice p5 a.2.2.2.2.length q5] 86)
  have A := Arr.new w [.slice p1 a.1.length q1, .int .i64 a.2.1, .slice p3 a.2.2.1.length q3, .slice p4 a.2.2.2.1.length q4, .slice p5 a.2.2.2.2.length q5] 86
  have R1 : Hid (Rd w p1 q1 a.1) := r1
  have R3 : Hid (RdL bytC w p3 q3 a.2.2.1) := r3
  have R4 : Hid (RdL bytC w p4 q4 a.2.2.2.1) := r4
  have R5 : Hid (RdL holdC w p5 q5 a.2.2.2.2) := r5
  clear r1 r3 r4 r5
  by_cases s0 : ((a.1.length : Nat) : Int) ≤ left
  · by_cases s1 : ((bulkB a.2.2.1 : Nat) : Int) ≤ left - ((a.1.length : Nat) : Int)
    · by_cases s2 : ((bulkB a.2.2.2.1 : Nat) : Int) ≤ left - ((a.1.length : Nat) : Int) - ((bulkB a.2.2.1 : Nat) : Int)
      · by_cases s3 : ((sizeH a.2.2.2.2 : Nat) : Int) ≤ left - ((a.1.length : Nat) : Int) - ((bulkB a.2.2.1 : Nat) : Int) - ((bulkB a.2.2.2.1 : Nat) : Int)
        · go_enter Tryz.func64, Tryz.ntmps64
          go_wp2_with fail
          refine (szByteS_k a.1 _ _ _ ⟨p1, q1, rfl, R1.out.keep BW⟩ (by omega) (by omega)).mono ?_
          rintro e w1 ⟨rfl, hb⟩
          replace A := A.stay hb
          replace BW := Below.step BW hb
          have ca0 := (A.cell 0).trans (show _ = some _ from rfl)
          have ca1 := (A.cell 1).trans (show _ = some _ from rfl)
          have ca2 := (A.cell 2).trans (show _ = some _ from rfl)
          have ca3 := (A.cell 3).trans (show _ = some _ from rfl)
          have ca4 := (A.cell 4).trans (show _ = some _ from rfl)
          clear hb
          rw [szR, if_pos (by omega)]
          go_wp2_with fail
          refine (szByteSS_k a.2.2.1 _ _ _ ⟨p3, q3, rfl, R3.out.keep BW⟩ (by omega) (by omega)).mono ?_
          rintro e w2 ⟨rfl, hb⟩
          replace A := A.stay hb
          replace BW := Below.step BW hb
          have ca0 := (A.cell 0).trans (show _ = some _ from rfl)
          have ca1 := (A.cell 1).trans (show _ = some _ from rfl)
          have ca2 := (A.cell 2).trans (show _ = some _ from rfl)
          have ca3 := (A.cell 3).trans (show _ = some _ from rfl)
          have ca4 := (A.cell 4).trans (show _ = some _ from rfl)
          clear hb
          rw [szR, if_pos (by omega)]
          go_wp2_with fail
          refine (szByteSS_k a.2.2.2.1 _ _ _ ⟨p4, q4, rfl, R4.out.keep BW⟩ (by omega) (by omega)).mono ?_
          rintro e w3 ⟨rfl, hb⟩
          replace A := A.stay hb
          replace BW := Below.step BW hb
          have ca0 := (A.cell 0).trans (show _ = some _ from rfl)
          have ca1 := (A.cell 1).trans (show _ = some _ from rfl)
          have ca2 := (A.cell 2).trans (show _ = some _ from rfl)
          have ca3 := (A.cell 3).trans (show _ = some _ from rfl)
          have ca4 := (A.cell 4).trans (show _ = some _ from rfl)
          clear hb
          rw [szR, if_pos (by omega)]
          go_wp2_with fail
          refine (szHeldS_k a.2.2.2.2 _ _ _ ⟨p5, q5, rfl, R5.out.keep BW⟩ (by omega) (by omega)).mono ?_
          rintro e w4 ⟨rfl, hb⟩
          replace A := A.stay hb
          replace BW := Below.step BW hb
          have ca0 := (A.cell 0).trans (show _ = some _ from rfl)
          have ca1 := (A.cell 1).trans (show _ = some _ from rfl)
          have ca2 := (A.cell 2).trans (show _ = some _ from rfl)
          have ca3 := (A.cell 3).trans (show _ = some _ from rfl)
          have ca4 := (A.cell 4).trans (show _ = some _ from rfl)
          clear hb
          rw [szR, if_pos (by omega)]
          have hne : ¬ (left - (a.1.length : Int) - (bulkB a.2.2.1 : Int) - (bulkB a.2.2.2.1 : Int) - (sizeH a.2.2.2.2 : Int) < 0) := by omega
          have hE : Hid (szR (sessionN a) left = left - (a.1.length : Int) - (bulkB a.2.2.1 : Int) - (bulkB a.2.2.2.1 : Int) - (sizeH a.2.2.2.2 : Int)) := by show _ = _; unfold sessionN; rw [szR, if_pos (by omega)] <;> omega
          go_wp2
          go_ret
          exact ⟨by rw [hE.out]; rfl, BW⟩
        · go_enter Tryz.func64, Tryz.ntmps64
          go_wp2_with fail
          refine (szByteS_k a.1 _ _ _ ⟨p1, q1, rfl, R1.out.keep BW⟩ (by omega) (by omega)).mono ?_
          rintro e w1 ⟨rfl, hb⟩
          replace A := A.stay hb
          replace BW := Below.step BW hb
          have ca0 := (A.cell 0).trans (show _ = some _ from rfl)
          have ca1 := (A.cell 1).trans (show _ = some _ from rfl)
          have ca2 := (A.cell 2).trans (show _ = some _ from rfl)
          have ca3 := (A.cell 3).trans (show _ = some _ from rfl)
          have ca4 := (A.cell 4).trans (show _ = some _ from rfl)
          clear hb
          rw [szR, if_pos (by omega)]
          go_wp2_with fail
          refine (szByteSS_k a.2.2.1 _ _ _ ⟨p3, q3, rfl, R3.out.keep BW⟩ (by omega) (by omega)).mono ?_
          rintro e w2 ⟨rfl, hb⟩
          replace A := A.stay hb
          replace BW := Below.step BW hb
          have ca0 := (A.cell 0).trans (show _ = some _ from rfl)
          have ca1 := (A.cell 1).trans (show _ = some _ from rfl)
          have ca2 := (A.cell 2).trans (show _ = some _ from rfl)
          have ca3 := (A.cell 3).trans (show _ = some _ from rfl)
          have ca4 := (A.cell 4).trans (show _ = some _ from rfl)
          clear hb
          rw [szR, if_pos (by omega)]
          go_wp2_with fail
          refine (szByteSS_k a.2.2.2.1 _ _ _ ⟨p4, q4, rfl, R4.out.keep BW⟩ (by omega) (by omega)).mono ?_
          rintro e w3 ⟨rfl, hb⟩
          replace A := A.stay hb
          replace BW := Below.step BW hb
          have ca0 := (A.cell 0).trans (show _ = some _ from rfl)
          have ca1 := (A.cell 1).trans (show _ = some _ from rfl)
          have ca2 := (A.cell 2).trans (show _ = some _ from rfl)
          have ca3 := (A.cell 3).trans (show _ = some _ from rfl)
          have ca4 := (A.cell 4).trans (show _ = some _ from rfl)
          clear hb
          rw [szR, if_pos (by omega)]
          go_wp2_with fail
          refine (szHeldS_k a.2.2.2.2 _ _ _ ⟨p5, q5, rfl, R5.out.keep BW⟩ (by omega) (by omega)).mono ?_
          rintro e w4 ⟨rfl, hb⟩
          replace A := A.stay hb
          replace BW := Below.step BW hb
          have ca0 := (A.cell 0).trans (show _ = some _ from rfl)
          have ca1 := (A.cell 1).trans (show _ = some _ from rfl)
          have ca2 := (A.cell 2).trans (show _ = some _ from rfl)
          have ca3 := (A.cell 3).trans (show _ = some _ from rfl)
          have ca4 := (A.cell 4).trans (show _ = some _ from rfl)
          clear hb
          rw [szR, if_neg (by omega)]
          go_wp2
          go_ret
          exact ⟨by unfold sessionN; rw [szR, if_neg (by omega)] <;> rfl, BW⟩
      · go_enter Tryz.func64, Tryz.ntmps64
        go_wp2_with fail
        refine (szByteS_k a.1 _ _ _ ⟨p1, q1, rfl, R1.out.keep BW⟩ (by omega) (by omega)).mono ?_
        rintro e w1 ⟨rfl, hb⟩
        replace A := A.stay hb
        replace BW := Below.step BW hb
        have ca0 := (A.cell 0).trans (show _ = some _ from rfl)
        have ca1 := (A.cell 1).trans (show _ = some _ from rfl)
        have ca2 := (A.cell 2).trans (show _ = some _ from rfl)
        have ca3 := (A.cell 3).trans (show _ = some _ from rfl)
        have ca4 := (A.cell 4).trans (show _ = some _ from rfl)
        clear hb
        rw [szR, if_pos (by omega)]
        go_wp2_with fail
        refine (szByteSS_k a.2.2.1 _ _ _ ⟨p3, q3, rfl, R3.out.keep BW⟩ (by omega) (by omega)).mono ?_
        rintro e w2 ⟨rfl, hb⟩
        replace A := A.stay hb
        replace BW := Below.step BW hb
        have ca0 := (A.cell 0).trans (show _ = some _ from rfl)
        have ca1 := (A.cell 1).trans (show _ = some _ from rfl)
        have ca2 := (A.cell 2).trans (show _ = some _ from rfl)
        have ca3 := (A.cell 3).trans (show _ = some _ from rfl)
        have ca4 := (A.cell 4).trans (show _ = some _ from rfl)
        clear hb
        rw [szR, if_pos (by omega)]
        go_wp2_with fail
        refine (szByteSS_k a.2.2.2.1 _ _ _ ⟨p4, q4, rfl, R4.out.keep BW⟩ (by omega) (by omega)).mono ?_
        rintro e w3 ⟨rfl, hb⟩
        replace A := A.stay hb
        replace BW := Below.step BW hb
        have ca0 := (A.cell 0).trans (show _ = some _ from rfl)
        have ca1 := (A.cell 1).trans (show _ = some _ from rfl)
        have ca2 := (A.cell 2).trans (show _ = some _ from rfl)
        have ca3 := (A.cell 3).trans (show _ = some _ from rfl)
        have ca4 := (A.cell 4).trans (show _ = some _ from rfl)
        clear hb
        rw [szR, if_neg (by omega)]
        go_wp2
        go_ret
        exact ⟨by unfold sessionN; rw [szR, if_neg (by omega)] <;> rfl, BW⟩
    · go_enter Tryz.func64, Tryz.ntmps64
      go_wp2_with fail
      refine (szByteS_k a.1 _ _ _ ⟨p1, q1, rfl, R1.out.keep BW⟩ (by omega) (by omega)).mono ?_
      rintro e w1 ⟨rfl, hb⟩
      replace A := A.stay hb
      replace BW := Below.step BW hb
      have ca0 := (A.cell 0).trans (show _ = some _ from rfl)
      have ca1 := (A.cell 1).trans (show _ = some _ from rfl)
      have ca2 := (A.cell 2).trans (show _ = some _ from rfl)
      have ca3 := (A.cell 3).trans (show _ = some _ from rfl)
      have ca4 := (A.cell 4).trans (show _ = some _ from rfl)
      clear hb
      rw [szR, if_pos (by omega)]
      go_wp2_with fail
      refine (szByteSS_k a.2.2.1 _ _ _ ⟨p3, q3, rfl, R3.out.keep BW⟩ (by omega) (by omega)).mono ?_
      rintro e w2 ⟨rfl, hb⟩
      replace A := A.stay hb
      replace BW := Below.step BW hb
      have ca0 := (A.cell 0).trans (show _ = some _ from rfl)
      have ca1 := (A.cell 1).trans (show _ = some _ from rfl)
      have ca2 := (A.cell 2).trans (show _ = some _ from rfl)
      have ca3 := (A.cell 3).trans (show _ = some _ from rfl)
      have ca4 := (A.cell 4).trans (show _ = some _ from rfl)
      clear hb
      rw [szR, if_neg (by omega)]
      go_wp2
      go_ret
      exact ⟨by unfold sessionN; rw [szR, if_neg (by omega)] <;> rfl, BW⟩
  · go_enter Tryz.func64, Tryz.ntmps64
    go_wp2_with fail
    refine (szByteS_k a.1 _ _ _ ⟨p1, q1, rfl, R1.out.keep BW⟩ (by omega) (by omega)).mono ?_
    rintro e w1 ⟨rfl, hb⟩
    replace A := A.stay hb
    replace BW := Below.step BW hb
    have ca0 := (A.cell 0).trans (show _ = some _ from rfl)
    have ca1 := (A.cell 1).trans (show _ = some _ from rfl)
    have ca2 := (A.cell 2).trans (show _ = some _ from rfl)
    have ca3 := (A.cell 3).trans (show _ = some _ from rfl)
    have ca4 := (A.cell 4).trans (show _ = some _ from rfl)
    clear hb
    rw [szR, if_neg (by omega)]
    go_wp2
    go_ret
    exact ⟨by unfold sessionN; rw [szR, if_neg (by omega)] <;> rfl, BW⟩

set_option maxRecDepth 4000 in
set_option maxHeartbeats 1000000 in
theorem eqSession_k (a : SessionD) (us vs : List Value) (w : World) (h1 : sessionC.rep w a us) (h2 : sessionC.rep w a vs) :
    Calls Tryz.prog 80 #[.agg us.toArray, .agg vs.toArray] w fun e w' => e = .returned (.bool true) ∧ Below w.heap.size w w' := by
  obtain ⟨p1, q1, p3, q3, p4, q4, p5, q5, rfl, r1, r3, r4, r5⟩ := session_rep h1
  obtain ⟨pb1, qb1, pb3, qb3, pb4, qb4, pb5, qb5, rfl, rb1, rb3, rb4, rb5⟩ := session_rep h2
  clear h1 h2
  have BW : Below w.heap.size w ((w.alloc (.cells #[.slice p1 a.1.length q1, .int .i64 a.2.1, .slice p3 a.2.2.1.length q3, .slice p4 a.2.2.2.1.length q4, .slice p5 a.2.2.2.2.length q5] 53)).alloc (.cells #[.slice pb1 a.1.length qb1, .int .i64 a.2.1, .slice pb3 a.2.2.1.length qb3, .slice pb4 a.2.2.2.1.length qb4, .slice pb5 a.2.2.2.2.length qb5] 53)) := Below.mk (alloc_below _ _) _
  have A : Arr ((w.alloc (.cells #[.slice p1 a.1.length q1, .int .i64 a.2.1, .slice p3 a.2.2.1.length q3, .slice p4 a.2.2.2.1.length q4, .slice p5 a.2.2.2.2.length q5] 53)).alloc (.cells #[.slice pb1 a.1.length qb1, .int .i64 a.2.1, .slice pb3 a.2.2.1.length qb3, .slice pb4 a.2.2.2.1.length qb4, .slice pb5 a.2.2.2.2.length qb5] 53)) w.heap.size 53 [.slice p1 a.1.length q1, .int .i64 a.2.1, .slice p3 a.2.2.1.length q3, .slice p4 a.2.2.2.1.length q4, .slice p5 a.2.2.2.2.length q5] := (Arr.new w [.slice p1 a.1.length q1, .int .i64 a.2.1, .slice p3 a.2.2.1.length q3, .slice p4 a.2.2.2.1.length q4, .slice p5 a.2.2.2.2.length q5] 53).old _ _
  have B : Arr ((w.alloc (.cells #[.slice p1 a.1.length q1, .int .i64 a.2.1, .slice p3 a.2.2.1.length q3, .slice p4 a.2.2.2.1.length q4, .slice p5 a.2.2.2.2.length q5] 53)).alloc (.cells #[.slice pb1 a.1.length qb1, .int .i64 a.2.1, .slice pb3 a.2.2.1.length qb3, .slice pb4 a.2.2.2.1.length qb4, .slice pb5 a.2.2.2.2.length qb5] 53)) (w.heap.size + 1) 53 [.slice pb1 a.1.length qb1, .int .i64 a.2.1, .slice pb3 a.2.2.1.length qb3, .slice pb4 a.2.2.2.1.length qb4, .slice pb5 a.2.2.2.2.length qb5] := by
    have h := Arr.new (w.alloc (.cells #[.slice p1 a.1.length q1, .int .i64 a.2.1, .slice p3 a.2.2.1.length q3, .slice p4 a.2.2.2.1.length q4, .slice p5 a.2.2.2.2.length q5] 53)) [.slice pb1 a.1.length qb1, .int .i64 a.2.1, .slice pb3 a.2.2.1.length qb3, .slice pb4 a.2.2.2.1.length qb4, .slice pb5 a.2.2.2.2.length qb5] 53
    rw [size_alloc] at h
    exact h
  replace r1 := r1.keep BW
  replace rb1 := rb1.keep BW
  replace r3 := r3.keep BW
  replace rb3 := rb3.keep BW
  replace r4 := r4.keep BW
  replace rb4 := rb4.keep BW
  replace r5 := r5.keep BW
  replace rb5 := rb5.keep BW
  go_enter Tryz.func80, Tryz.ntmps80
  go_wp2_with fail
  refine (eqByteS_c p1 pb1 q1 qb1 a.1 _ r1 rb1).mono ?_
  rintro e w1 ⟨rfl, hb⟩
  replace A := A.stay hb
  replace B := B.stay hb
  replace BW := Below.step BW hb
  replace r1 := r1.keep hb
  replace rb1 := rb1.keep hb
  replace r3 := r3.keep hb
  replace rb3 := rb3.keep hb
  replace r4 := r4.keep hb
  replace rb4 := rb4.keep hb
  replace r5 := r5.keep hb
  replace rb5 := rb5.keep hb
  have ca0 := A.cell 0
  have cb0 := B.cell 0
  have ca1 := A.cell 1
  have cb1 := B.cell 1
  have ca2 := A.cell 2
  have cb2 := B.cell 2
  have ca3 := A.cell 3
  have cb3 := B.cell 3
  have ca4 := A.cell 4
  have cb4 := B.cell 4
  simp at ca0 cb0 ca1 cb1 ca2 cb2 ca3 cb3 ca4 cb4
  clear hb
  go_wp2_with fail
  refine (eqByteSS_c a.2.2.1 p3 pb3 q3 qb3 _ r3 rb3).mono ?_
  rintro e w2 ⟨rfl, hb⟩
  replace A := A.stay hb
  replace B := B.stay hb
  replace BW := Below.step BW hb
  replace r1 := r1.keep hb
  replace rb1 := rb1.keep hb
  replace r3 := r3.keep hb
  replace rb3 := rb3.keep hb
  replace r4 := r4.keep hb
  replace rb4 := rb4.keep hb
  replace r5 := r5.keep hb
  replace rb5 := rb5.keep hb
  have ca0 := A.cell 0
  have cb0 := B.cell 0
  have ca1 := A.cell 1
  have cb1 := B.cell 1
  have ca2 := A.cell 2
  have cb2 := B.cell 2
  have ca3 := A.cell 3
  have cb3 := B.cell 3
  have ca4 := A.cell 4
  have cb4 := B.cell 4
  simp at ca0 cb0 ca1 cb1 ca2 cb2 ca3 cb3 ca4 cb4
  clear hb
  go_wp2_with fail
  refine (eqByteSS_c a.2.2.2.1 p4 pb4 q4 qb4 _ r4 rb4).mono ?_
  rintro e w3 ⟨rfl, hb⟩
  replace A := A.stay hb
  replace B := B.stay hb
  replace BW := Below.step BW hb
  replace r1 := r1.keep hb
  replace rb1 := rb1.keep hb
  replace r3 := r3.keep hb
  replace rb3 := rb3.keep hb
  replace r4 := r4.keep hb
  replace rb4 := rb4.keep hb
  replace r5 := r5.keep hb
  replace rb5 := rb5.keep hb
  have ca0 := A.cell 0
  have cb0 := B.cell 0
  have ca1 := A.cell 1
  have cb1 := B.cell 1
  have ca2 := A.cell 2
  have cb2 := B.cell 2
  have ca3 := A.cell 3
  have cb3 := B.cell 3
  have ca4 := A.cell 4
  have cb4 := B.cell 4
  simp at ca0 cb0 ca1 cb1 ca2 cb2 ca3 cb3 ca4 cb4
  clear hb
  go_wp2_with fail
  refine (eqHeldS_c a.2.2.2.2 p5 pb5 q5 qb5 _ r5 rb5).mono ?_
  rintro e w4 ⟨rfl, hb⟩
  replace A := A.stay hb
  replace B := B.stay hb
  replace BW := Below.step BW hb
  replace r1 := r1.keep hb
  replace rb1 := rb1.keep hb
  replace r3 := r3.keep hb
  replace rb3 := rb3.keep hb
  replace r4 := r4.keep hb
  replace rb4 := rb4.keep hb
  replace r5 := r5.keep hb
  replace rb5 := rb5.keep hb
  have ca0 := A.cell 0
  have cb0 := B.cell 0
  have ca1 := A.cell 1
  have cb1 := B.cell 1
  have ca2 := A.cell 2
  have cb2 := B.cell 2
  have ca3 := A.cell 3
  have cb3 := B.cell 3
  have ca4 := A.cell 4
  have cb4 := B.cell 4
  simp at ca0 cb0 ca1 cb1 ca2 cb2 ca3 cb3 ca4 cb4
  clear hb
  go_wp2
  go_ret
  exact ⟨rfl, BW⟩



end Go.Proofs.YthiabbgkfmopiaaGreat

