/- How Link lies in memory, and the contracts of the laws' helpers on it (written by tools/codgen.py). -/
import Derived.Test.YthiabbgkfmopiaaGreatJoint8
import Derived.Test.YthiabbgkfmopiaaGreatSessionC
namespace Go.Proofs.YthiabbgkfmopiaaGreat
open Go.ChangeShapes Go.WideShapes Go.ChangeAt Go.RowKit

abbrev LinkD := Int × Int × SessionD × SessionD
def linkC : Cod LinkD := prodC (intC .i64) (prodC (intC .i64) (prodC sessionC sessionC))
theorem link_rep {w : World} {a : LinkD} {vs : List Value} (h : linkC.rep w a vs) : ∃ p3_1 q3_1 p3_3 q3_3 p3_4 q3_4 p3_5 q3_5 p4_1 q4_1 p4_3 q4_3 p4_4 q4_4 p4_5 q4_5, vs = [.int .i64 a.1, .int .i64 a.2.1, .slice p3_1 a.2.2.1.1.length q3_1, .int .i64 a.2.2.1.2.1, .slice p3_3 a.2.2.1.2.2.1.length q3_3, .slice p3_4 a.2.2.1.2.2.2.1.length q3_4, .slice p3_5 a.2.2.1.2.2.2.2.length q3_5, .slice p4_1 a.2.2.2.1.length q4_1, .int .i64 a.2.2.2.2.1, .slice p4_3 a.2.2.2.2.2.1.length q4_3, .slice p4_4 a.2.2.2.2.2.2.1.length q4_4, .slice p4_5 a.2.2.2.2.2.2.2.length q4_5] ∧ Rd w p3_1 q3_1 a.2.2.1.1 ∧ RdL bytC w p3_3 q3_3 a.2.2.1.2.2.1 ∧ RdL bytC w p3_4 q3_4 a.2.2.1.2.2.2.1 ∧ RdL holdC w p3_5 q3_5 a.2.2.1.2.2.2.2 ∧ Rd w p4_1 q4_1 a.2.2.2.1 ∧ RdL bytC w p4_3 q4_3 a.2.2.2.2.2.1 ∧ RdL bytC w p4_4 q4_4 a.2.2.2.2.2.2.1 ∧ RdL holdC w p4_5 q4_5 a.2.2.2.2.2.2.2 := by
  obtain ⟨us0, ts0, rfl, h0, us1, ts1, rfl, h1, us2, ts2, rfl, h2, h3⟩ := h
  have e0 : us0 = [Value.int .i64 _] := h0
  subst e0
  have e1 : us1 = [Value.int .i64 _] := h1
  subst e1
  obtain ⟨p3_1, q3_1, p3_3, q3_3, p3_4, q3_4, p3_5, q3_5, rfl, r3_1, r3_3, r3_4, r3_5⟩ := session_rep h2
  obtain ⟨p4_1, q4_1, p4_3, q4_3, p4_4, q4_4, p4_5, q4_5, rfl, r4_1, r4_3, r4_4, r4_5⟩ := session_rep h3
  exact ⟨p3_1, q3_1, p3_3, q3_3, p3_4, q3_4, p3_5, q3_5, p4_1, q4_1, p4_3, q4_3, p4_4, q4_4, p4_5, q4_5, rfl, r3_1, r3_3, r3_4, r3_5, r4_1, r4_3, r4_4, r4_5⟩
theorem link_mk {w : World} {a : LinkD} {p3_1 : Option Addr} {q3_1 : Nat} {p3_3 : Option Addr} {q3_3 : Nat} {p3_4 : Option Addr} {q3_4 : Nat} {p3_5 : Option Addr} {q3_5 : Nat} {p4_1 : Option Addr} {q4_1 : Nat} {p4_3 : Option Addr} {q4_3 : Nat} {p4_4 : Option Addr} {q4_4 : Nat} {p4_5 : Option Addr} {q4_5 : Nat} (r3_1 : Rd w p3_1 q3_1 a.2.2.1.1) (r3_3 : RdL bytC w p3_3 q3_3 a.2.2.1.2.2.1) (r3_4 : RdL bytC w p3_4 q3_4 a.2.2.1.2.2.2.1) (r3_5 : RdL holdC w p3_5 q3_5 a.2.2.1.2.2.2.2) (r4_1 : Rd w p4_1 q4_1 a.2.2.2.1) (r4_3 : RdL bytC w p4_3 q4_3 a.2.2.2.2.2.1) (r4_4 : RdL bytC w p4_4 q4_4 a.2.2.2.2.2.2.1) (r4_5 : RdL holdC w p4_5 q4_5 a.2.2.2.2.2.2.2) : linkC.rep w a [.int .i64 a.1, .int .i64 a.2.1, .slice p3_1 a.2.2.1.1.length q3_1, .int .i64 a.2.2.1.2.1, .slice p3_3 a.2.2.1.2.2.1.length q3_3, .slice p3_4 a.2.2.1.2.2.2.1.length q3_4, .slice p3_5 a.2.2.1.2.2.2.2.length q3_5, .slice p4_1 a.2.2.2.1.length q4_1, .int .i64 a.2.2.2.2.1, .slice p4_3 a.2.2.2.2.2.1.length q4_3, .slice p4_4 a.2.2.2.2.2.2.1.length q4_4, .slice p4_5 a.2.2.2.2.2.2.2.length q4_5] := ⟨[.int .i64 a.1], _, rfl, rfl, ⟨[.int .i64 a.2.1], _, rfl, rfl, ⟨[.slice p3_1 a.2.2.1.1.length q3_1, .int .i64 a.2.2.1.2.1, .slice p3_3 a.2.2.1.2.2.1.length q3_3, .slice p3_4 a.2.2.1.2.2.2.1.length q3_4, .slice p3_5 a.2.2.1.2.2.2.2.length q3_5], _, rfl, (session_mk r3_1 r3_3 r3_4 r3_5), (session_mk r4_1 r4_3 r4_4 r4_5)⟩⟩⟩
def linkT (a : LinkD) : Nat := sessionT a.2.2.1 + sessionT a.2.2.2
def linkM (a : LinkD) (m : Nat) : LinkD := (a.1, a.2.1, sessionM a.2.2.1 m, sessionM a.2.2.2 (m + sessionT a.2.2.1))

def linkN (a : LinkD) : Nat := sessionN a.2.2.1 + sessionN a.2.2.2
theorem linkT_le (a : LinkD) : linkT a ≤ 8 * linkN a := by
  have h2 := sessionT_le a.2.2.1
  have h3 := sessionT_le a.2.2.2
  unfold linkT linkN
  omega

set_option maxRecDepth 4000 in
set_option maxHeartbeats 1000000 in
theorem toLink_k (a : LinkD) (us : List Value) (w : World) (h : linkC.rep w a us) (hl : linkN a ≤ 1048576) :
    Calls Tryz.prog 48 #[.agg us.toArray] w fun e w' => ∃ vs fp, e = .returned (.agg vs.toArray) ∧ linkC.own w' w.heap.size a vs fp ∧ Below w.heap.size w w' := by
  obtain ⟨p3_1, q3_1, p3_3, q3_3, p3_4, q3_4, p3_5, q3_5, p4_1, q4_1, p4_3, q4_3, p4_4, q4_4, p4_5, q4_5, rfl, r3_1, r3_3, r3_4, r3_5, r4_1, r4_3, r4_4, r4_5⟩ := link_rep h
  clear h
  have BW : Below w.heap.size w (((w.alloc (.cells #[.int .i64 a.1, .int .i64 a.2.1, .slice p3_1 a.2.2.1.1.length q3_1, .int .i64 a.2.2.1.2.1, .slice p3_3 a.2.2.1.2.2.1.length q3_3, .slice p3_4 a.2.2.1.2.2.2.1.length q3_4, .slice p3_5 a.2.2.1.2.2.2.2.length q3_5, .slice p4_1 a.2.2.2.1.length q4_1, .int .i64 a.2.2.2.2.1, .slice p4_3 a.2.2.2.2.2.1.length q4_3, .slice p4_4 a.2.2.2.2.2.2.1.length q4_4, .slice p4_5 a.2.2.2.2.2.2.2.length q4_5] 88)).alloc (.cells #[.int .i64 0, .int .i64 0, .slice none 0 0, .int .i64 0, .slice none 0 0, .slice none 0 0, .slice none 0 0, .slice none 0 0, .int .i64 0, .slice none 0 0, .slice none 0 0, .slice none 0 0] 57)).alloc (.cells #[.int .i64 a.1, .int .i64 a.2.1, .slice none 0 0, .int .i64 0, .slice none 0 0, .slice none 0 0, .slice none 0 0, .slice none 0 0, .int .i64 0, .slice none 0 0, .slice none 0 0, .slice none 0 0] 57)) := Below.mk (Below.mk (alloc_below _ _) _) _
  have R : Arr (((w.alloc (.cells #[.int .i64 a.1, .int .i64 a.2.1, .slice p3_1 a.2.2.1.1.length q3_1, .int .i64 a.2.2.1.2.1, .slice p3_3 a.2.2.1.2.2.1.length q3_3, .slice p3_4 a.2.2.1.2.2.2.1.length q3_4, .slice p3_5 a.2.2.1.2.2.2.2.length q3_5, .slice p4_1 a.2.2.2.1.length q4_1, .int .i64 a.2.2.2.2.1, .slice p4_3 a.2.2.2.2.2.1.length q4_3, .slice p4_4 a.2.2.2.2.2.2.1.length q4_4, .slice p4_5 a.2.2.2.2.2.2.2.length q4_5] 88)).alloc (.cells #[.int .i64 0, .int .i64 0, .slice none 0 0, .int .i64 0, .slice none 0 0, .slice none 0 0, .slice none 0 0, .slice none 0 0, .int .i64 0, .slice none 0 0, .slice none 0 0, .slice none 0 0] 57)).alloc (.cells #[.int .i64 a.1, .int .i64 a.2.1, .slice none 0 0, .int .i64 0, .slice none 0 0, .slice none 0 0, .slice none 0 0, .slice none 0 0, .int .i64 0, .slice none 0 0, .slice none 0 0, .slice none 0 0] 57)) (w.heap.size + 1) 57 [.int .i64 0, .int .i64 0, .slice none 0 0, .int .i64 0, .slice none 0 0, .slice none 0 0, .slice none 0 0, .slice none 0 0, .int .i64 0, .slice none 0 0, .slice none 0 0, .slice none 0 0] := by
    have h := Arr.new (w.alloc (.cells #[.int .i64 a.1, .int .i64 a.2.1, .slice p3_1 a.2.2.1.1.length q3_1, .int .i64 a.2.2.1.2.1, .slice p3_3 a.2.2.1.2.2.1.length q3_3, .slice p3_4 a.2.2.1.2.2.2.1.length q3_4, .slice p3_5 a.2.2.1.2.2.2.2.length q3_5, .slice p4_1 a.2.2.2.1.length q4_1, .int .i64 a.2.2.2.2.1, .slice p4_3 a.2.2.2.2.2.1.length q4_3, .slice p4_4 a.2.2.2.2.2.2.1.length q4_4, .slice p4_5 a.2.2.2.2.2.2.2.length q4_5] 88)) [.int .i64 0, .int .i64 0, .slice none 0 0, .int .i64 0, .slice none 0 0, .slice none 0 0, .slice none 0 0, .slice none 0 0, .int .i64 0, .slice none 0 0, .slice none 0 0, .slice none 0 0] 57
    rw [size_alloc] at h
    exact h.old _ _
  have A : Arr (((w.alloc (.cells #[.int .i64 a.1, .int .i64 a.2.1, .slice p3_1 a.2.2.1.1.length q3_1, .int .i64 a.2.2.1.2.1, .slice p3_3 a.2.2.1.2.2.1.length q3_3, .slice p3_4 a.2.2.1.2.2.2.1.length q3_4, .slice p3_5 a.2.2.1.2.2.2.2.length q3_5, .slice p4_1 a.2.2.2.1.length q4_1, .int .i64 a.2.2.2.2.1, .slice p4_3 a.2.2.2.2.2.1.length q4_3, .slice p4_4 a.2.2.2.2.2.2.1.length q4_4, .slice p4_5 a.2.2.2.2.2.2.2.length q4_5] 88)).alloc (.cells #[.int .i64 0, .int .i64 0, .slice none 0 0, .int .i64 0, .slice none 0 0, .slice none 0 0, .slice none 0 0, .slice none 0 0, .int .i64 0, .slice none 0 0, .slice none 0 0, .slice none 0 0] 57)).alloc (.cells #[.int .i64 a.1, .int .i64 a.2.1, .slice none 0 0, .int .i64 0, .slice none 0 0, .slice none 0 0, .slice none 0 0, .slice none 0 0, .int .i64 0, .slice none 0 0, .slice none 0 0, .slice none 0 0] 57)) w.heap.size 88 [.int .i64 a.1, .int .i64 a.2.1, .slice p3_1 a.2.2.1.1.length q3_1, .int .i64 a.2.2.1.2.1, .slice p3_3 a.2.2.1.2.2.1.length q3_3, .slice p3_4 a.2.2.1.2.2.2.1.length q3_4, .slice p3_5 a.2.2.1.2.2.2.2.length q3_5, .slice p4_1 a.2.2.2.1.length q4_1, .int .i64 a.2.2.2.2.1, .slice p4_3 a.2.2.2.2.2.1.length q4_3, .slice p4_4 a.2.2.2.2.2.2.1.length q4_4, .slice p4_5 a.2.2.2.2.2.2.2.length q4_5] := Arr.old _ _ (Arr.old _ _ (Arr.new w [.int .i64 a.1, .int .i64 a.2.1, .slice p3_1 a.2.2.1.1.length q3_1, .int .i64 a.2.2.1.2.1, .slice p3_3 a.2.2.1.2.2.1.length q3_3, .slice p3_4 a.2.2.1.2.2.2.1.length q3_4, .slice p3_5 a.2.2.1.2.2.2.2.length q3_5, .slice p4_1 a.2.2.2.1.length q4_1, .int .i64 a.2.2.2.2.1, .slice p4_3 a.2.2.2.2.2.1.length q4_3, .slice p4_4 a.2.2.2.2.2.2.1.length q4_4, .slice p4_5 a.2.2.2.2.2.2.2.length q4_5] 88))
  have O : Arr (((w.alloc (.cells #[.int .i64 a.1, .int .i64 a.2.1, .slice p3_1 a.2.2.1.1.length q3_1, .int .i64 a.2.2.1.2.1, .slice p3_3 a.2.2.1.2.2.1.length q3_3, .slice p3_4 a.2.2.1.2.2.2.1.length q3_4, .slice p3_5 a.2.2.1.2.2.2.2.length q3_5, .slice p4_1 a.2.2.2.1.length q4_1, .int .i64 a.2.2.2.2.1, .slice p4_3 a.2.2.2.2.2.1.length q4_3, .slice p4_4 a.2.2.2.2.2.2.1.length q4_4, .slice p4_5 a.2.2.2.2.2.2.2.length q4_5] 88)).alloc (.cells #[.int .i64 0, .int .i64 0, .slice none 0 0, .int .i64 0, .slice none 0 0, .slice none 0 0, .slice none 0 0, .slice none 0 0, .int .i64 0, .slice none 0 0, .slice none 0 0, .slice none 0 0] 57)).alloc (.cells #[.int .i64 a.1, .int .i64 a.2.1, .slice none 0 0, .int .i64 0, .slice none 0 0, .slice none 0 0, .slice none 0 0, .slice none 0 0, .int .i64 0, .slice none 0 0, .slice none 0 0, .slice none 0 0] 57)) (w.heap.size + 1 + 1) 57 [.int .i64 a.1, .int .i64 a.2.1, .slice none 0 0, .int .i64 0, .slice none 0 0, .slice none 0 0, .slice none 0 0, .slice none 0 0, .int .i64 0, .slice none 0 0, .slice none 0 0, .slice none 0 0] := by
    have h := Arr.new ((w.alloc (.cells #[.int .i64 a.1, .int .i64 a.2.1, .slice p3_1 a.2.2.1.1.length q3_1, .int .i64 a.2.2.1.2.1, .slice p3_3 a.2.2.1.2.2.1.length q3_3, .slice p3_4 a.2.2.1.2.2.2.1.length q3_4, .slice p3_5 a.2.2.1.2.2.2.2.length q3_5, .slice p4_1 a.2.2.2.1.length q4_1, .int .i64 a.2.2.2.2.1, .slice p4_3 a.2.2.2.2.2.1.length q4_3, .slice p4_4 a.2.2.2.2.2.2.1.length q4_4, .slice p4_5 a.2.2.2.2.2.2.2.length q4_5] 88)).alloc (.cells #[.int .i64 0, .int .i64 0, .slice none 0 0, .int .i64 0, .slice none 0 0, .slice none 0 0, .slice none 0 0, .slice none 0 0, .int .i64 0, .slice none 0 0, .slice none 0 0, .slice none 0 0] 57)) [.int .i64 a.1, .int .i64 a.2.1, .slice none 0 0, .int .i64 0, .slice none 0 0, .slice none 0 0, .slice none 0 0, .slice none 0 0, .int .i64 0, .slice none 0 0, .slice none 0 0, .slice none 0 0] 57
    rw [size_alloc, size_alloc] at h
    exact h
  have z0 : Hid ((((w.alloc (.cells #[.int .i64 a.1, .int .i64 a.2.1, .slice p3_1 a.2.2.1.1.length q3_1, .int .i64 a.2.2.1.2.1, .slice p3_3 a.2.2.1.2.2.1.length q3_3, .slice p3_4 a.2.2.1.2.2.2.1.length q3_4, .slice p3_5 a.2.2.1.2.2.2.2.length q3_5, .slice p4_1 a.2.2.2.1.length q4_1, .int .i64 a.2.2.2.2.1, .slice p4_3 a.2.2.2.2.2.1.length q4_3, .slice p4_4 a.2.2.2.2.2.2.1.length q4_4, .slice p4_5 a.2.2.2.2.2.2.2.length q4_5] 88)).alloc (.cells #[.int .i64 0, .int .i64 0, .slice none 0 0, .int .i64 0, .slice none 0 0, .slice none 0 0, .slice none 0 0, .slice none 0 0, .int .i64 0, .slice none 0 0, .slice none 0 0, .slice none 0 0] 57)).alloc (.cells #[.int .i64 a.1, .int .i64 a.2.1, .slice none 0 0, .int .i64 0, .slice none 0 0, .slice none 0 0, .slice none 0 0, .slice none 0 0, .int .i64 0, .slice none 0 0, .slice none 0 0, .slice none 0 0] 57)).heap.size = w.heap.size + 3) := by show _ = _; rw [size_alloc, size_alloc, size_alloc]
  have R3_1 : Hid (Rd w p3_1 q3_1 a.2.2.1.1) := r3_1
  have R3_3 : Hid (RdL bytC w p3_3 q3_3 a.2.2.1.2.2.1) := r3_3
  have R3_4 : Hid (RdL bytC w p3_4 q3_4 a.2.2.1.2.2.2.1) := r3_4
  have R3_5 : Hid (RdL holdC w p3_5 q3_5 a.2.2.1.2.2.2.2) := r3_5
  have R4_1 : Hid (Rd w p4_1 q4_1 a.2.2.2.1) := r4_1
  have R4_3 : Hid (RdL bytC w p4_3 q4_3 a.2.2.2.2.2.1) := r4_3
  have R4_4 : Hid (RdL bytC w p4_4 q4_4 a.2.2.2.2.2.2.1) := r4_4
  have R4_5 : Hid (RdL holdC w p4_5 q4_5 a.2.2.2.2.2.2.2) := r4_5
  clear r3_1 r3_3 r3_4 r3_5 r4_1 r4_3 r4_4 r4_5
  have HL : Hid (sessionN a.2.2.1 + sessionN a.2.2.2 ≤ 1048576) := hl
  clear hl
  go_enter Tryz.func48, Tryz.ntmps48
  go_wp2_with fail
  refine (toSession_k a.2.2.1 _ _ (session_mk (R3_1.out.keep BW) (R3_3.out.keep BW) (R3_4.out.keep BW) (R3_5.out.keep BW)) (by have := HL.out; omega)).mono ?_
  rintro e w1 ⟨vs2, fp2, rfl, k2, hb⟩
  rw [z0.out] at k2
  have z1 : Hid (w.heap.size + 3 ≤ w1.heap.size) := by have h := hb.size; rw [z0.out] at h; exact h
  have g2 : Hid (∀ k, k ∈ fp2 → w.heap.size + 3 ≤ k ∧ k < w1.heap.size) := fun k hk => sessionC.ins k2 k hk
  replace A := A.stay hb
  replace R := R.stay hb
  replace O := O.stay hb
  replace BW := Below.step BW hb
  obtain ⟨pv3_1, qv3_1, pv3_3, qv3_3, pv3_4, qv3_4, pv3_5, qv3_5, e2, -, -, -, -⟩ := session_rep (sessionC.toRep k2)
  subst e2
  have ca0 := (A.cell 0).trans (show _ = some _ from rfl)
  have co0 := (O.cell 0).trans (show _ = some _ from rfl)
  have cr0 := (R.cell 0).trans (show _ = some _ from rfl)
  have ca1 := (A.cell 1).trans (show _ = some _ from rfl)
  have co1 := (O.cell 1).trans (show _ = some _ from rfl)
  have cr1 := (R.cell 1).trans (show _ = some _ from rfl)
  have ca2 := (A.cell 2).trans (show _ = some _ from rfl)
  have co2 := (O.cell 2).trans (show _ = some _ from rfl)
  have cr2 := (R.cell 2).trans (show _ = some _ from rfl)
  have ca3 := (A.cell 3).trans (show _ = some _ from rfl)
  have co3 := (O.cell 3).trans (show _ = some _ from rfl)
  have cr3 := (R.cell 3).trans (show _ = some _ from rfl)
  have ca4 := (A.cell 4).trans (show _ = some _ from rfl)
  have co4 := (O.cell 4).trans (show _ = some _ from rfl)
  have cr4 := (R.cell 4).trans (show _ = some _ from rfl)
  have ca5 := (A.cell 5).trans (show _ = some _ from rfl)
  have co5 := (O.cell 5).trans (show _ = some _ from rfl)
  have cr5 := (R.cell 5).trans (show _ = some _ from rfl)
  have ca6 := (A.cell 6).trans (show _ = some _ from rfl)
  have co6 := (O.cell 6).trans (show _ = some _ from rfl)
  have cr6 := (R.cell 6).trans (show _ = some _ from rfl)
  have ca7 := (A.cell 7).trans (show _ = some _ from rfl)
  have co7 := (O.cell 7).trans (show _ = some _ from rfl)
  have cr7 := (R.cell 7).trans (show _ = some _ from rfl)
  have ca8 := (A.cell 8).trans (show _ = some _ from rfl)
  have co8 := (O.cell 8).trans (show _ = some _ from rfl)
  have cr8 := (R.cell 8).trans (show _ = some _ from rfl)
  have ca9 := (A.cell 9).trans (show _ = some _ from rfl)
  have co9 := (O.cell 9).trans (show _ = some _ from rfl)
  have cr9 := (R.cell 9).trans (show _ = some _ from rfl)
  have ca10 := (A.cell 10).trans (show _ = some _ from rfl)
  have co10 := (O.cell 10).trans (show _ = some _ from rfl)
  have cr10 := (R.cell 10).trans (show _ = some _ from rfl)
  have ca11 := (A.cell 11).trans (show _ = some _ from rfl)
  have co11 := (O.cell 11).trans (show _ = some _ from rfl)
  have cr11 := (R.cell 11).trans (show _ = some _ from rfl)
  have fo := O.frozen
  have fr := R.frozen
  clear hb
  go_wp2_with fail
  replace A := A.setOther (a := ⟨w.heap.size + 1 + 1, 2, none⟩) (by simp; omega) (.slice pv3_1 a.2.2.1.1.length qv3_1)
  replace R := R.setOther (a := ⟨w.heap.size + 1 + 1, 2, none⟩) (by simp) (.slice pv3_1 a.2.2.1.1.length qv3_1)
  replace O := O.set 2 (.slice pv3_1 a.2.2.1.1.length qv3_1)
  replace BW := BW.setCell (p := ⟨w.heap.size + 1 + 1, 2, none⟩) (by show w.heap.size ≤ w.heap.size + 1 + 1; omega) (.slice pv3_1 a.2.2.1.1.length qv3_1)
  replace k2 := sessionC.set k2 (p := ⟨w.heap.size + 1 + 1, 2, none⟩) (by show w.heap.size + 1 + 1 < w.heap.size + 3; omega) (.slice pv3_1 a.2.2.1.1.length qv3_1)
  replace A := A.setOther (a := ⟨w.heap.size + 1 + 1, 3, none⟩) (by simp; omega) (.int .i64 a.2.2.1.2.1)
  replace R := R.setOther (a := ⟨w.heap.size + 1 + 1, 3, none⟩) (by simp) (.int .i64 a.2.2.1.2.1)
  replace O := O.set 3 (.int .i64 a.2.2.1.2.1)
  replace BW := BW.setCell (p := ⟨w.heap.size + 1 + 1, 3, none⟩) (by show w.heap.size ≤ w.heap.size + 1 + 1; omega) (.int .i64 a.2.2.1.2.1)
  replace k2 := sessionC.set k2 (p := ⟨w.heap.size + 1 + 1, 3, none⟩) (by show w.heap.size + 1 + 1 < w.heap.size + 3; omega) (.int .i64 a.2.2.1.2.1)
  replace A := A.setOther (a := ⟨w.heap.size + 1 + 1, 4, none⟩) (by simp; omega) (.slice pv3_3 a.2.2.1.2.2.1.length qv3_3)
  replace R := R.setOther (a := ⟨w.heap.size + 1 + 1, 4, none⟩) (by simp) (.slice pv3_3 a.2.2.1.2.2.1.length qv3_3)
  replace O := O.set 4 (.slice pv3_3 a.2.2.1.2.2.1.length qv3_3)
  replace BW := BW.setCell (p := ⟨w.heap.size + 1 + 1, 4, none⟩) (by show w.heap.size ≤ w.heap.size + 1 + 1; omega) (.slice pv3_3 a.2.2.1.2.2.1.length qv3_3)
  replace k2 := sessionC.set k2 (p := ⟨w.heap.size + 1 + 1, 4, none⟩) (by show w.heap.size + 1 + 1 < w.heap.size + 3; omega) (.slice pv3_3 a.2.2.1.2.2.1.length qv3_3)
  replace A := A.setOther (a := ⟨w.heap.size + 1 + 1, 5, none⟩) (by simp; omega) (.slice pv3_4 a.2.2.1.2.2.2.1.length qv3_4)
  replace R := R.setOther (a := ⟨w.heap.size + 1 + 1, 5, none⟩) (by simp) (.slice pv3_4 a.2.2.1.2.2.2.1.length qv3_4)
  replace O := O.set 5 (.slice pv3_4 a.2.2.1.2.2.2.1.length qv3_4)
  replace BW := BW.setCell (p := ⟨w.heap.size + 1 + 1, 5, none⟩) (by show w.heap.size ≤ w.heap.size + 1 + 1; omega) (.slice pv3_4 a.2.2.1.2.2.2.1.length qv3_4)
  replace k2 := sessionC.set k2 (p := ⟨w.heap.size + 1 + 1, 5, none⟩) (by show w.heap.size + 1 + 1 < w.heap.size + 3; omega) (.slice pv3_4 a.2.2.1.2.2.2.1.length qv3_4)
  replace A := A.setOther (a := ⟨w.heap.size + 1 + 1, 6, none⟩) (by simp; omega) (.slice pv3_5 a.2.2.1.2.2.2.2.length qv3_5)
  replace R := R.setOther (a := ⟨w.heap.size + 1 + 1, 6, none⟩) (by simp) (.slice pv3_5 a.2.2.1.2.2.2.2.length qv3_5)
  replace O := O.set 6 (.slice pv3_5 a.2.2.1.2.2.2.2.length qv3_5)
  replace BW := BW.setCell (p := ⟨w.heap.size + 1 + 1, 6, none⟩) (by show w.heap.size ≤ w.heap.size + 1 + 1; omega) (.slice pv3_5 a.2.2.1.2.2.2.2.length qv3_5)
  replace k2 := sessionC.set k2 (p := ⟨w.heap.size + 1 + 1, 6, none⟩) (by show w.heap.size + 1 + 1 < w.heap.size + 3; omega) (.slice pv3_5 a.2.2.1.2.2.2.2.length qv3_5)
  simp only [List.set_cons_zero, List.set_cons_succ] at O
  refine (toSession_k a.2.2.2 _ _ (session_mk (R4_1.out.keep BW) (R4_3.out.keep BW) (R4_4.out.keep BW) (R4_5.out.keep BW)) (by have := HL.out; omega)).mono ?_
  rintro e w2 ⟨vs3, fp3, rfl, k3, hb⟩
  simp only [World.size_setCell] at k3
  have z2 : Hid (w1.heap.size ≤ w2.heap.size) := by have h := hb.size; simp only [World.size_setCell] at h; exact h
  have g3 : Hid (∀ k, k ∈ fp3 → w1.heap.size ≤ k ∧ k < w2.heap.size) := fun k hk => sessionC.ins k3 k hk
  replace k3 := sessionC.low k3 (show w.heap.size + 3 ≤ w1.heap.size by have := z1.out; omega)
  replace A := A.stay hb
  replace R := R.stay hb
  replace O := O.stay hb
  replace BW := Below.step BW hb
  replace k2 := sessionC.stay k2 hb
  obtain ⟨pv4_1, qv4_1, pv4_3, qv4_3, pv4_4, qv4_4, pv4_5, qv4_5, e3, -, -, -, -⟩ := session_rep (sessionC.toRep k3)
  subst e3
  have ca0 := (A.cell 0).trans (show _ = some _ from rfl)
  have co0 := (O.cell 0).trans (show _ = some _ from rfl)
  have cr0 := (R.cell 0).trans (show _ = some _ from rfl)
  have ca1 := (A.cell 1).trans (show _ = some _ from rfl)
  have co1 := (O.cell 1).trans (show _ = some _ from rfl)
  have cr1 := (R.cell 1).trans (show _ = some _ from rfl)
  have ca2 := (A.cell 2).trans (show _ = some _ from rfl)
  have co2 := (O.cell 2).trans (show _ = some _ from rfl)
  have cr2 := (R.cell 2).trans (show _ = some _ from rfl)
  have ca3 := (A.cell 3).trans (show _ = some _ from rfl)
  have co3 := (O.cell 3).trans (show _ = some _ from rfl)
  have cr3 := (R.cell 3).trans (show _ = some _ from rfl)
  have ca4 := (A.cell 4).trans (show _ = some _ from rfl)
  have co4 := (O.cell 4).trans (show _ = some _ from rfl)
  have cr4 := (R.cell 4).trans (show _ = some _ from rfl)
  have ca5 := (A.cell 5).trans (show _ = some _ from rfl)
  have co5 := (O.cell 5).trans (show _ = some _ from rfl)
  have cr5 := (R.cell 5).trans (show _ = some _ from rfl)
  have ca6 := (A.cell 6).trans (show _ = some _ from rfl)
  have co6 := (O.cell 6).trans (show _ = some _ from rfl)
  have cr6 := (R.cell 6).trans (show _ = some _ from rfl)
  have ca7 := (A.cell 7).trans (show _ = some _ from rfl)
  have co7 := (O.cell 7).trans (show _ = some _ from rfl)
  have cr7 := (R.cell 7).trans (show _ = some _ from rfl)
  have ca8 := (A.cell 8).trans (show _ = some _ from rfl)
  have co8 := (O.cell 8).trans (show _ = some _ from rfl)
  have cr8 := (R.cell 8).trans (show _ = some _ from rfl)
  have ca9 := (A.cell 9).trans (show _ = some _ from rfl)
  have co9 := (O.cell 9).trans (show _ = some _ from rfl)
  have cr9 := (R.cell 9).trans (show _ = some _ from rfl)
  have ca10 := (A.cell 10).trans (show _ = some _ from rfl)
  have co10 := (O.cell 10).trans (show _ = some _ from rfl)
  have cr10 := (R.cell 10).trans (show _ = some _ from rfl)
  have ca11 := (A.cell 11).trans (show _ = some _ from rfl)
  have co11 := (O.cell 11).trans (show _ = some _ from rfl)
  have cr11 := (R.cell 11).trans (show _ = some _ from rfl)
  have fo := O.frozen
  have fr := R.frozen
  clear hb
  go_wp2_with fail
  refine bodyPost_ret (v := .agg #[.int .i64 a.1, .int .i64 a.2.1, .slice pv3_1 a.2.2.1.1.length qv3_1, .int .i64 a.2.2.1.2.1, .slice pv3_3 a.2.2.1.2.2.1.length qv3_3, .slice pv3_4 a.2.2.1.2.2.2.1.length qv3_4, .slice pv3_5 a.2.2.1.2.2.2.2.length qv3_5, .slice pv4_1 a.2.2.2.1.length qv4_1, .int .i64 a.2.2.2.2.1, .slice pv4_3 a.2.2.2.2.2.1.length qv4_3, .slice pv4_4 a.2.2.2.2.2.2.1.length qv4_4, .slice pv4_5 a.2.2.2.2.2.2.2.length qv4_5]) (by simp [results, Tryz.results48, go_sem, cr0, cr1, cr2, cr3, cr4, cr5, cr6, cr7, cr8, cr9, cr10, cr11]) rfl ⟨[.int .i64 a.1, .int .i64 a.2.1, .slice pv3_1 a.2.2.1.1.length qv3_1, .int .i64 a.2.2.1.2.1, .slice pv3_3 a.2.2.1.2.2.1.length qv3_3, .slice pv3_4 a.2.2.1.2.2.2.1.length qv3_4, .slice pv3_5 a.2.2.1.2.2.2.2.length qv3_5, .slice pv4_1 a.2.2.2.1.length qv4_1, .int .i64 a.2.2.2.2.1, .slice pv4_3 a.2.2.2.2.2.1.length qv4_3, .slice pv4_4 a.2.2.2.2.2.2.1.length qv4_4, .slice pv4_5 a.2.2.2.2.2.2.2.length qv4_5], _, rfl, linkC.low (own_pair 0 own_int (own_pair 0 own_int (own_pair w1.heap.size (sessionC.set (sessionC.set (sessionC.set (sessionC.set (sessionC.set (sessionC.set (sessionC.set (sessionC.set (sessionC.set (sessionC.set (sessionC.set (sessionC.set (sessionC.set (sessionC.set (sessionC.set (sessionC.set (sessionC.set k2 (show w.heap.size + 1 + 1 < w.heap.size + 3 by omega) _) (show w.heap.size + 1 + 1 < w.heap.size + 3 by omega) _) (show w.heap.size + 1 + 1 < w.heap.size + 3 by omega) _) (show w.heap.size + 1 + 1 < w.heap.size + 3 by omega) _) (show w.heap.size + 1 + 1 < w.heap.size + 3 by omega) _) (show w.heap.size + 1 < w.heap.size + 3 by omega) _) (show w.heap.size + 1 < w.heap.size + 3 by omega) _) (show w.heap.size + 1 < w.heap.size + 3 by omega) _) (show w.heap.size + 1 < w.heap.size + 3 by omega) _) (show w.heap.size + 1 < w.heap.size + 3 by omega) _) (show w.heap.size + 1 < w.heap.size + 3 by omega) _) (show w.heap.size + 1 < w.heap.size + 3 by omega) _) (show w.heap.size + 1 < w.heap.size + 3 by omega) _) (show w.heap.size + 1 < w.heap.size + 3 by omega) _) (show w.heap.size + 1 < w.heap.size + 3 by omega) _) (show w.heap.size + 1 < w.heap.size + 3 by omega) _) (show w.heap.size + 1 < w.heap.size + 3 by omega) _) (sessionC.set (sessionC.set (sessionC.set (sessionC.set (sessionC.set (sessionC.set (sessionC.set (sessionC.set (sessionC.set (sessionC.set (sessionC.set (sessionC.set (sessionC.set (sessionC.set (sessionC.set (sessionC.set (sessionC.set k3 (show w.heap.size + 1 + 1 < w.heap.size + 3 by omega) _) (show w.heap.size + 1 + 1 < w.heap.size + 3 by omega) _) (show w.heap.size + 1 + 1 < w.heap.size + 3 by omega) _) (show w.heap.size + 1 + 1 < w.heap.size + 3 by omega) _) (show w.heap.size + 1 + 1 < w.heap.size + 3 by omega) _) (show w.heap.size + 1 < w.heap.size + 3 by omega) _) (show w.heap.size + 1 < w.heap.size + 3 by omega) _) (show w.heap.size + 1 < w.heap.size + 3 by omega) _) (show w.heap.size + 1 < w.heap.size + 3 by omega) _) (show w.heap.size + 1 < w.heap.size + 3 by omega) _) (show w.heap.size + 1 < w.heap.size + 3 by omega) _) (show w.heap.size + 1 < w.heap.size + 3 by omega) _) (show w.heap.size + 1 < w.heap.size + 3 by omega) _) (show w.heap.size + 1 < w.heap.size + 3 by omega) _) (show w.heap.size + 1 < w.heap.size + 3 by omega) _) (show w.heap.size + 1 < w.heap.size + 3 by omega) _) (show w.heap.size + 1 < w.heap.size + 3 by omega) _) (fun k hk => (g2.out k hk).2) (fun k hk => Nat.le_trans (by have := z1.out; have := z2.out; omega) (g3.out k hk).1)) lt_nil (fun _ _ => Nat.zero_le _)) lt_nil (fun _ _ => Nat.zero_le _)) (Nat.le_add_right _ 3), (((((((((((((((((BW.setCell (show w.heap.size ≤ w.heap.size + 1 + 1 by omega) _).setCell (show w.heap.size ≤ w.heap.size + 1 + 1 by omega) _).setCell (show w.heap.size ≤ w.heap.size + 1 + 1 by omega) _).setCell (show w.heap.size ≤ w.heap.size + 1 + 1 by omega) _).setCell (show w.heap.size ≤ w.heap.size + 1 + 1 by omega) _).setCell (show w.heap.size ≤ w.heap.size + 1 by omega) _).setCell (show w.heap.size ≤ w.heap.size + 1 by omega) _).setCell (show w.heap.size ≤ w.heap.size + 1 by omega) _).setCell (show w.heap.size ≤ w.heap.size + 1 by omega) _).setCell (show w.heap.size ≤ w.heap.size + 1 by omega) _).setCell (show w.heap.size ≤ w.heap.size + 1 by omega) _).setCell (show w.heap.size ≤ w.heap.size + 1 by omega) _).setCell (show w.heap.size ≤ w.heap.size + 1 by omega) _).setCell (show w.heap.size ≤ w.heap.size + 1 by omega) _).setCell (show w.heap.size ≤ w.heap.size + 1 by omega) _).setCell (show w.heap.size ≤ w.heap.size + 1 by omega) _).setCell (show w.heap.size ≤ w.heap.size + 1 by omega) _)⟩

set_option maxRecDepth 4000 in
set_option maxHeartbeats 1000000 in
theorem szLink_k (a : LinkD) (us : List Value) (left : Int) (w : World) (h : linkC.rep w a us) (h0 : 0 ≤ left) (h1 : left ≤ 1048576) :
    Calls Tryz.prog 36 #[.agg us.toArray, .int .i64 left] w fun e w' => e = .returned (.int .i64 (szR (linkN a) left)) ∧ Below w.heap.size w w' := by
  obtain ⟨p3_1, q3_1, p3_3, q3_3, p3_4, q3_4, p3_5, q3_5, p4_1, q4_1, p4_3, q4_3, p4_4, q4_4, p4_5, q4_5, rfl, r3_1, r3_3, r3_4, r3_5, r4_1, r4_3, r4_4, r4_5⟩ := link_rep h
  clear h
  have BW := alloc_below w (.cells #[.int .i64 a.1, .int .i64 a.2.1, .slice p3_1 a.2.2.1.1.length q3_1, .int .i64 a.2.2.1.2.1, .slice p3_3 a.2.2.1.2.2.1.length q3_3, .slice p3_4 a.2.2.1.2.2.2.1.length q3_4, .slice p3_5 a.2.2.1.2.2.2.2.length q3_5, .slice p4_1 a.2.2.2.1.length q4_1, .int .i64 a.2.2.2.2.1, .slice p4_3 a.2.2.2.2.2.1.length q4_3, .slice p4_4 a.2.2.2.2.2.2.1.length q4_4, .slice p4_5 a.2.2.2.2.2.2.2.length q4_5] 88)
  have A := Arr.new w [.int .i64 a.1, .int .i64 a.2.1, .slice p3_1 a.2.2.1.1.length q3_1, .int .i64 a.2.2.1.2.1, .slice p3_3 a.2.2.1.2.2.1.length q3_3, .slice p3_4 a.2.2.1.2.2.2.1.length q3_4, .slice p3_5 a.2.2.1.2.2.2.2.length q3_5, .slice p4_1 a.2.2.2.1.length q4_1, .int .i64 a.2.2.2.2.1, .slice p4_3 a.2.2.2.2.2.1.length q4_3, .slice p4_4 a.2.2.2.2.2.2.1.length q4_4, .slice p4_5 a.2.2.2.2.2.2.2.length q4_5] 88
  have R3_1 : Hid (Rd w p3_1 q3_1 a.2.2.1.1) := r3_1
  have R3_3 : Hid (RdL bytC w p3_3 q3_3 a.2.2.1.2.2.1) := r3_3
  have R3_4 : Hid (RdL bytC w p3_4 q3_4 a.2.2.1.2.2.2.1) := r3_4
  have R3_5 : Hid (RdL holdC w p3_5 q3_5 a.2.2.1.2.2.2.2) := r3_5
  have R4_1 : Hid (Rd w p4_1 q4_1 a.2.2.2.1) := r4_1
  have R4_3 : Hid (RdL bytC w p4_3 q4_3 a.2.2.2.2.2.1) := r4_3
  have R4_4 : Hid (RdL bytC w p4_4 q4_4 a.2.2.2.2.2.2.1) := r4_4
  have R4_5 : Hid (RdL holdC w p4_5 q4_5 a.2.2.2.2.2.2.2) := r4_5
  clear r3_1 r3_3 r3_4 r3_5 r4_1 r4_3 r4_4 r4_5
  by_cases s0 : ((sessionN a.2.2.1 : Nat) : Int) ≤ left
  · by_cases s1 : ((sessionN a.2.2.2 : Nat) : Int) ≤ left - ((sessionN a.2.2.1 : Nat) : Int)
    · go_enter Tryz.func36, Tryz.ntmps36
      go_wp2_with fail
      refine (szSession_k a.2.2.1 _ _ _ (session_mk (R3_1.out.keep BW) (R3_3.out.keep BW) (R3_4.out.keep BW) (R3_5.out.keep BW)) (by omega) (by omega)).mono ?_
      rintro e w1 ⟨rfl, hb⟩
      replace A := A.stay hb
      replace BW := Below.step BW hb
      have ca0 := (A.cell 0).trans (show _ = some _ from rfl)
      have ca1 := (A.cell 1).trans (show _ = some _ from rfl)
      have ca2 := (A.cell 2).trans (show _ = some _ from rfl)
      have ca3 := (A.cell 3).trans (show _ = some _ from rfl)
      have ca4 := (A.cell 4).trans (show _ = some _ from rfl)
      have ca5 := (A.cell 5).trans (show _ = some _ from rfl)
      have ca6 := (A.cell 6).trans (show _ = some _ from rfl)
      have ca7 := (A.cell 7).trans (show _ = some _ from rfl)
      have ca8 := (A.cell 8).trans (show _ = some _ from rfl)
      have ca9 := (A.cell 9).trans (show _ = some _ from rfl)
      have ca10 := (A.cell 10).trans (show _ = some _ from rfl)
      have ca11 := (A.cell 11).trans (show _ = some _ from rfl)
      clear hb
      rw [szR, if_pos (by omega)]
      go_wp2_with fail
      refine (szSession_k a.2.2.2 _ _ _ (session_mk (R4_1.out.keep BW) (R4_3.out.keep BW) (R4_4.out.keep BW) (R4_5.out.keep BW)) (by omega) (by omega)).mono ?_
      rintro e w2 ⟨rfl, hb⟩
      replace A := A.stay hb
      replace BW := Below.step BW hb
      have ca0 := (A.cell 0).trans (show _ = some _ from rfl)
      have ca1 := (A.cell 1).trans (show _ = some _ from rfl)
      have ca2 := (A.cell 2).trans (show _ = some _ from rfl)
      have ca3 := (A.cell 3).trans (show _ = some _ from rfl)
      have ca4 := (A.cell 4).trans (show _ = some _ from rfl)
      have ca5 := (A.cell 5).trans (show _ = some _ from rfl)
      have ca6 := (A.cell 6).trans (show _ = some _ from rfl)
      have ca7 := (A.cell 7).trans (show _ = some _ from rfl)
      have ca8 := (A.cell 8).trans (show _ = some _ from rfl)
      have ca9 := (A.cell 9).trans (show _ = some _ from rfl)
      have ca10 := (A.cell 10).trans (show _ = some _ from rfl)
      have ca11 := (A.cell 11).trans (show _ = some _ from rfl)
      clear hb
      rw [szR, if_pos (by omega)]
      have hne : ¬ (left - (sessionN a.2.2.1 : Int) - (sessionN a.2.2.2 : Int) < 0) := by omega
      have hE : Hid (szR (linkN a) left = left - (sessionN a.2.2.1 : Int) - (sessionN a.2.2.2 : Int)) := by show _ = _; unfold linkN; rw [szR, if_pos (by omega)] <;> omega
      go_wp2
      go_ret
      exact ⟨by rw [hE.out]; rfl, BW⟩
    · go_enter Tryz.func36, Tryz.ntmps36
      go_wp2_with fail
      refine (szSession_k a.2.2.1 _ _ _ (session_mk (R3_1.out.keep BW) (R3_3.out.keep BW) (R3_4.out.keep BW) (R3_5.out.keep BW)) (by omega) (by omega)).mono ?_
      rintro e w1 ⟨rfl, hb⟩
      replace A := A.stay hb
      replace BW := Below.step BW hb
      have ca0 := (A.cell 0).trans (show _ = some _ from rfl)
      have ca1 := (A.cell 1).trans (show _ = some _ from rfl)
      have ca2 := (A.cell 2).trans (show _ = some _ from rfl)
      have ca3 := (A.cell 3).trans (show _ = some _ from rfl)
      have ca4 := (A.cell 4).trans (show _ = some _ from rfl)
      have ca5 := (A.cell 5).trans (show _ = some _ from rfl)
      have ca6 := (A.cell 6).trans (show _ = some _ from rfl)
      have ca7 := (A.cell 7).trans (show _ = some _ from rfl)
      have ca8 := (A.cell 8).trans (show _ = some _ from rfl)
      have ca9 := (A.cell 9).trans (show _ = some _ from rfl)
      have ca10 := (A.cell 10).trans (show _ = some _ from rfl)
      have ca11 := (A.cell 11).trans (show _ = some _ from rfl)
      clear hb
      rw [szR, if_pos (by omega)]
      go_wp2_with fail
      refine (szSession_k a.2.2.2 _ _ _ (session_mk (R4_1.out.keep BW) (R4_3.out.keep BW) (R4_4.out.keep BW) (R4_5.out.keep BW)) (by omega) (by omega)).mono ?_
      rintro e w2 ⟨rfl, hb⟩
      replace A := A.stay hb
      replace BW := Below.step BW hb
      have ca0 := (A.cell 0).trans (show _ = some _ from rfl)
      have ca1 := (A.cell 1).trans (show _ = some _ from rfl)
      have ca2 := (A.cell 2).trans (show _ = some _ from rfl)
      have ca3 := (A.cell 3).trans (show _ = some _ from rfl)
      have ca4 := (A.cell 4).trans (show _ = some _ from rfl)
      have ca5 := (A.cell 5).trans (show _ = some _ from rfl)
      have ca6 := (A.cell 6).trans (show _ = some _ from rfl)
      have ca7 := (A.cell 7).trans (show _ = some _ from rfl)
      have ca8 := (A.cell 8).trans (show _ = some _ from rfl)
      have ca9 := (A.cell 9).trans (show _ = some _ from rfl)
      have ca10 := (A.cell 10).trans (show _ = some _ from rfl)
      have ca11 := (A.cell 11).trans (show _ = some _ from rfl)
      clear hb
      rw [szR, if_neg (by omega)]
      go_wp2
      go_ret
      exact ⟨by unfold linkN; rw [szR, if_neg (by omega)] <;> rfl, BW⟩
  · go_enter Tryz.func36, Tryz.ntmps36
    go_wp2_with fail
    refine (szSession_k a.2.2.1 _ _ _ (session_mk (R3_1.out.keep BW) (R3_3.out.keep BW) (R3_4.out.keep BW) (R3_5.out.keep BW)) (by omega) (by omega)).mono ?_
    rintro e w1 ⟨rfl, hb⟩
    replace A := A.stay hb
    replace BW := Below.step BW hb
    have ca0 := (A.cell 0).trans (show _ = some _ from rfl)
    have ca1 := (A.cell 1).trans (show _ = some _ from rfl)
    have ca2 := (A.cell 2).trans (show _ = some _ from rfl)
    have ca3 := (A.cell 3).trans (show _ = some _ from rfl)
    have ca4 := (A.cell 4).trans (show _ = some _ from rfl)
    have ca5 := (A.cell 5).trans (show _ = some _ from rfl)
    have ca6 := (A.cell 6).trans (show _ = some _ from rfl)
    have ca7 := (A.cell 7).trans (show _ = some _ from rfl)
    have ca8 := (A.cell 8).trans (show _ = some _ from rfl)
    have ca9 := (A.cell 9).trans (show _ = some _ from rfl)
    have ca10 := (A.cell 10).trans (show _ = some _ from rfl)
    have ca11 := (A.cell 11).trans (show _ = some _ from rfl)
    clear hb
    rw [szR, if_neg (by omega)]
    go_wp2
    go_ret
    exact ⟨by unfold linkN; rw [szR, if_neg (by omega)] <;> rfl, BW⟩

set_option maxRecDepth 4000 in
set_option maxHeartbeats 1000000 in
theorem eqLink_k (a : LinkD) (us vs : List Value) (w : World) (h1 : linkC.rep w a us) (h2 : linkC.rep w a vs) :
    Calls Tryz.prog 61 #[.agg us.toArray, .agg vs.toArray] w fun e w' => e = .returned (.bool true) ∧ Below w.heap.size w w' := by
  obtain ⟨p3_1, q3_1, p3_3, q3_3, p3_4, q3_4, p3_5, q3_5, p4_1, q4_1, p4_3, q4_3, p4_4, q4_4, p4_5, q4_5, rfl, r3_1, r3_3, r3_4, r3_5, r4_1, r4_3, r4_4, r4_5⟩ := link_rep h1
  obtain ⟨pb3_1, qb3_1, pb3_3, qb3_3, pb3_4, qb3_4, pb3_5, qb3_5, pb4_1, qb4_1, pb4_3, qb4_3, pb4_4, qb4_4, pb4_5, qb4_5, rfl, rb3_1, rb3_3, rb3_4, rb3_5, rb4_1, rb4_3, rb4_4, rb4_5⟩ := link_rep h2
  clear h1 h2
  have BW : Below w.heap.size w ((w.alloc (.cells #[.int .i64 a.1, .int .i64 a.2.1, .slice p3_1 a.2.2.1.1.length q3_1, .int .i64 a.2.2.1.2.1, .slice p3_3 a.2.2.1.2.2.1.length q3_3, .slice p3_4 a.2.2.1.2.2.2.1.length q3_4, .slice p3_5 a.2.2.1.2.2.2.2.length q3_5, .slice p4_1 a.2.2.2.1.length q4_1, .int .i64 a.2.2.2.2.1, .slice p4_3 a.2.2.2.2.2.1.length q4_3, .slice p4_4 a.2.2.2.2.2.2.1.length q4_4, .slice p4_5 a.2.2.2.2.2.2.2.length q4_5] 57)).alloc (.cells #[.int .i64 a.1, .int .i64 a.2.1, .slice pb3_1 a.2.2.1.1.length qb3_1, .int .i64 a.2.2.1.2.1, .slice pb3_3 a.2.2.1.2.2.1.length qb3_3, .slice pb3_4 a.2.2.1.2.2.2.1.length qb3_4, .slice pb3_5 a.2.2.1.2.2.2.2.length qb3_5, .slice pb4_1 a.2.2.2.1.length qb4_1, .int .i64 a.2.2.2.2.1, .slice pb4_3 a.2.2.2.2.2.1.length qb4_3, .slice pb4_4 a.2.2.2.2.2.2.1.length qb4_4, .slice pb4_5 a.2.2.2.2.2.2.2.length qb4_5] 57)) := Below.mk (alloc_below _ _) _
  have A : Arr ((w.alloc (.cells #[.int .i64 a.1, .int .i64 a.2.1, .slice p3_1 a.2.2.1.1.length q3_1, .int .i64 a.2.2.1.2.1, .slice p3_3 a.2.2.1.2.2.1.length q3_3, .slice p3_4 a.2.2.1.2.2.2.1.length q3_4, .slice p3_5 a.2.2.1.2.2.2.2.length q3_5, .slice p4_1 a.2.2.2.1.length q4_1, .int .i64 a.2.2.2.2.1, .slice p4_3 a.2.2.2.2.2.1.length q4_3, .slice p4_4 a.2.2.2.2.2.2.1.length q4_4, .slice p4_5 a.2.2.2.2.2.2.2.length q4_5] 57)).alloc (.cells #[.int .i64 a.1, .int .i64 a.2.1, .slice pb3_1 a.2.2.1.1.length qb3_1, .int .i64 a.2.2.1.2.1, .slice pb3_3 a.2.2.1.2.2.1.length qb3_3, .slice pb3_4 a.2.2.1.2.2.2.1.length qb3_4, .slice pb3_5 a.2.2.1.2.2.2.2.length qb3_5, .slice pb4_1 a.2.2.2.1.length qb4_1, .int .i64 a.2.2.2.2.1, .slice pb4_3 a.2.2.2.2.2.1.length qb4_3, .slice pb4_4 a.2.2.2.2.2.2.1.length qb4_4, .slice pb4_5 a.2.2.2.2.2.2.2.length qb4_5] 57)) w.heap.size 57 [.int .i64 a.1, .int .i64 a.2.1, .slice p3_1 a.2.2.1.1.length q3_1, .int .i64 a.2.2.1.2.1, .slice p3_3 a.2.2.1.2.2.1.length q3_3, .slice p3_4 a.2.2.1.2.2.2.1.length q3_4, .slice p3_5 a.2.2.1.2.2.2.2.length q3_5, .slice p4_1 a.2.2.2.1.length q4_1, .int .i64 a.2.2.2.2.1, .slice p4_3 a.2.2.2.2.2.1.length q4_3, .slice p4_4 a.2.2.2.2.2.2.1.length q4_4, .slice p4_5 a.2.2.2.2.2.2.2.length q4_5] := (Arr.new w [.int .i64 a.1, .int .i64 a.2.1, .slice p3_1 a.2.2.1.1.length q3_1, .int .i64 a.2.2.1.2.1, .slice p3_3 a.2.2.1.2.2.1.length q3_3, .slice p3_4 a.2.2.1.2.2.2.1.length q3_4, .slice p3_5 a.2.2.1.2.2.2.2.length q3_5, .slice p4_1 a.2.2.2.1.length q4_1, .int .i64 a.2.2.2.2.1, .slice p4_3 a.2.2.2.2.2.1.length q4_3, .slice p4_4 a.2.2.2.2.2.2.1.length q4_4, .slice p4_5 a.2.2.2.2.2.2.2.length q4_5] 57).old _ _
  have B : Arr ((w.alloc (.cells #[.int .i64 a.1, .int .i64 a.2.1, .slice p3_1 a.2.2.1.1.length q3_1, .int .i64 a.2.2.1.2.1, .slice p3_3 a.2.2.1.2.2.1.length q3_3, .slice p3_4 a.2.2.1.2.2.2.1.length q3_4, .slice p3_5 a.2.2.1.2.2.2.2.length q3_5, .slice p4_1 a.2.2.2.1.length q4_1, .int .i64 a.2.2.2.2.1, .slice p4_3 a.2.2.2.2.2.1.length q4_3, .slice p4_4 a.2.2.2.2.2.2.1.length q4_4, .slice p4_5 a.2.2.2.2.2.2.2.length q4_5] 57)).alloc (.cells #[.int .i64 a.1, .int .i64 a.2.1, .slice pb3_1 a.2.2.1.1.length qb3_1, .int .i64 a.2.2.1.2.1, .slice pb3_3 a.2.2.1.2.2.1.length qb3_3, .slice pb3_4 a.2.2.1.2.2.2.1.length qb3_4, .slice pb3_5 a.2.2.1.2.2.2.2.length qb3_5, .slice pb4_1 a.2.2.2.1.length qb4_1, .int .i64 a.2.2.2.2.1, .slice pb4_3 a.2.2.2.2.2.1.length qb4_3, .slice pb4_4 a.2.2.2.2.2.2.1.length qb4_4, .slice pb4_5 a.2.2.2.2.2.2.2.length qb4_5] 57)) (w.heap.size + 1) 57 [.int .i64 a.1, .int .i64 a.2.1, .slice pb3_1 a.2.2.1.1.length qb3_1, .int .i64 a.2.2.1.2.1, .slice pb3_3 a.2.2.1.2.2.1.length qb3_3, .slice pb3_4 a.2.2.1.2.2.2.1.length qb3_4, .slice pb3_5 a.2.2.1.2.2.2.2.length qb3_5, .slice pb4_1 a.2.2.2.1.length qb4_1, .int .i64 a.2.2.2.2.1, .slice pb4_3 a.2.2.2.2.2.1.length qb4_3, .slice pb4_4 a.2.2.2.2.2.2.1.length qb4_4, .slice pb4_5 a.2.2.2.2.2.2.2.length qb4_5] := by
    have h := Arr.new (w.alloc (.cells #[.int .i64 a.1, .int .i64 a.2.1, .slice p3_1 a.2.2.1.1.length q3_1, .int .i64 a.2.2.1.2.1, .slice p3_3 a.2.2.1.2.2.1.length q3_3, .slice p3_4 a.2.2.1.2.2.2.1.length q3_4, .slice p3_5 a.2.2.1.2.2.2.2.length q3_5, .slice p4_1 a.2.2.2.1.length q4_1, .int .i64 a.2.2.2.2.1, .slice p4_3 a.2.2.2.2.2.1.length q4_3, .slice p4_4 a.2.2.2.2.2.2.1.length q4_4, .slice p4_5 a.2.2.2.2.2.2.2.length q4_5] 57)) [.int .i64 a.1, .int .i64 a.2.1, .slice pb3_1 a.2.2.1.1.length qb3_1, .int .i64 a.2.2.1.2.1, .slice pb3_3 a.2.2.1.2.2.1.length qb3_3, .slice pb3_4 a.2.2.1.2.2.2.1.length qb3_4, .slice pb3_5 a.2.2.1.2.2.2.2.length qb3_5, .slice pb4_1 a.2.2.2.1.length qb4_1, .int .i64 a.2.2.2.2.1, .slice pb4_3 a.2.2.2.2.2.1.length qb4_3, .slice pb4_4 a.2.2.2.2.2.2.1.length qb4_4, .slice pb4_5 a.2.2.2.2.2.2.2.length qb4_5] 57
    rw [size_alloc] at h
    exact h
  replace r3_1 := r3_1.keep BW
  replace rb3_1 := rb3_1.keep BW
  replace r3_3 := r3_3.keep BW
  replace rb3_3 := rb3_3.keep BW
  replace r3_4 := r3_4.keep BW
  replace rb3_4 := rb3_4.keep BW
  replace r3_5 := r3_5.keep BW
  replace rb3_5 := rb3_5.keep BW
  replace r4_1 := r4_1.keep BW
  replace rb4_1 := rb4_1.keep BW
  replace r4_3 := r4_3.keep BW
  replace rb4_3 := rb4_3.keep BW
  replace r4_4 := r4_4.keep BW
  replace rb4_4 := rb4_4.keep BW
  replace r4_5 := r4_5.keep BW
  replace rb4_5 := rb4_5.keep BW
  go_enter Tryz.func61, Tryz.ntmps61
  go_wp2_with fail
  refine (eqSession_k a.2.2.1 _ _ _ (session_mk r3_1 r3_3 r3_4 r3_5) (session_mk rb3_1 rb3_3 rb3_4 rb3_5)).mono ?_
  rintro e w1 ⟨rfl, hb⟩
  replace A := A.stay hb
  replace B := B.stay hb
  replace BW := Below.step BW hb
  replace r3_1 := r3_1.keep hb
  replace rb3_1 := rb3_1.keep hb
  replace r3_3 := r3_3.keep hb
  replace rb3_3 := rb3_3.keep hb
  replace r3_4 := r3_4.keep hb
  replace rb3_4 := rb3_4.keep hb
  replace r3_5 := r3_5.keep hb
  replace rb3_5 := rb3_5.keep hb
  replace r4_1 := r4_1.keep hb
  replace rb4_1 := rb4_1.keep hb
  replace r4_3 := r4_3.keep hb
  replace rb4_3 := rb4_3.keep hb
  replace r4_4 := r4_4.keep hb
  replace rb4_4 := rb4_4.keep hb
  replace r4_5 := r4_5.keep hb
  replace rb4_5 := rb4_5.keep hb
  have ca0 := A.cell 0
  have cb0 := B.cell 0
  have ca1 := A.cell 1
  have cb1 := B.cell 1
  have ca2 := A.cell 2
  have cb2 := B.cell 2
  have ca3 := A.cell 3
  have cb3 := B.cell 3
  have ca4 := A.cell 4
  have cb4 := B.cell 4
  have ca5 := A.cell 5
  have cb5 := B.cell 5
  have ca6 := A.cell 6
  have cb6 := B.cell 6
  have ca7 := A.cell 7
  have cb7 := B.cell 7
  have ca8 := A.cell 8
  have cb8 := B.cell 8
  have ca9 := A.cell 9
  have cb9 := B.cell 9
  have ca10 := A.cell 10
  have cb10 := B.cell 10
  have ca11 := A.cell 11
  have cb11 := B.cell 11
  simp at ca0 cb0 ca1 cb1 ca2 cb2 ca3 cb3 ca4 cb4 ca5 cb5 ca6 cb6 ca7 cb7 ca8 cb8 ca9 cb9 ca10 cb10 ca11 cb11
  clear hb
  go_wp2_with fail
  refine (eqSession_k a.2.2.2 _ _ _ (session_mk r4_1 r4_3 r4_4 r4_5) (session_mk rb4_1 rb4_3 rb4_4 rb4_5)).mono ?_
  rintro e w2 ⟨rfl, hb⟩
  replace A := A.stay hb
  replace B := B.stay hb
  replace BW := Below.step BW hb
  replace r3_1 := r3_1.keep hb
  replace rb3_1 := rb3_1.keep hb
  replace r3_3 := r3_3.keep hb
  replace rb3_3 := rb3_3.keep hb
  replace r3_4 := r3_4.keep hb
  replace rb3_4 := rb3_4.keep hb
  replace r3_5 := r3_5.keep hb
  replace rb3_5 := rb3_5.keep hb
  replace r4_1 := r4_1.keep hb
  replace rb4_1 := rb4_1.keep hb
  replace r4_3 := r4_3.keep hb
  replace rb4_3 := rb4_3.keep hb
  replace r4_4 := r4_4.keep hb
  replace rb4_4 := rb4_4.keep hb
  replace r4_5 := r4_5.keep hb
  replace rb4_5 := rb4_5.keep hb
  have ca0 := A.cell 0
  have cb0 := B.cell 0
  have ca1 := A.cell 1
  have cb1 := B.cell 1
  have ca2 := A.cell 2
  have cb2 := B.cell 2
  have ca3 := A.cell 3
  have cb3 := B.cell 3
  have ca4 := A.cell 4
  have cb4 := B.cell 4
  have ca5 := A.cell 5
  have cb5 := B.cell 5
  have ca6 := A.cell 6
  have cb6 := B.cell 6
  have ca7 := A.cell 7
  have cb7 := B.cell 7
  have ca8 := A.cell 8
  have cb8 := B.cell 8
  have ca9 := A.cell 9
  have cb9 := B.cell 9
  have ca10 := A.cell 10
  have cb10 := B.cell 10
  have ca11 := A.cell 11
  have cb11 := B.cell 11
  simp at ca0 cb0 ca1 cb1 ca2 cb2 ca3 cb3 ca4 cb4 ca5 cb5 ca6 cb6 ca7 cb7 ca8 cb8 ca9 cb9 ca10 cb10 ca11 cb11
  clear hb
  go_wp2
  go_ret
  exact ⟨rfl, BW⟩



end Go.Proofs.YthiabbgkfmopiaaGreat

