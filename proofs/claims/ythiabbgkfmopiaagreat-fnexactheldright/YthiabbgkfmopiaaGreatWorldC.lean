/- How World lies in memory, and the contracts of the laws' helpers on it (written by tools/codgen.py). -/
import Derived.Test.YthiabbgkfmopiaaGreatJoint8
import Derived.Test.YthiabbgkfmopiaaGreatWldK
import Derived.Test.YthiabbgkfmopiaaGreatJoint10
namespace Go.Proofs.YthiabbgkfmopiaaGreat
open Go.ChangeShapes Go.WideShapes Go.ChangeAt Go.RowKit

abbrev WorldD := Int × List CertD × List Int × List SignD × List LinkD × List (List UInt8) × List EventD
def worldC : Cod WorldD := prodC (intC .i64) (prodC certsC (prodC intsC (prodC signsC (prodC linksC (prodC blksC eventsC)))))
theorem world_rep {w : World} {a : WorldD} {vs : List Value} (h : worldC.rep w a vs) : ∃ p2 q2 p3 q3 p4 q4 p5 q5 p6 q6 p7 q7, vs = [.int .i64 a.1, .slice p2 a.2.1.length q2, .slice p3 a.2.2.1.length q3, .slice p4 a.2.2.2.1.length q4, .slice p5 a.2.2.2.2.1.length q5, .slice p6 a.2.2.2.2.2.1.length q6, .slice p7 a.2.2.2.2.2.2.length q7] ∧ RdL certC w p2 q2 a.2.1 ∧ RdL (intC .i64) w p3 q3 a.2.2.1 ∧ RdL signC w p4 q4 a.2.2.2.1 ∧ RdL linkC w p5 q5 a.2.2.2.2.1 ∧ RdL bytC w p6 q6 a.2.2.2.2.2.1 ∧ RdL eventC w p7 q7 a.2.2.2.2.2.2 := by
  obtain ⟨us0, ts0, rfl, h0, us1, ts1, rfl, h1, us2, ts2, rfl, h2, us3, ts3, rfl, h3, us4, ts4, rfl, h4, us5, ts5, rfl, h5, h6⟩ := h
  have e0 : us0 = [Value.int .i64 _] := h0
  subst e0
  obtain ⟨p2, q2, rfl, r2⟩ := h1
  obtain ⟨p3, q3, rfl, r3⟩ := h2
  obtain ⟨p4, q4, rfl, r4⟩ := h3
  obtain ⟨p5, q5, rfl, r5⟩ := h4
  obtain ⟨p6, q6, rfl, r6⟩ := h5
  obtain ⟨p7, q7, rfl, r7⟩ := h6
  exact ⟨p2, q2, p3, q3, p4, q4, p5, q5, p6, q6, p7, q7, rfl, r2, r3, r4, r5, r6, r7⟩
theorem world_mk {w : World} {a : WorldD} {p2 : Option Addr} {q2 : Nat} {p3 : Option Addr} {q3 : Nat} {p4 : Option Addr} {q4 : Nat} {p5 : Option Addr} {q5 : Nat} {p6 : Option Addr} {q6 : Nat} {p7 : Option Addr} {q7 : Nat} (r2 : RdL certC w p2 q2 a.2.1) (r3 : RdL (intC .i64) w p3 q3 a.2.2.1) (r4 : RdL signC w p4 q4 a.2.2.2.1) (r5 : RdL linkC w p5 q5 a.2.2.2.2.1) (r6 : RdL bytC w p6 q6 a.2.2.2.2.2.1) (r7 : RdL eventC w p7 q7 a.2.2.2.2.2.2) : worldC.rep w a [.int .i64 a.1, .slice p2 a.2.1.length q2, .slice p3 a.2.2.1.length q3, .slice p4 a.2.2.2.1.length q4, .slice p5 a.2.2.2.2.1.length q5, .slice p6 a.2.2.2.2.2.1.length q6, .slice p7 a.2.2.2.2.2.2.length q7] := ⟨[.int .i64 a.1], _, rfl, rfl, ⟨[.slice p2 a.2.1.length q2], _, rfl, ⟨p2, q2, rfl, r2⟩, ⟨[.slice p3 a.2.2.1.length q3], _, rfl, ⟨p3, q3, rfl, r3⟩, ⟨[.slice p4 a.2.2.2.1.length q4], _, rfl, ⟨p4, q4, rfl, r4⟩, ⟨[.slice p5 a.2.2.2.2.1.length q5], _, rfl, ⟨p5, q5, rfl, r5⟩, ⟨[.slice p6 a.2.2.2.2.2.1.length q6], _, rfl, ⟨p6, q6, rfl, r6⟩, ⟨p7, q7, rfl, r7⟩⟩⟩⟩⟩⟩⟩

def worldN (a : WorldD) : Nat := List.length a.2.1 + List.length a.2.2.1 + sizeSign a.2.2.2.1 + sizeLink a.2.2.2.2.1 + bulkB a.2.2.2.2.2.1 + sizeEvent a.2.2.2.2.2.2

set_option maxRecDepth 4000 in
set_option maxHeartbeats 1000000 in
theorem toWorld_k (a : WorldD) (us : List Value) (w : World) (h : worldC.rep w a us) (hl : worldN a ≤ 1048576) :
    Calls Tryz.prog 6 #[.agg us.toArray] w fun e w' => ∃ vs fp, e = .returned (.agg vs.toArray) ∧ worldC.own w' w.heap.size a vs fp ∧ Below w.heap.size w w' := by
  obtain ⟨p2, q2, p3, q3, p4, q4, p5, q5, p6, q6, p7, q7, rfl, r2, r3, r4, r5, r6, r7⟩ := world_rep h
  clear h
  have BW : Below w.heap.size w (((w.alloc (.cells #[.int .i64 a.1, .slice p2 a.2.1.length q2, .slice p3 a.2.2.1.length q3, .slice p4 a.2.2.2.1.length q4, .slice p5 a.2.2.2.2.1.length q5, .slice p6 a.2.2.2.2.2.1.length q6, .slice p7 a.2.2.2.2.2.2.length q7] 29)).alloc (.cells #[.int .i64 0, .slice none 0 0, .slice none 0 0, .slice none 0 0, .slice none 0 0, .slice none 0 0, .slice none 0 0] 37)).alloc (.cells #[.int .i64 a.1, .slice none 0 0, .slice none 0 0, .slice none 0 0, .slice none 0 0, .slice none 0 0, .slice none 0 0] 37)) := Below.mk (Below.mk (alloc_below _ _) _) _
  have R : Arr (((w.alloc (.cells #[.int .i64 a.1, .slice p2 a.2.1.length q2, .slice p3 a.2.2.1.length q3, .slice p4 a.2.2.2.1.length q4, .slice p5 a.2.2.2.2.1.length q5, .slice p6 a.2.2.2.2.2.1.length q6, .slice p7 a.2.2.2.2.2.2.length q7] 29)).alloc (.cells #[.int .i64 0, .slice none 0 0, .slice none 0 0, .slice none 0 0, .slice none 0 0, .slice none 0 0, .slice none 0 0] 37)).alloc (.cells #[.int .i64 a.1, .slice none 0 0, .slice none 0 0, .slice none 0 0, .slice none 0 0, .slice none 0 0, .slice none 0 0] 37)) (w.heap.size + 1) 37 [.int .i64 0, .slice none 0 0, .slice none 0 0, .slice none 0 0, .slice none 0 0, .slice none 0 0, .slice none 0 0] := by
    have h := Arr.new (w.alloc (.cells #[.int .i64 a.1, .slice p2 a.2.1.length q2, .slice p3 a.2.2.1.length q3, .slice p4 a.2.2.2.1.length q4, .slice p5 a.2.2.2.2.1.length q5, .slice p6 a.2.2.2.2.2.1.length q6, .slice p7 a.2.2.2.2.2.2.length q7] 29)) [.int .i64 0, .slice none 0 0, .slice none 0 0, .slice none 0 0, .slice none 0 0, .slice none 0 0, .slice none 0 0] 37
    rw [size_alloc] at h
    exact h.old _ _
  have A : Arr (((w.alloc (.cells #[.int .i64 a.1, .slice p2 a.2.1.length q2, .slice p3 a.2.2.1.length q3, .slice p4 a.2.2.2.1.length q4, .slice p5 a.2.2.2.2.1.length q5, .slice p6 a.2.2.2.2.2.1.length q6, .slice p7 a.2.2.2.2.2.2.length q7] 29)).alloc (.cells #[.int .i64 0, .slice none 0 0, .slice none 0 0, .slice none 0 0, .slice none 0 0, .slice none 0 0, .slice none 0 0] 37)).alloc (.cells #[.int .i64 a.1, .slice none 0 0, .slice none 0 0, .slice none 0 0, .slice none 0 0, .slice none 0 0, .slice none 0 0] 37)) w.heap.size 29 [.int .i64 a.1, .slice p2 a.2.1.length q2, .slice p3 a.2.2.1.length q3, .slice p4 a.2.2.2.1.length q4, .slice p5 a.2.2.2.2.1.length q5, .slice p6 a.2.2.2.2.2.1.length q6, .slice p7 a.2.2.2.2.2.2.length q7] := Arr.old _ _ (Arr.old _ _ (Arr.new w [.int .i64 a.1, .slice p2 a.2.1.length q2, .slice p3 a.2.2.1.length q3, .slice p4 a.2.2.2.1.length q4, .slice p5 a.2.2.2.2.1.length q5, .slice p6 a.2.2.2.2.2.1.length q6, .slice p7 a.2.2.2.2.2.2.length q7] 29))
  have O : Arr (((w.alloc (.cells #[.int .i64 a.1, .slice p2 a.2.1.length q2, .slice p3 a.2.2.1.length q3, .slice p4 a.2.2.2.1.length q4, .slice p5 a.2.2.2.2.1.length q5, .slice p6 a.2.2.2.2.2.1.length q6, .slice p7 a.2.2.2.2.2.2.length q7] 29)).alloc (.cells #[.int .i64 0, .slice none 0 0, .slice none 0 0, .slice none 0 0, .slice none 0 0, .slice none 0 0, .slice none 0 0] 37)).alloc (.cells #[.int .i64 a.1, .slice none 0 0, .slice none 0 0, .slice none 0 0, .slice none 0 0, .slice none 0 0, .slice none 0 0] 37)) (w.heap.size + 1 + 1) 37 [.int .i64 a.1, .slice none 0 0, .slice none 0 0, .slice none 0 0, .slice none 0 0, .slice none 0 0, .slice none 0 0] := by
    have h := Arr.new ((w.alloc (.cells #[.int .i64 a.1, .slice p2 a.2.1.length q2, .slice p3 a.2.2.1.length q3, .slice p4 a.2.2.2.1.length q4, .slice p5 a.2.2.2.2.1.length q5, .slice p6 a.2.2.2.2.2.1.length q6, .slice p7 a.2.2.2.2.2.2.length q7] 29)).alloc (.cells #[.int .i64 0, .slice none 0 0, .slice none 0 0, .slice none 0 0, .slice none 0 0, .slice none 0 0, .slice none 0 0] 37)) [.int .i64 a.1, .slice none 0 0, .slice none 0 0, .slice none 0 0, .slice none 0 0, .slice none 0 0, .slice none 0 0] 37
    rw [size_alloc, size_alloc] at h
    exact h
  have z0 : Hid ((((w.alloc (.cells #[.int .i64 a.1, .slice p2 a.2.1.length q2, .slice p3 a.2.2.1.length q3, .slice p4 a.2.2.2.1.length q4, .slice p5 a.2.2.2.2.1.length q5, .slice p6 a.2.2.2.2.2.1.length q6, .slice p7 a.2.2.2.2.2.2.length q7] 29)).alloc (.cells #[.int .i64 0, .slice none 0 0, .slice none 0 0, .slice none 0 0, .slice none 0 0, .slice none 0 0, .slice none 0 0] 37)).alloc (.cells #[.int .i64 a.1, .slice none 0 0, .slice none 0 0, .slice none 0 0, .slice none 0 0, .slice none 0 0, .slice none 0 0] 37)).heap.size = w.heap.size + 3) := by show _ = _; rw [size_alloc, size_alloc, size_alloc]
  have R2 : Hid (RdL certC w p2 q2 a.2.1) := r2
  have R3 : Hid (RdL (intC .i64) w p3 q3 a.2.2.1) := r3
  have R4 : Hid (RdL signC w p4 q4 a.2.2.2.1) := r4
  have R5 : Hid (RdL linkC w p5 q5 a.2.2.2.2.1) := r5
  have R6 : Hid (RdL bytC w p6 q6 a.2.2.2.2.2.1) := r6
  have R7 : Hid (RdL eventC w p7 q7 a.2.2.2.2.2.2) := r7
  clear r2 r3 r4 r5 r6 r7
  have HL : Hid (List.length a.2.1 + List.length a.2.2.1 + sizeSign a.2.2.2.1 + sizeLink a.2.2.2.2.1 + bulkB a.2.2.2.2.2.1 + sizeEvent a.2.2.2.2.2.2 ≤ 1048576) := hl
  clear hl
  go_enter Tryz.func6, Tryz.ntmps6
  go_wp2_with fail
  refine (toCertS_k a.2.1 _ _ ⟨p2, q2, rfl, R2.out.keep BW⟩ (by have := HL.out; omega)).mono ?_
  rintro e w1 ⟨v1, fp1, rfl, k1, hb⟩
  rw [z0.out] at k1
  have z1 : Hid (w.heap.size + 3 ≤ w1.heap.size) := by have h := hb.size; rw [z0.out] at h; exact h
  have g1 : Hid (∀ k, k ∈ fp1 → w.heap.size + 3 ≤ k ∧ k < w1.heap.size) := fun k hk => certsC.ins k1 k hk
  replace A := A.stay hb
  replace R := R.stay hb
  replace O := O.stay hb
  replace BW := Below.step BW hb
  obtain ⟨pv2, qv2, e1, -⟩ := certsC.toRep k1
  simp only [List.cons.injEq, and_true] at e1
  subst e1
  have ca0 := (A.cell 0).trans (show _ = some _ from rfl)
  have co0 := (O.cell 0).trans (show _ = some _ from rfl)
  have cr0 := (R.cell 0).trans (show _ = some _ from rfl)
  have ca1 := (A.cell 1).trans (show _ = some _ from rfl)
  have co1 := (O.cell 1).trans (show _ = some _ from rfl)
  have cr1 := (R.cell 1).trans (show _ = some _ from rfl)
  have ca2 := (A.cell 2).trans (show _ = some _ from rfl)
  have co2 := (O.cell 2).trans (show _ = some _ from rfl)
  have cr2 := (R.cell 2).trans (show _ = some _ from rfl)
  have ca3 := (A.cell 3).trans (show _ = some _ from rfl)
  have co3 := (O.cell 3).trans (show _ = some _ from rfl)
  have cr3 := (R.cell 3).trans (show _ = some _ from rfl)
  have ca4 := (A.cell 4).trans (show _ = some _ from rfl)
  have co4 := (O.cell 4).trans (show _ = some _ from rfl)
  have cr4 := (R.cell 4).trans (show _ = some _ from rfl)
  have ca5 := (A.cell 5).trans (show _ = some _ from rfl)
  have co5 := (O.cell 5).trans (show _ = some _ from rfl)
  have cr5 := (R.cell 5).trans (show _ = some _ from rfl)
  have ca6 := (A.cell 6).trans (show _ = some _ from rfl)
  have co6 := (O.cell 6).trans (show _ = some _ from rfl)
  have cr6 := (R.cell 6).trans (show _ = some _ from rfl)
  have fo := O.frozen
  have fr := R.frozen
  clear hb
  go_wp2_with fail
  replace A := A.setOther (a := ⟨w.heap.size + 1 + 1, 1, none⟩) (by simp; omega) (.slice pv2 a.2.1.length qv2)
  replace R := R.setOther (a := ⟨w.heap.size + 1 + 1, 1, none⟩) (by simp) (.slice pv2 a.2.1.length qv2)
  replace O := O.set 1 (.slice pv2 a.2.1.length qv2)
  replace BW := BW.setCell (p := ⟨w.heap.size + 1 + 1, 1, none⟩) (by show w.heap.size ≤ w.heap.size + 1 + 1; omega) (.slice pv2 a.2.1.length qv2)
  replace k1 := certsC.set k1 (p := ⟨w.heap.size + 1 + 1, 1, none⟩) (by show w.heap.size + 1 + 1 < w.heap.size + 3; omega) (.slice pv2 a.2.1.length qv2)
  simp only [List.set_cons_zero, List.set_cons_succ] at O
  refine (toInt64S_k a.2.2.1 _ _ ⟨p3, q3, rfl, R3.out.keep BW⟩ (by have := HL.out; omega)).mono ?_
  rintro e w2 ⟨v2, fp2, rfl, k2, hb⟩
  simp only [World.size_setCell] at k2
  have z2 : Hid (w1.heap.size ≤ w2.heap.size) := by have h := hb.size; simp only [World.size_setCell] at h; exact h
  have g2 : Hid (∀ k, k ∈ fp2 → w1.heap.size ≤ k ∧ k < w2.heap.size) := fun k hk => intsC.ins k2 k hk
  replace k2 := intsC.low k2 (show w.heap.size + 3 ≤ w1.heap.size by have := z1.out; omega)
  replace A := A.stay hb
  replace R := R.stay hb
  replace O := O.stay hb
  replace BW := Below.step BW hb
  replace k1 := certsC.stay k1 hb
  obtain ⟨pv3, qv3, e2, -⟩ := intsC.toRep k2
  simp only [List.cons.injEq, and_true] at e2
  subst e2
  have ca0 := (A.cell 0).trans (show _ = some _ from rfl)
  have co0 := (O.cell 0).trans (show _ = some _ from rfl)
  have cr0 := (R.cell 0).trans (show _ = some _ from rfl)
  have ca1 := (A.cell 1).trans (show _ = some _ from rfl)
  have co1 := (O.cell 1).trans (show _ = some _ from rfl)
  have cr1 := (R.cell 1).trans (show _ = some _ from rfl)
  have ca2 := (A.cell 2).trans (show _ = some _ from rfl)
  have co2 := (O.cell 2).trans (show _ = some _ from rfl)
  have cr2 := (R.cell 2).trans (show _ = some _ from rfl)
  have ca3 := (A.cell 3).trans (show _ = some _ from rfl)
  have co3 := (O.cell 3).trans (show _ = some _ from rfl)
  have cr3 := (R.cell 3).trans (show _ = some _ from rfl)
  have ca4 := (A.cell 4).trans (show _ = some _ from rfl)
  have co4 := (O.cell 4).trans (show _ = some _ from rfl)
  have cr4 := (R.cell 4).trans (show _ = some _ from rfl)
  have ca5 := (A.cell 5).trans (show _ = some _ from rfl)
  have co5 := (O.cell 5).trans (show _ = some _ from rfl)
  have cr5 := (R.cell 5).trans (show _ = some _ from rfl)
  have ca6 := (A.cell 6).trans (show _ = some _ from rfl)
  have co6 := (O.cell 6).trans (show _ = some _ from rfl)
  have cr6 := (R.cell 6).trans (show _ = some _ from rfl)
  have fo := O.frozen
  have fr := R.frozen
  clear hb
  go_wp2_with fail
  replace A := A.setOther (a := ⟨w.heap.size + 1 + 1, 2, none⟩) (by simp; omega) (.slice pv3 a.2.2.1.length qv3)
  replace R := R.setOther (a := ⟨w.heap.size + 1 + 1, 2, none⟩) (by simp) (.slice pv3 a.2.2.1.length qv3)
  replace O := O.set 2 (.slice pv3 a.2.2.1.length qv3)
  replace BW := BW.setCell (p := ⟨w.heap.size + 1 + 1, 2, none⟩) (by show w.heap.size ≤ w.heap.size + 1 + 1; omega) (.slice pv3 a.2.2.1.length qv3)
  replace k1 := certsC.set k1 (p := ⟨w.heap.size + 1 + 1, 2, none⟩) (by show w.heap.size + 1 + 1 < w.heap.size + 3; omega) (.slice pv3 a.2.2.1.length qv3)
  replace k2 := intsC.set k2 (p := ⟨w.heap.size + 1 + 1, 2, none⟩) (by show w.heap.size + 1 + 1 < w.heap.size + 3; omega) (.slice pv3 a.2.2.1.length qv3)
  simp only [List.set_cons_zero, List.set_cons_succ] at O
  refine (toSignS_k a.2.2.2.1 _ _ ⟨p4, q4, rfl, R4.out.keep BW⟩ (by have := HL.out; omega)).mono ?_
  rintro e w3 ⟨v3, fp3, rfl, k3, hb⟩
  simp only [World.size_setCell] at k3
  have z3 : Hid (w2.heap.size ≤ w3.heap.size) := by have h := hb.size; simp only [World.size_setCell] at h; exact h
  have g3 : Hid (∀ k, k ∈ fp3 → w2.heap.size ≤ k ∧ k < w3.heap.size) := fun k hk => signsC.ins k3 k hk
  replace k3 := signsC.low k3 (show w.heap.size + 3 ≤ w2.heap.size by have := z1.out; have := z2.out; omega)
  replace A := A.stay hb
  replace R := R.stay hb
  replace O := O.stay hb
  replace BW := Below.step BW hb
  replace k1 := certsC.stay k1 hb
  replace k2 := intsC.stay k2 hb
  obtain ⟨pv4, qv4, e3, -⟩ := signsC.toRep k3
  simp only [List.cons.injEq, and_true] at e3
  subst e3
  have ca0 := (A.cell 0).trans (show _ = some _ from rfl)
  have co0 := (O.cell 0).trans (show _ = some _ from rfl)
  have cr0 := (R.cell 0).trans (show _ = some _ from rfl)
  have ca1 := (A.cell 1).trans (show _ = some _ from rfl)
  have co1 := (O.cell 1).trans (show _ = some _ from rfl)
  have cr1 := (R.cell 1).trans (show _ = some _ from rfl)
  have ca2 := (A.cell 2).trans (show _ = some _ from rfl)
  have co2 := (O.cell 2).trans (show _ = some _ from rfl)
  have cr2 := (R.cell 2).trans (show _ = some _ from rfl)
  have ca3 := (A.cell 3).trans (show _ = some _ from rfl)
  have co3 := (O.cell 3).trans (show _ = some _ from rfl)
  have cr3 := (R.cell 3).trans (show _ = some _ from rfl)
  have ca4 := (A.cell 4).trans (show _ = some _ from rfl)
  have co4 := (O.cell 4).trans (show _ = some _ from rfl)
  have cr4 := (R.cell 4).trans (show _ = some _ from rfl)
  have ca5 := (A.cell 5).trans (show _ = some _ from rfl)
  have co5 := (O.cell 5).trans (show _ = some _ from rfl)
  have cr5 := (R.cell 5).trans (show _ = some _ from rfl)
  have ca6 := (A.cell 6).trans (show _ = some _ from rfl)
  have co6 := (O.cell 6).trans (show _ = some _ from rfl)
  have cr6 := (R.cell 6).trans (show _ = some _ from rfl)
  have fo := O.frozen
  have fr := R.frozen
  clear hb
  go_wp2_with fail
  replace A := A.setOther (a := ⟨w.heap.size + 1 + 1, 3, none⟩) (by simp; omega) (.slice pv4 a.2.2.2.1.length qv4)
  replace R := R.setOther (a := ⟨w.heap.size + 1 + 1, 3, none⟩) (by simp) (.slice pv4 a.2.2.2.1.length qv4)
  replace O := O.set 3 (.slice pv4 a.2.2.2.1.length qv4)
  replace BW := BW.setCell (p := ⟨w.heap.size + 1 + 1, 3, none⟩) (by show w.heap.size ≤ w.heap.size + 1 + 1; omega) (.slice pv4 a.2.2.2.1.length qv4)
  replace k1 := certsC.set k1 (p := ⟨w.heap.size + 1 + 1, 3, none⟩) (by show w.heap.size + 1 + 1 < w.heap.size + 3; omega) (.slice pv4 a.2.2.2.1.length qv4)
  replace k2 := intsC.set k2 (p := ⟨w.heap.size + 1 + 1, 3, none⟩) (by show w.heap.size + 1 + 1 < w.heap.size + 3; omega) (.slice pv4 a.2.2.2.1.length qv4)
  replace k3 := signsC.set k3 (p := ⟨w.heap.size + 1 + 1, 3, none⟩) (by show w.heap.size + 1 + 1 < w.heap.size + 3; omega) (.slice pv4 a.2.2.2.1.length qv4)
  simp only [List.set_cons_zero, List.set_cons_succ] at O
  refine (toLinkS_k a.2.2.2.2.1 _ _ ⟨p5, q5, rfl, R5.out.keep BW⟩ (by have := HL.out; omega)).mono ?_
  rintro e w4 ⟨v4, fp4, rfl, k4, hb⟩
  simp only [World.size_setCell] at k4
  have z4 : Hid (w3.heap.size ≤ w4.heap.size) := by have h := hb.size; simp only [World.size_setCell] at h; exact h
  have g4 : Hid (∀ k, k ∈ fp4 → w3.heap.size ≤ k ∧ k < w4.heap.size) := fun k hk => linksC.ins k4 k hk
  replace k4 := linksC.low k4 (show w.heap.size + 3 ≤ w3.heap.size by have := z1.out; have := z2.out; have := z3.out; omega)
  replace A := A.stay hb
  replace R := R.stay hb
  replace O := O.stay hb
  replace BW := Below.step BW hb
  replace k1 := certsC.stay k1 hb
  replace k2 := intsC.stay k2 hb
  replace k3 := signsC.stay k3 hb
  obtain ⟨pv5, qv5, e4, -⟩ := linksC.toRep k4
  simp only [List.cons.injEq, and_true] at e4
  subst e4
  have ca0 := (A.cell 0).trans (show _ = some _ from rfl)
  have co0 := (O.cell 0).trans (show _ = some _ from rfl)
  have cr0 := (R.cell 0).trans (show _ = some _ from rfl)
  have ca1 := (A.cell 1).trans (show _ = some _ from rfl)
  have co1 := (O.cell 1).trans (show _ = some _ from rfl)
  have cr1 := (R.cell 1).trans (show _ = some _ from rfl)
  have ca2 := (A.cell 2).trans (show _ = some _ from rfl)
  have co2 := (O.cell 2).trans (show _ = some _ from rfl)
  have cr2 := (R.cell 2).trans (show _ = some _ from rfl)
  have ca3 := (A.cell 3).trans (show _ = some _ from rfl)
  have co3 := (O.cell 3).trans (show _ = some _ from rfl)
  have cr3 := (R.cell 3).trans (show _ = some _ from rfl)
  have ca4 := (A.cell 4).trans (show _ = some _ from rfl)
  have co4 := (O.cell 4).trans (show _ = some _ from rfl)
  have cr4 := (R.cell 4).trans (show _ = some _ from rfl)
  have ca5 := (A.cell 5).trans (show _ = some _ from rfl)
  have co5 := (O.cell 5).trans (show _ = some _ from rfl)
  have cr5 := (R.cell 5).trans (show _ = some _ from rfl)
  have ca6 := (A.cell 6).trans (show _ = some _ from rfl)
  have co6 := (O.cell 6).trans (show _ = some _ from rfl)
  have cr6 := (R.cell 6).trans (show _ = some _ from rfl)
  have fo := O.frozen
  have fr := R.frozen
  clear hb
  go_wp2_with fail
  replace A := A.setOther (a := ⟨w.heap.size + 1 + 1, 4, none⟩) (by simp; omega) (.slice pv5 a.2.2.2.2.1.length qv5)
  replace R := R.setOther (a := ⟨w.heap.size + 1 + 1, 4, none⟩) (by simp) (.slice pv5 a.2.2.2.2.1.length qv5)
  replace O := O.set 4 (.slice pv5 a.2.2.2.2.1.length qv5)
  replace BW := BW.setCell (p := ⟨w.heap.size + 1 + 1, 4, none⟩) (by show w.heap.size ≤ w.heap.size + 1 + 1; omega) (.slice pv5 a.2.2.2.2.1.length qv5)
  replace k1 := certsC.set k1 (p := ⟨w.heap.size + 1 + 1, 4, none⟩) (by show w.heap.size + 1 + 1 < w.heap.size + 3; omega) (.slice pv5 a.2.2.2.2.1.length qv5)
  replace k2 := intsC.set k2 (p := ⟨w.heap.size + 1 + 1, 4, none⟩) (by show w.heap.size + 1 + 1 < w.heap.size + 3; omega) (.slice pv5 a.2.2.2.2.1.length qv5)
  replace k3 := signsC.set k3 (p := ⟨w.heap.size + 1 + 1, 4, none⟩) (by show w.heap.size + 1 + 1 < w.heap.size + 3; omega) (.slice pv5 a.2.2.2.2.1.length qv5)
  replace k4 := linksC.set k4 (p := ⟨w.heap.size + 1 + 1, 4, none⟩) (by show w.heap.size + 1 + 1 < w.heap.size + 3; omega) (.slice pv5 a.2.2.2.2.1.length qv5)
  simp only [List.set_cons_zero, List.set_cons_succ] at O
  refine (toByteSS_k a.2.2.2.2.2.1 _ _ ⟨p6, q6, rfl, R6.out.keep BW⟩ (by have := HL.out; omega)).mono ?_
  rintro e w5 ⟨v5, fp5, rfl, k5, hb⟩
  simp only [World.size_setCell] at k5
  have z5 : Hid (w4.heap.size ≤ w5.heap.size) := by have h := hb.size; simp only [World.size_setCell] at h; exact h
  have g5 : Hid (∀ k, k ∈ fp5 → w4.heap.size ≤ k ∧ k < w5.heap.size) := fun k hk => blksC.ins k5 k hk
  replace k5 := blksC.low k5 (show w.heap.size + 3 ≤ w4.heap.size by have := z1.out; have := z2.out; have := z3.out; have := z4.out; omega)
  replace A := A.stay hb
  replace R := R.stay hb
  replace O := O.stay hb
  replace BW := Below.step BW hb
  replace k1 := certsC.stay k1 hb
  replace k2 := intsC.stay k2 hb
  replace k3 := signsC.stay k3 hb
  replace k4 := linksC.stay k4 hb
  obtain ⟨pv6, qv6, e5, -⟩ := blksC.toRep k5
  simp only [List.cons.injEq, and_true] at e5
  subst e5
  have ca0 := (A.cell 0).trans (show _ = some _ from rfl)
  have co0 := (O.cell 0).trans (show _ = some _ from rfl)
  have cr0 := (R.cell 0).trans (show _ = some _ from rfl)
  have ca1 := (A.cell 1).trans (show _ = some _ from rfl)
  have co1 := (O.cell 1).trans (show _ = some _ from rfl)
  have cr1 := (R.cell 1).trans (show _ = some _ from rfl)
  have ca2 := (A.cell 2).trans (show _ = some _ from rfl)
  have co2 := (O.cell 2).trans (show _ = some _ from rfl)
  have cr2 := (R.cell 2).trans (show _ = some _ from rfl)
  have ca3 := (A.cell 3).trans (show _ = some _ from rfl)
  have co3 := (O.cell 3).trans (show _ = some _ from rfl)
  have cr3 := (R.cell 3).trans (show _ = some _ from rfl)
  have ca4 := (A.cell 4).trans (show _ = some _ from rfl)
  have co4 := (O.cell 4).trans (show _ = some _ from rfl)
  have cr4 := (R.cell 4).trans (show _ = some _ from rfl)
  have ca5 := (A.cell 5).trans (show _ = some _ from rfl)
  have co5 := (O.cell 5).trans (show _ = some _ from rfl)
  have cr5 := (R.cell 5).trans (show _ = some _ from rfl)
  have ca6 := (A.cell 6).trans (show _ = some _ from rfl)
  have co6 := (O.cell 6).trans (show _ = some _ from rfl)
  have cr6 := (R.cell 6).trans (show _ = some _ from rfl)
  have fo := O.frozen
  have fr := R.frozen
  clear hb
  go_wp2_with fail
  replace A := A.setOther (a := ⟨w.heap.size + 1 + 1, 5, none⟩) (by simp; omega) (.slice pv6 a.2.2.2.2.2.1.length qv6)
  replace R := R.setOther (a := ⟨w.heap.size + 1 + 1, 5, none⟩) (by simp) (.slice pv6 a.2.2.2.2.2.1.length qv6)
  replace O := O.set 5 (.slice pv6 a.2.2.2.2.2.1.length qv6)
  replace BW := BW.setCell (p := ⟨w.heap.size + 1 + 1, 5, none⟩) (by show w.heap.size ≤ w.heap.size + 1 + 1; omega) (.slice pv6 a.2.2.2.2.2.1.length qv6)
  replace k1 := certsC.set k1 (p := ⟨w.heap.size + 1 + 1, 5, none⟩) (by show w.heap.size + 1 + 1 < w.heap.size + 3; omega) (.slice pv6 a.2.2.2.2.2.1.length qv6)
  replace k2 := intsC.set k2 (p := ⟨w.heap.size + 1 + 1, 5, none⟩) (by show w.heap.size + 1 + 1 < w.heap.size + 3; omega) (.slice pv6 a.2.2.2.2.2.1.length qv6)
  replace k3 := signsC.set k3 (p := ⟨w.heap.size + 1 + 1, 5, none⟩) (by show w.heap.size + 1 + 1 < w.heap.size + 3; omega) (.slice pv6 a.2.2.2.2.2.1.length qv6)
  replace k4 := linksC.set k4 (p := ⟨w.heap.size + 1 + 1, 5, none⟩) (by show w.heap.size + 1 + 1 < w.heap.size + 3; omega) (.slice pv6 a.2.2.2.2.2.1.length qv6)
  replace k5 := blksC.set k5 (p := ⟨w.heap.size + 1 + 1, 5, none⟩) (by show w.heap.size + 1 + 1 < w.heap.size + 3; omega) (.slice pv6 a.2.2.2.2.2.1.length qv6)
  simp only [List.set_cons_zero, List.set_cons_succ] at O
  refine (toEventS_k a.2.2.2.2.2.2 _ _ ⟨p7, q7, rfl, R7.out.keep BW⟩ (by have := HL.out; omega)).mono ?_
  rintro e w6 ⟨v6, fp6, rfl, k6, hb⟩
  simp only [World.size_setCell] at k6
  have z6 : Hid (w5.heap.size ≤ w6.heap.size) := by have h := hb.size; simp only [World.size_setCell] at h; exact h
  have g6 : Hid (∀ k, k ∈ fp6 → w5.heap.size ≤ k ∧ k < w6.heap.size) := fun k hk => eventsC.ins k6 k hk
  replace k6 := eventsC.low k6 (show w.heap.size + 3 ≤ w5.heap.size by have := z1.out; have := z2.out; have := z3.out; have := z4.out; have := z5.out; omega)
  replace A := A.stay hb
  replace R := R.stay hb
  replace O := O.stay hb
  replace BW := Below.step BW hb
  replace k1 := certsC.stay k1 hb
  replace k2 := intsC.stay k2 hb
  replace k3 := signsC.stay k3 hb
  replace k4 := linksC.stay k4 hb
  replace k5 := blksC.stay k5 hb
  obtain ⟨pv7, qv7, e6, -⟩ := eventsC.toRep k6
  simp only [List.cons.injEq, and_true] at e6
  subst e6
  have ca0 := (A.cell 0).trans (show _ = some _ from rfl)
  have co0 := (O.cell 0).trans (show _ = some _ from rfl)
  have cr0 := (R.cell 0).trans (show _ = some _ from rfl)
  have ca1 := (A.cell 1).trans (show _ = some _ from rfl)
  have co1 := (O.cell 1).trans (show _ = some _ from rfl)
  have cr1 := (R.cell 1).trans (show _ = some _ from rfl)
  have ca2 := (A.cell 2).trans (show _ = some _ from rfl)
  have co2 := (O.cell 2).trans (show _ = some _ from rfl)
  have cr2 := (R.cell 2).trans (show _ = some _ from rfl)
  have ca3 := (A.cell 3).trans (show _ = some _ from rfl)
  have co3 := (O.cell 3).trans (show _ = some _ from rfl)
  have cr3 := (R.cell 3).trans (show _ = some _ from rfl)
  have ca4 := (A.cell 4).trans (show _ = some _ from rfl)
  have co4 := (O.cell 4).trans (show _ = some _ from rfl)
  have cr4 := (R.cell 4).trans (show _ = some _ from rfl)
  have ca5 := (A.cell 5).trans (show _ = some _ from rfl)
  have co5 := (O.cell 5).trans (show _ = some _ from rfl)
  have cr5 := (R.cell 5).trans (show _ = some _ from rfl)
  have ca6 := (A.cell 6).trans (show _ = some _ from rfl)
  have co6 := (O.cell 6).trans (show _ = some _ from rfl)
  have cr6 := (R.cell 6).trans (show _ = some _ from rfl)
  have fo := O.frozen
  have fr := R.frozen
  clear hb
  go_wp2_with fail
  refine bodyPost_ret (v := .agg #[.int .i64 a.1, .slice pv2 a.2.1.length qv2, .slice pv3 a.2.2.1.length qv3, .slice pv4 a.2.2.2.1.length qv4, .slice pv5 a.2.2.2.2.1.length qv5, .slice pv6 a.2.2.2.2.2.1.length qv6, .slice pv7 a.2.2.2.2.2.2.length qv7]) (by simp [results, Tryz.results6, go_sem, cr0, cr1, cr2, cr3, cr4, cr5, cr6]) rfl ⟨[.int .i64 a.1, .slice pv2 a.2.1.length qv2, .slice pv3 a.2.2.1.length qv3, .slice pv4 a.2.2.2.1.length qv4, .slice pv5 a.2.2.2.2.1.length qv5, .slice pv6 a.2.2.2.2.2.1.length qv6, .slice pv7 a.2.2.2.2.2.2.length qv7], _, rfl, worldC.low (own_pair 0 own_int (own_pair w1.heap.size (certsC.set (certsC.set (certsC.set (certsC.set (certsC.set (certsC.set (certsC.set (certsC.set k1 (show w.heap.size + 1 + 1 < w.heap.size + 3 by omega) _) (show w.heap.size + 1 < w.heap.size + 3 by omega) _) (show w.heap.size + 1 < w.heap.size + 3 by omega) _) (show w.heap.size + 1 < w.heap.size + 3 by omega) _) (show w.heap.size + 1 < w.heap.size + 3 by omega) _) (show w.heap.size + 1 < w.heap.size + 3 by omega) _) (show w.heap.size + 1 < w.heap.size + 3 by omega) _) (show w.heap.size + 1 < w.heap.size + 3 by omega) _) (own_pair w2.heap.size (intsC.set (intsC.set (intsC.set (intsC.set (intsC.set (intsC.set (intsC.set (intsC.set k2 (show w.heap.size + 1 + 1 < w.heap.size + 3 by omega) _) (show w.heap.size + 1 < w.heap.size + 3 by omega) _) (show w.heap.size + 1 < w.heap.size + 3 by omega) _) (show w.heap.size + 1 < w.heap.size + 3 by omega) _) (show w.heap.size + 1 < w.heap.size + 3 by omega) _) (show w.heap.size + 1 < w.heap.size + 3 by omega) _) (show w.heap.size + 1 < w.heap.size + 3 by omega) _) (show w.heap.size + 1 < w.heap.size + 3 by omega) _) (own_pair w3.heap.size (signsC.set (signsC.set (signsC.set (signsC.set (signsC.set (signsC.set (signsC.set (signsC.set k3 (show w.heap.size + 1 + 1 < w.heap.size + 3 by omega) _) (show w.heap.size + 1 < w.heap.size + 3 by omega) _) (show w.heap.size + 1 < w.heap.size + 3 by omega) _) (show w.heap.size + 1 < w.heap.size + 3 by omega) _) (show w.heap.size + 1 < w.heap.size + 3 by omega) _) (show w.heap.size + 1 < w.heap.size + 3 by omega) _) (show w.heap.size + 1 < w.heap.size + 3 by omega) _) (show w.heap.size + 1 < w.heap.size + 3 by omega) _) (own_pair w4.heap.size (linksC.set (linksC.set (linksC.set (linksC.set (linksC.set (linksC.set (linksC.set (linksC.set k4 (show w.heap.size + 1 + 1 < w.heap.size + 3 by omega) _) (show w.heap.size + 1 < w.heap.size + 3 by omega) _) (show w.heap.size + 1 < w.heap.size + 3 by omega) _) (show w.heap.size + 1 < w.heap.size + 3 by omega) _) (show w.heap.size + 1 < w.heap.size + 3 by omega) _) (show w.heap.size + 1 < w.heap.size + 3 by omega) _) (show w.heap.size + 1 < w.heap.size + 3 by omega) _) (show w.heap.size + 1 < w.heap.size + 3 by omega) _) (own_pair w5.heap.size (blksC.set (blksC.set (blksC.set (blksC.set (blksC.set (blksC.set (blksC.set (blksC.set k5 (show w.heap.size + 1 + 1 < w.heap.size + 3 by omega) _) (show w.heap.size + 1 < w.heap.size + 3 by omega) _) (show w.heap.size + 1 < w.heap.size + 3 by omega) _) (show w.heap.size + 1 < w.heap.size + 3 by omega) _) (show w.heap.size + 1 < w.heap.size + 3 by omega) _) (show w.heap.size + 1 < w.heap.size + 3 by omega) _) (show w.heap.size + 1 < w.heap.size + 3 by omega) _) (show w.heap.size + 1 < w.heap.size + 3 by omega) _) (eventsC.set (eventsC.set (eventsC.set (eventsC.set (eventsC.set (eventsC.set (eventsC.set (eventsC.set k6 (show w.heap.size + 1 + 1 < w.heap.size + 3 by omega) _) (show w.heap.size + 1 < w.heap.size + 3 by omega) _) (show w.heap.size + 1 < w.heap.size + 3 by omega) _) (show w.heap.size + 1 < w.heap.size + 3 by omega) _) (show w.heap.size + 1 < w.heap.size + 3 by omega) _) (show w.heap.size + 1 < w.heap.size + 3 by omega) _) (show w.heap.size + 1 < w.heap.size + 3 by omega) _) (show w.heap.size + 1 < w.heap.size + 3 by omega) _) (fun k hk => (g5.out k hk).2) (fun k hk => Nat.le_trans (by have := z1.out; have := z2.out; have := z3.out; have := z4.out; have := z5.out; have := z6.out; omega) (g6.out k hk).1)) (fun k hk => (g4.out k hk).2) (ge_app (fun k hk => Nat.le_trans (by have := z1.out; have := z2.out; have := z3.out; have := z4.out; have := z5.out; have := z6.out; omega) (g5.out k hk).1) (fun k hk => Nat.le_trans (by have := z1.out; have := z2.out; have := z3.out; have := z4.out; have := z5.out; have := z6.out; omega) (g6.out k hk).1))) (fun k hk => (g3.out k hk).2) (ge_app (fun k hk => Nat.le_trans (by have := z1.out; have := z2.out; have := z3.out; have := z4.out; have := z5.out; have := z6.out; omega) (g4.out k hk).1) (ge_app (fun k hk => Nat.le_trans (by have := z1.out; have := z2.out; have := z3.out; have := z4.out; have := z5.out; have := z6.out; omega) (g5.out k hk).1) (fun k hk => Nat.le_trans (by have := z1.out; have := z2.out; have := z3.out; have := z4.out; have := z5.out; have := z6.out; omega) (g6.out k hk).1)))) (fun k hk => (g2.out k hk).2) (ge_app (fun k hk => Nat.le_trans (by have := z1.out; have := z2.out; have := z3.out; have := z4.out; have := z5.out; have := z6.out; omega) (g3.out k hk).1) (ge_app (fun k hk => Nat.le_trans (by have := z1.out; have := z2.out; have := z3.out; have := z4.out; have := z5.out; have := z6.out; omega) (g4.out k hk).1) (ge_app (fun k hk => Nat.le_trans (by have := z1.out; have := z2.out; have := z3.out; have := z4.out; have := z5.out; have := z6.out; omega) (g5.out k hk).1) (fun k hk => Nat.le_trans (by have := z1.out; have := z2.out; have := z3.out; have := z4.out; have := z5.out; have := z6.out; omega) (g6.out k hk).1))))) (fun k hk => (g1.out k hk).2) (ge_app (fun k hk => Nat.le_trans (by have := z1.out; have := z2.out; have := z3.out; have := z4.out; have := z5.out; have := z6.out; omega) (g2.out k hk).1) (ge_app (fun k hk => Nat.le_trans (by have := z1.out; have := z2.out; have := z3.out; have := z4.out; have := z5.out; have := z6.out; omega) (g3.out k hk).1) (ge_app (fun k hk => Nat.le_trans (by have := z1.out; have := z2.out; have := z3.out; have := z4.out; have := z5.out; have := z6.out; omega) (g4.out k hk).1) (ge_app (fun k hk => Nat.le_trans (by have := z1.out; have := z2.out; have := z3.out; have := z4.out; have := z5.out; have := z6.out; omega) (g5.out k hk).1) (fun k hk => Nat.le_trans (by have := z1.out; have := z2.out; have := z3.out; have := z4.out; have := z5.out; have := z6.out; omega) (g6.out k hk).1)))))) lt_nil (fun _ _ => Nat.zero_le _)) (Nat.le_add_right _ 3), ((((((((BW.setCell (show w.heap.size ≤ w.heap.size + 1 + 1 by omega) _).setCell (show w.heap.size ≤ w.heap.size + 1 by omega) _).setCell (show w.heap.size ≤ w.heap.size + 1 by omega) _).setCell (show w.heap.size ≤ w.heap.size + 1 by omega) _).setCell (show w.heap.size ≤ w.heap.size + 1 by omega) _).setCell (show w.heap.size ≤ w.heap.size + 1 by omega) _).setCell (show w.heap.size ≤ w.heap.size + 1 by omega) _).setCell (show w.heap.size ≤ w.heap.size + 1 by omega) _)⟩

set_option maxRecDepth 4000 in
set_option maxHeartbeats 1000000 in
theorem szWorld_k (a : WorldD) (us : List Value) (left : Int) (w : World) (h : worldC.rep w a us) (h0 : 0 ≤ left) (h1 : left ≤ 1048576) :
    Calls Tryz.prog 4 #[.agg us.toArray, .int .i64 left] w fun e w' => e = .returned (.int .i64 (szR (worldN a) left)) ∧ Below w.heap.size w w' := by
  obtain ⟨p2, q2, p3, q3, p4, q4, p5, q5, p6, q6, p7, q7, rfl, r2, r3, r4, r5, r6, r7⟩ := world_rep h
  clear h
  have BW := alloc_below w (.cells #[.int .i64 a.1, .slice p2 a.2.1.length q2, .slice p3 a.2.2.1.length q3, .slice p4 a.2.2.2.1.length q4, .slice p5 a.2.2.2.2.1.length q5, .slice p6 a.2.2.2.2.2.1.length q6, .slice p7 a.2.2.2.2.2.2.length q7] 29)
  have A := Arr.new w [.int .i64 a.1, .slice p2 a.2.1.length q2, .slice p3 a.2.2.1.length q3, .slice p4 a.2.2.2.1.length q4, .slice p5 a.2.2.2.2.1.length q5, .slice p6 a.2.2.2.2.2.1.length q6, .slice p7 a.2.2.2.2.2.2.length q7] 29
  have R2 : Hid (RdL certC w p2 q2 a.2.1) := r2
  have R3 : Hid (RdL (intC .i64) w p3 q3 a.2.2.1) := r3
  have R4 : Hid (RdL signC w p4 q4 a.2.2.2.1) := r4
  have R5 : Hid (RdL linkC w p5 q5 a.2.2.2.2.1) := r5
  have R6 : Hid (RdL bytC w p6 q6 a.2.2.2.2.2.1) := r6
  have R7 : Hid (RdL eventC w p7 q7 a.2.2.2.2.2.2) := r7
  clear r2 r3 r4 r5 r6 r7
  by_cases s0 : ((List.length a.2.1 : Nat) : Int) ≤ left
  · by_cases s1 : ((List.length a.2.2.1 : Nat) : Int) ≤ left - ((List.length a.2.1 : Nat) : Int)
    · by_cases s2 : ((sizeSign a.2.2.2.1 : Nat) : Int) ≤ left - ((List.length a.2.1 : Nat) : Int) - ((List.length a.2.2.1 : Nat) : Int)
      · by_cases s3 : ((sizeLink a.2.2.2.2.1 : Nat) : Int) ≤ left - ((List.length a.2.1 : Nat) : Int) - ((List.length a.2.2.1 : Nat) : Int) - ((sizeSign a.2.2.2.1 : Nat) : Int)
        · by_cases s4 : ((bulkB a.2.2.2.2.2.1 : Nat) : Int) ≤ left - ((List.length a.2.1 : Nat) : Int) - ((List.length a.2.2.1 : Nat) : Int) - ((sizeSign a.2.2.2.1 : Nat) : Int) - ((sizeLink a.2.2.2.2.1 : Nat) : Int)
          · by_cases s5 : ((sizeEvent a.2.2.2.2.2.2 : Nat) : Int) ≤ left - ((List.length a.2.1 : Nat) : Int) - ((List.length a.2.2.1 : Nat) : Int) - ((sizeSign a.2.2.2.1 : Nat) : Int) - ((sizeLink a.2.2.2.2.1 : Nat) : Int) - ((bulkB a.2.2.2.2.2.1 : Nat) : Int)
            · go_enter Tryz.func4, Tryz.ntmps4
              go_wp2_with fail
              refine (szCertS_k a.2.1 _ _ _ ⟨p2, q2, rfl, R2.out.keep BW⟩ (by omega) (by omega)).mono ?_
              rintro e w1 ⟨rfl, hb⟩
              replace A := A.stay hb
              replace BW := Below.step BW hb
              have ca0 := (A.cell 0).trans (show _ = some _ from rfl)
              have ca1 := (A.cell 1).trans (show _ = some _ from rfl)
              have ca2 := (A.cell 2).trans (show _ = some _ from rfl)
              have ca3 := (A.cell 3).trans (show _ = some _ from rfl)
              have ca4 := (A.cell 4).trans (show _ = some _ from rfl)
              have ca5 := (A.cell 5).trans (show _ = some _ from rfl)
              have ca6 := (A.cell 6).trans (show _ = some _ from rfl)
              clear hb
              rw [szR, if_pos (by omega)]
              go_wp2_with fail
              refine (szInt64S_k a.2.2.1 _ _ _ ⟨p3, q3, rfl, R3.out.keep BW⟩ (by omega) (by omega)).mono ?_
              rintro e w2 ⟨rfl, hb⟩
              replace A := A.stay hb
              replace BW := Below.step BW hb
              have ca0 := (A.cell 0).trans (show _ = some _ from rfl)
              have ca1 := (A.cell 1).trans (show _ = some _ from rfl)
              have ca2 := (A.cell 2).trans (show _ = some _ from rfl)
              have ca3 := (A.cell 3).trans (show _ = some _ from rfl)
              have ca4 := (A.cell 4).trans (show _ = some _ from rfl)
              have ca5 := (A.cell 5).trans (show _ = some _ from rfl)
              have ca6 := (A.cell 6).trans (show _ = some _ from rfl)
              clear hb
              rw [szR, if_pos (by omega)]
              go_wp2_with fail
              refine (szSignS_k a.2.2.2.1 _ _ _ ⟨p4, q4, rfl, R4.out.keep BW⟩ (by omega) (by omega)).mono ?_
              rintro e w3 ⟨rfl, hb⟩
              replace A := A.stay hb
              replace BW := Below.step BW hb
              have ca0 := (A.cell 0).trans (show _ = some _ from rfl)
              have ca1 := (A.cell 1).trans (show _ = some _ from rfl)
              have ca2 := (A.cell 2).trans (show _ = some _ from rfl)
              have ca3 := (A.cell 3).trans (show _ = some _ from rfl)
              have ca4 := (A.cell 4).trans (show _ = some _ from rfl)
              have ca5 := (A.cell 5).trans (show _ = some _ from rfl)
              have ca6 := (A.cell 6).trans (show _ = some _ from rfl)
              clear hb
              rw [szR, if_pos (by omega)]
              go_wp2_with fail
              refine (szLinkS_k a.2.2.2.2.1 _ _ _ ⟨p5, q5, rfl, R5.out.keep BW⟩ (by omega) (by omega)).mono ?_
              rintro e w4 ⟨rfl, hb⟩
              replace A := A.stay hb
              replace BW := Below.step BW hb
              have ca0 := (A.cell 0).trans (show _ = some _ from rfl)
              have ca1 := (A.cell 1).trans (show _ = some _ from rfl)
              have ca2 := (A.cell 2).trans (show _ = some _ from rfl)
              have ca3 := (A.cell 3).trans (show _ = some _ from rfl)
              have ca4 := (A.cell 4).trans (show _ = some _ from rfl)
              have ca5 := (A.cell 5).trans (show _ = some _ from rfl)
              have ca6 := (A.cell 6).trans (show _ = some _ from rfl)
              clear hb
              rw [szR, if_pos (by omega)]
              go_wp2_with fail
              refine (szByteSS_k a.2.2.2.2.2.1 _ _ _ ⟨p6, q6, rfl, R6.out.keep BW⟩ (by omega) (by omega)).mono ?_
              rintro e w5 ⟨rfl, hb⟩
              replace A := A.stay hb
              replace BW := Below.step BW hb
              have ca0 := (A.cell 0).trans (show _ = some _ from rfl)
              have ca1 := (A.cell 1).trans (show _ = some _ from rfl)
              have ca2 := (A.cell 2).trans (show _ = some _ from rfl)
              have ca3 := (A.cell 3).trans (show _ = some _ from rfl)
              have ca4 := (A.cell 4).trans (show _ = some _ from rfl)
              have ca5 := (A.cell 5).trans (show _ = some _ from rfl)
              have ca6 := (A.cell 6).trans (show _ = some _ from rfl)
              clear hb
              rw [szR, if_pos (by omega)]
              go_wp2_with fail
              refine (szEventS_k a.2.2.2.2.2.2 _ _ _ ⟨p7, q7, rfl, R7.out.keep BW⟩ (by omega) (by omega)).mono ?_
              rintro e w6 ⟨rfl, hb⟩
              replace A := A.stay hb
              replace BW := Below.step BW hb
              have ca0 := (A.cell 0).trans (show _ = some _ from rfl)
              have ca1 := (A.cell 1).trans (show _ = some _ from rfl)
              have ca2 := (A.cell 2).trans (show _ = some _ from rfl)
              have ca3 := (A.cell 3).trans (show _ = some _ from rfl)
              have ca4 := (A.cell 4).trans (show _ = some _ from rfl)
              have ca5 := (A.cell 5).trans (show _ = some _ from rfl)
              have ca6 := (A.cell 6).trans (show _ = some _ from rfl)
              clear hb
              rw [szR, if_pos (by omega)]
              have hne : ¬ (left - (List.length a.2.1 : Int) - (List.length a.2.2.1 : Int) - (sizeSign a.2.2.2.1 : Int) - (sizeLink a.2.2.2.2.1 : Int) - (bulkB a.2.2.2.2.2.1 : Int) - (sizeEvent a.2.2.2.2.2.2 : Int) < 0) := by omega
              have hE : Hid (szR (worldN a) left = left - (List.length a.2.1 : Int) - (List.length a.2.2.1 : Int) - (sizeSign a.2.2.2.1 : Int) - (sizeLink a.2.2.2.2.1 : Int) - (bulkB a.2.2.2.2.2.1 : Int) - (sizeEvent a.2.2.2.2.2.2 : Int)) := by show _ = _; unfold worldN; rw [szR, if_pos (by omega)] <;> omega
              go_wp2
              go_ret
              exact ⟨by rw [hE.out]; rfl, BW⟩
            · go_enter Tryz.func4, Tryz.ntmps4
              go_wp2_with fail
              refine (szCertS_k a.2.1 _ _ _ ⟨p2, q2, rfl, R2.out.keep BW⟩ (by omega) (by omega)).mono ?_
              rintro e w1 ⟨rfl, hb⟩
              replace A := A.stay hb
              replace BW := Below.step BW hb
              have ca0 := (A.cell 0).trans (show _ = some _ from rfl)
              have ca1 := (A.cell 1).trans (show _ = some _ from rfl)
              have ca2 := (A.cell 2).trans (show _ = some _ from rfl)
              have ca3 := (A.cell 3).trans (show _ = some _ from rfl)
              have ca4 := (A.cell 4).trans (show _ = some _ from rfl)
              have ca5 := (A.cell 5).trans (show _ = some _ from rfl)
              have ca6 := (A.cell 6).trans (show _ = some _ from rfl)
              clear hb
              rw [szR, if_pos (by omega)]
              go_wp2_with fail
              refine (szInt64S_k a.2.2.1 _ _ _ ⟨p3, q3, rfl, R3.out.keep BW⟩ (by omega) (by omega)).mono ?_
              rintro e w2 ⟨rfl, hb⟩
              replace A := A.stay hb
              replace BW := Below.step BW hb
              have ca0 := (A.cell 0).trans (show _ = some _ from rfl)
              have ca1 := (A.cell 1).trans (show _ = some _ from rfl)
              have ca2 := (A.cell 2).trans (show _ = some _ from rfl)
              have ca3 := (A.cell 3).trans (show _ = some _ from rfl)
              have ca4 := (A.cell 4).trans (show _ = some _ from rfl)
              have ca5 := (A.cell 5).trans (show _ = some _ from rfl)
              have ca6 := (A.cell 6).trans (show _ = some _ from rfl)
              clear hb
              rw [szR, if_pos (by omega)]
              go_wp2_with fail
              refine (szSignS_k a.2.2.2.1 _ _ _ ⟨p4, q4, rfl, R4.out.keep BW⟩ (by omega) (by omega)).mono ?_
              rintro e w3 ⟨rfl, hb⟩
              replace A := A.stay hb
              replace BW := Below.step BW hb
              have ca0 := (A.cell 0).trans (show _ = some _ from rfl)
              have ca1 := (A.cell 1).trans (show _ = some _ from rfl)
              have ca2 := (A.cell 2).trans (show _ = some _ from rfl)
              have ca3 := (A.cell 3).trans (show _ = some _ from rfl)
              have ca4 := (A.cell 4).trans (show _ = some _ from rfl)
              have ca5 := (A.cell 5).trans (show _ = some _ from rfl)
              have ca6 := (A.cell 6).trans (show _ = some _ from rfl)
              clear hb
              rw [szR, if_pos (by omega)]
              go_wp2_with fail
              refine (szLinkS_k a.2.2.2.2.1 _ _ _ ⟨p5, q5, rfl, R5.out.keep BW⟩ (by omega) (by omega)).mono ?_
              rintro e w4 ⟨rfl, hb⟩
              replace A := A.stay hb
              replace BW := Below.step BW hb
              have ca0 := (A.cell 0).trans (show _ = some _ from rfl)
              have ca1 := (A.cell 1).trans (show _ = some _ from rfl)
              have ca2 := (A.cell 2).trans (show _ = some _ from rfl)
              have ca3 := (A.cell 3).trans (show _ = some _ from rfl)
              have ca4 := (A.cell 4).trans (show _ = some _ from rfl)
              have ca5 := (A.cell 5).trans (show _ = some _ from rfl)
              have ca6 := (A.cell 6).trans (show _ = some _ from rfl)
              clear hb
              rw [szR, if_pos (by omega)]
              go_wp2_with fail
              refine (szByteSS_k a.2.2.2.2.2.1 _ _ _ ⟨p6, q6, rfl, R6.out.keep BW⟩ (by omega) (by omega)).mono ?_
              rintro e w5 ⟨rfl, hb⟩
              replace A := A.stay hb
              replace BW := Below.step BW hb
              have ca0 := (A.cell 0).trans (show _ = some _ from rfl)
              have ca1 := (A.cell 1).trans (show _ = some _ from rfl)
              have ca2 := (A.cell 2).trans (show _ = some _ from rfl)
              have ca3 := (A.cell 3).trans (show _ = some _ from rfl)
              have ca4 := (A.cell 4).trans (show _ = some _ from rfl)
              have ca5 := (A.cell 5).trans (show _ = some _ from rfl)
              have ca6 := (A.cell 6).trans (show _ = some _ from rfl)
              clear hb
              rw [szR, if_pos (by omega)]
              go_wp2_with fail
              refine (szEventS_k a.2.2.2.2.2.2 _ _ _ ⟨p7, q7, rfl, R7.out.keep BW⟩ (by omega) (by omega)).mono ?_
              rintro e w6 ⟨rfl, hb⟩
              replace A := A.stay hb
              replace BW := Below.step BW hb
              have ca0 := (A.cell 0).trans (show _ = some _ from rfl)
              have ca1 := (A.cell 1).trans (show _ = some _ from rfl)
              have ca2 := (A.cell 2).trans (show _ = some _ from rfl)
              have ca3 := (A.cell 3).trans (show _ = some _ from rfl)
              have ca4 := (A.cell 4).trans (show _ = some _ from rfl)
              have ca5 := (A.cell 5).trans (show _ = some _ from rfl)
              have ca6 := (A.cell 6).trans (show _ = some _ from rfl)
              clear hb
              rw [szR, if_neg (by omega)]
              go_wp2
              go_ret
              exact ⟨by unfold worldN; rw [szR, if_neg (by omega)] <;> rfl, BW⟩
          · go_enter Tryz.func4, Tryz.ntmps4
            go_wp2_with fail
            refine (szCertS_k a.2.1 _ _ _ ⟨p2, q2, rfl, R2.out.keep BW⟩ (by omega) (by omega)).mono ?_
            rintro e w1 ⟨rfl, hb⟩
            replace A := A.stay hb
            replace BW := Below.step BW hb
            have ca0 := (A.cell 0).trans (show _ = some _ from rfl)
            have ca1 := (A.cell 1).trans (show _ = some _ from rfl)
            have ca2 := (A.cell 2).trans (show _ = some _ from rfl)
            have ca3 := (A.cell 3).trans (show _ = some _ from rfl)
            have ca4 := (A.cell 4).trans (show _ = some _ from rfl)
            have ca5 := (A.cell 5).trans (show _ = some _ from rfl)
            have ca6 := (A.cell 6).trans (show _ = some _ from rfl)
            clear hb
            rw [szR, if_pos (by omega)]
            go_wp2_with fail
            refine (szInt64S_k a.2.2.1 _ _ _ ⟨p3, q3, rfl, R3.out.keep BW⟩ (by omega) (by omega)).mono ?_
            rintro e w2 ⟨rfl, hb⟩
            replace A := A.stay hb
            replace BW := Below.step BW hb
            have ca0 := (A.cell 0).trans (show _ = some _ from rfl)
            have ca1 := (A.cell 1).trans (show _ = some _ from rfl)
            have ca2 := (A.cell 2).trans (show _ = some _ from rfl)
            have ca3 := (A.cell 3).trans (show _ = some _ from rfl)
            have ca4 := (A.cell 4).trans (show _ = some _ from rfl)
            have ca5 := (A.cell 5).trans (show _ = some _ from rfl)
            have ca6 := (A.cell 6).trans (show _ = some _ from rfl)
            clear hb
            rw [szR, if_pos (by omega)]
            go_wp2_with fail
            refine (szSignS_k a.2.2.2.1 _ _ _ ⟨p4, q4, rfl, R4.out.keep BW⟩ (by omega) (by omega)).mono ?_
            rintro e w3 ⟨rfl, hb⟩
            replace A := A.stay hb
            replace BW := Below.step BW hb
            have ca0 := (A.cell 0).trans (show _ = some _ from rfl)
            have ca1 := (A.cell 1).trans (show _ = some _ from rfl)
            have ca2 := (A.cell 2).trans (show _ = some _ from rfl)
            have ca3 := (A.cell 3).trans (show _ = some _ from rfl)
            have ca4 := (A.cell 4).trans (show _ = some _ from rfl)
            have ca5 := (A.cell 5).trans (show _ = some _ from rfl)
            have ca6 := (A.cell 6).trans (show _ = some _ from rfl)
            clear hb
            rw [szR, if_pos (by omega)]
            go_wp2_with fail
            refine (szLinkS_k a.2.2.2.2.1 _ _ _ ⟨p5, q5, rfl, R5.out.keep BW⟩ (by omega) (by omega)).mono ?_
            rintro e w4 ⟨rfl, hb⟩
            replace A := A.stay hb
            replace BW := Below.step BW hb
            have ca0 := (A.cell 0).trans (show _ = some _ from rfl)
            have ca1 := (A.cell 1).trans (show _ = some _ from rfl)
            have ca2 := (A.cell 2).trans (show _ = some _ from rfl)
            have ca3 := (A.cell 3).trans (show _ = some _ from rfl)
            have ca4 := (A.cell 4).trans (show _ = some _ from rfl)
            have ca5 := (A.cell 5).trans (show _ = some _ from rfl)
            have ca6 := (A.cell 6).trans (show _ = some _ from rfl)
            clear hb
            rw [szR, if_pos (by omega)]
            go_wp2_with fail
            refine (szByteSS_k a.2.2.2.2.2.1 _ _ _ ⟨p6, q6, rfl, R6.out.keep BW⟩ (by omega) (by omega)).mono ?_
            rintro e w5 ⟨rfl, hb⟩
            replace A := A.stay hb
            replace BW := Below.step BW hb
            have ca0 := (A.cell 0).trans (show _ = some _ from rfl)
            have ca1 := (A.cell 1).trans (show _ = some _ from rfl)
            have ca2 := (A.cell 2).trans (show _ = some _ from rfl)
            have ca3 := (A.cell 3).trans (show _ = some _ from rfl)
            have ca4 := (A.cell 4).trans (show _ = some _ from rfl)
            have ca5 := (A.cell 5).trans (show _ = some _ from rfl)
            have ca6 := (A.cell 6).trans (show _ = some _ from rfl)
            clear hb
            rw [szR, if_neg (by omega)]
            go_wp2
            go_ret
            exact ⟨by unfold worldN; rw [szR, if_neg (by omega)] <;> rfl, BW⟩
        · go_enter Tryz.func4, Tryz.ntmps4
          go_wp2_with fail
          refine (szCertS_k a.2.1 _ _ _ ⟨p2, q2, rfl, R2.out.keep BW⟩ (by omega) (by omega)).mono ?_
          rintro e w1 ⟨rfl, hb⟩
          replace A := A.stay hb
          replace BW := Below.step BW hb
          have ca0 := (A.cell 0).trans (show _ = some _ from rfl)
          have ca1 := (A.cell 1).trans (show _ = some _ from rfl)
          have ca2 := (A.cell 2).trans (show _ = some _ from rfl)
          have ca3 := (A.cell 3).trans (show _ = some _ from rfl)
          have ca4 := (A.cell 4).trans (show _ = some _ from rfl)
          have ca5 := (A.cell 5).trans (show _ = some _ from rfl)
          have ca6 := (A.cell 6).trans (show _ = some _ from rfl)
          clear hb
          rw [szR, if_pos (by omega)]
          go_wp2_with fail
          refine (szInt64S_k a.2.2.1 _ _ _ ⟨p3, q3, rfl, R3.out.keep BW⟩ (by omega) (by omega)).mono ?_
          rintro e w2 ⟨rfl, hb⟩
          replace A := A.stay hb
          replace BW := Below.step BW hb
          have ca0 := (A.cell 0).trans (show _ = some _ from rfl)
          have ca1 := (A.cell 1).trans (show _ = some _ from rfl)
          have ca2 := (A.cell 2).trans (show _ = some _ from rfl)
          have ca3 := (A.cell 3).trans (show _ = some _ from rfl)
          have ca4 := (A.cell 4).trans (show _ = some _ from rfl)
          have ca5 := (A.cell 5).trans (show _ = some _ from rfl)
          have ca6 := (A.cell 6).trans (show _ = some _ from rfl)
          clear hb
          rw [szR, if_pos (by omega)]
          go_wp2_with fail
          refine (szSignS_k a.2.2.2.1 _ _ _ ⟨p4, q4, rfl, R4.out.keep BW⟩ (by omega) (by omega)).mono ?_
          rintro e w3 ⟨rfl, hb⟩
          replace A := A.stay hb
          replace BW := Below.step BW hb
          have ca0 := (A.cell 0).trans (show _ = some _ from rfl)
          have ca1 := (A.cell 1).trans (show _ = some _ from rfl)
          have ca2 := (A.cell 2).trans (show _ = some _ from rfl)
          have ca3 := (A.cell 3).trans (show _ = some _ from rfl)
          have ca4 := (A.cell 4).trans (show _ = some _ from rfl)
          have ca5 := (A.cell 5).trans (show _ = some _ from rfl)
          have ca6 := (A.cell 6).trans (show _ = some _ from rfl)
          clear hb
          rw [szR, if_pos (by omega)]
          go_wp2_with fail
          refine (szLinkS_k a.2.2.2.2.1 _ _ _ ⟨p5, q5, rfl, R5.out.keep BW⟩ (by omega) (by omega)).mono ?_
          rintro e w4 ⟨rfl, hb⟩
          replace A := A.stay hb
          replace BW := Below.step BW hb
          have ca0 := (A.cell 0).trans (show _ = some _ from rfl)
          have ca1 := (A.cell 1).trans (show _ = some _ from rfl)
          have ca2 := (A.cell 2).trans (show _ = some _ from rfl)
          have ca3 := (A.cell 3).trans (show _ = some _ from rfl)
          have ca4 := (A.cell 4).trans (show _ = some _ from rfl)
          have ca5 := (A.cell 5).trans (show _ = some _ from rfl)
          have ca6 := (A.cell 6).trans (show _ = some _ from rfl)
          clear hb
          rw [szR, if_neg (by omega)]
          go_wp2
          go_ret
          exact ⟨by unfold worldN; rw [szR, if_neg (by omega)] <;> rfl, BW⟩
      · go_enter Tryz.func4, Tryz.ntmps4
        go_wp2_with fail
        refine (szCertS_k a.2.1 _ _ _ ⟨p2, q2, rfl, R2.out.keep BW⟩ (by omega) (by omega)).mono ?_
        rintro e w1 ⟨rfl, hb⟩
        replace A := A.stay hb
        replace BW := Below.step BW hb
        have ca0 := (A.cell 0).trans (show _ = some _ from rfl)
        have ca1 := (A.cell 1).trans (show _ = some _ from rfl)
        have ca2 := (A.cell 2).trans (show _ = some _ from rfl)
        have ca3 := (A.cell 3).trans (show _ = some _ from rfl)
        have ca4 := (A.cell 4).trans (show _ = some _ from rfl)
        have ca5 := (A.cell 5).trans (show _ = some _ from rfl)
        have ca6 := (A.cell 6).trans (show _ = some _ from rfl)
        clear hb
        rw [szR, if_pos (by omega)]
        go_wp2_with fail
        refine (szInt64S_k a.2.2.1 _ _ _ ⟨p3, q3, rfl, R3.out.keep BW⟩ (by omega) (by omega)).mono ?_
        rintro e w2 ⟨rfl, hb⟩
        replace A := A.stay hb
        replace BW := Below.step BW hb
        have ca0 := (A.cell 0).trans (show _ = some _ from rfl)
        have ca1 := (A.cell 1).trans (show _ = some _ from rfl)
        have ca2 := (A.cell 2).trans (show _ = some _ from rfl)
        have ca3 := (A.cell 3).trans (show _ = some _ from rfl)
        have ca4 := (A.cell 4).trans (show _ = some _ from rfl)
        have ca5 := (A.cell 5).trans (show _ = some _ from rfl)
        have ca6 := (A.cell 6).trans (show _ = some _ from rfl)
        clear hb
        rw [szR, if_pos (by omega)]
        go_wp2_with fail
        refine (szSignS_k a.2.2.2.1 _ _ _ ⟨p4, q4, rfl, R4.out.keep BW⟩ (by omega) (by omega)).mono ?_
        rintro e w3 ⟨rfl, hb⟩
        replace A := A.stay hb
        replace BW := Below.step BW hb
        have ca0 := (A.cell 0).trans (show _ = some _ from rfl)
        have ca1 := (A.cell 1).trans (show _ = some _ from rfl)
        have ca2 := (A.cell 2).trans (show _ = some _ from rfl)
        have ca3 := (A.cell 3).trans (show _ = some _ from rfl)
        have ca4 := (A.cell 4).trans (show _ = some _ from rfl)
        have ca5 := (A.cell 5).trans (show _ = some _ from rfl)
        have ca6 := (A.cell 6).trans (show _ = some _ from rfl)
        clear hb
        rw [szR, if_neg (by omega)]
        go_wp2
        go_ret
        exact ⟨by unfold worldN; rw [szR, if_neg (by omega)] <;> rfl, BW⟩
    · go_enter Tryz.func4, Tryz.ntmps4
      go_wp2_with fail
      refine (szCertS_k a.2.1 _ _ _ ⟨p2, q2, rfl, R2.out.keep BW⟩ (by omega) (by omega)).mono ?_
      rintro e w1 ⟨rfl, hb⟩
      replace A := A.stay hb
      replace BW := Below.step BW hb
      have ca0 := (A.cell 0).trans (show _ = some _ from rfl)
      have ca1 := (A.cell 1).trans (show _ = some _ from rfl)
      have ca2 := (A.cell 2).trans (show _ = some _ from rfl)
      have ca3 := (A.cell 3).trans (show _ = some _ from rfl)
      have ca4 := (A.cell 4).trans (show _ = some _ from rfl)
      have ca5 := (A.cell 5).trans (show _ = some _ from rfl)
      have ca6 := (A.cell 6).trans (show _ = some _ from rfl)
      clear hb
      rw [szR, if_pos (by omega)]
      go_wp2_with fail
      refine (szInt64S_k a.2.2.1 _ _ _ ⟨p3, q3, rfl, R3.out.keep BW⟩ (by omega) (by omega)).mono ?_
      rintro e w2 ⟨rfl, hb⟩
      replace A := A.stay hb
      replace BW := Below.step BW hb
      have ca0 := (A.cell 0).trans (show _ = some _ from rfl)
      have ca1 := (A.cell 1).trans (show _ = some _ from rfl)
      have ca2 := (A.cell 2).trans (show _ = some _ from rfl)
      have ca3 := (A.cell 3).trans (show _ = some _ from rfl)
      have ca4 := (A.cell 4).trans (show _ = some _ from rfl)
      have ca5 := (A.cell 5).trans (show _ = some _ from rfl)
      have ca6 := (A.cell 6).trans (show _ = some _ from rfl)
      clear hb
      rw [szR, if_neg (by omega)]
      go_wp2
      go_ret
      exact ⟨by unfold worldN; rw [szR, if_neg (by omega)] <;> rfl, BW⟩
  · go_enter Tryz.func4, Tryz.ntmps4
    go_wp2_with fail
    refine (szCertS_k a.2.1 _ _ _ ⟨p2, q2, rfl, R2.out.keep BW⟩ (by omega) (by omega)).mono ?_
    rintro e w1 ⟨rfl, hb⟩
    replace A := A.stay hb
    replace BW := Below.step BW hb
    have ca0 := (A.cell 0).trans (show _ = some _ from rfl)
    have ca1 := (A.cell 1).trans (show _ = some _ from rfl)
    have ca2 := (A.cell 2).trans (show _ = some _ from rfl)
    have ca3 := (A.cell 3).trans (show _ = some _ from rfl)
    have ca4 := (A.cell 4).trans (show _ = some _ from rfl)
    have ca5 := (A.cell 5).trans (show _ = some _ from rfl)
    have ca6 := (A.cell 6).trans (show _ = some _ from rfl)
    clear hb
    rw [szR, if_neg (by omega)]
    go_wp2
    go_ret
    exact ⟨by unfold worldN; rw [szR, if_neg (by omega)] <;> rfl, BW⟩

set_option maxRecDepth 4000 in
set_option maxHeartbeats 1000000 in
theorem eqWorld_k (a : WorldD) (us vs : List Value) (w : World) (h1 : worldC.rep w a us) (h2 : worldC.rep w a vs) :
    Calls Tryz.prog 8 #[.agg us.toArray, .agg vs.toArray] w fun e w' => e = .returned (.bool true) ∧ Below w.heap.size w w' := by
  obtain ⟨p2, q2, p3, q3, p4, q4, p5, q5, p6, q6, p7, q7, rfl, r2, r3, r4, r5, r6, r7⟩ := world_rep h1
  obtain ⟨pb2, qb2, pb3, qb3, pb4, qb4, pb5, qb5, pb6, qb6, pb7, qb7, rfl, rb2, rb3, rb4, rb5, rb6, rb7⟩ := world_rep h2
  clear h1 h2
  have BW : Below w.heap.size w ((w.alloc (.cells #[.int .i64 a.1, .slice p2 a.2.1.length q2, .slice p3 a.2.2.1.length q3, .slice p4 a.2.2.2.1.length q4, .slice p5 a.2.2.2.2.1.length q5, .slice p6 a.2.2.2.2.2.1.length q6, .slice p7 a.2.2.2.2.2.2.length q7] 37)).alloc (.cells #[.int .i64 a.1, .slice pb2 a.2.1.length qb2, .slice pb3 a.2.2.1.length qb3, .slice pb4 a.2.2.2.1.length qb4, .slice pb5 a.2.2.2.2.1.length qb5, .slice pb6 a.2.2.2.2.2.1.length qb6, .slice pb7 a.2.2.2.2.2.2.length qb7] 37)) := Below.mk (alloc_below _ _) _
  have A : Arr ((w.alloc (.cells #[.int .i64 a.1, .slice p2 a.2.1.length q2, .slice p3 a.2.2.1.length q3, .slice p4 a.2.2.2.1.length q4, .slice p5 a.2.2.2.2.1.length q5, .slice p6 a.2.2.2.2.2.1.length q6, .slice p7 a.2.2.2.2.2.2.length q7] 37)).alloc (.cells #[.int .i64 a.1, .slice pb2 a.2.1.length qb2, .slice pb3 a.2.2.1.length qb3, .slice pb4 a.2.2.2.1.length qb4, .slice pb5 a.2.2.2.2.1.length qb5, .slice pb6 a.2.2.2.2.2.1.length qb6, .slice pb7 a.2.2.2.2.2.2.length qb7] 37)) w.heap.size 37 [.int .i64 a.1, .slice p2 a.2.1.length q2, .slice p3 a.2.2.1.length q3, .slice p4 a.2.2.2.1.length q4, .slice p5 a.2.2.2.2.1.length q5, .slice p6 a.2.2.2.2.2.1.length q6, .slice p7 a.2.2.2.2.2.2.length q7] := (Arr.new w [.int .i64 a.1, .slice p2 a.2.1.length q2, .slice p3 a.2.2.1.length q3, .slice p4 a.2.2.2.1.length q4, .slice p5 a.2.2.2.2.1.length q5, .slice p6 a.2.2.2.2.2.1.length q6, .slice p7 a.2.2.2.2.2.2.length q7] 37).old _ _
  have B : Arr ((w.alloc (.cells #[.int .i64 a.1, .slice p2 a.2.1.length q2, .slice p3 a.2.2.1.length q3, .slice p4 a.2.2.2.1.length q4, .slice p5 a.2.2.2.2.1.length q5, .slice p6 a.2.2.2.2.2.1.length q6, .slice p7 a.2.2.2.2.2.2.length q7] 37)).alloc (.cells #[.int .i64 a.1, .slice pb2 a.2.1.length qb2, .slice pb3 a.2.2.1.length qb3, .slice pb4 a.2.2.2.1.length qb4, .slice pb5 a.2.2.2.2.1.length qb5, .slice pb6 a.2.2.2.2.2.1.length qb6, .slice pb7 a.2.2.2.2.2.2.length qb7] 37)) (w.heap.size + 1) 37 [.int .i64 a.1, .slice pb2 a.2.1.length qb2, .slice pb3 a.2.2.1.length qb3, .slice pb4 a.2.2.2.1.length qb4, .slice pb5 a.2.2.2.2.1.length qb5, .slice pb6 a.2.2.2.2.2.1.length qb6, .slice pb7 a.2.2.2.2.2.2.length qb7] := by
    have h := Arr.new (w.alloc (.cells #[.int .i64 a.1, .slice p2 a.2.1.length q2, .slice p3 a.2.2.1.length q3, .slice p4 a.2.2.2.1.length q4, .slice p5 a.2.2.2.2.1.length q5, .slice p6 a.2.2.2.2.2.1.length q6, .slice p7 a.2.2.2.2.2.2.length q7] 37)) [.int .i64 a.1, .slice pb2 a.2.1.length qb2, .slice pb3 a.2.2.1.length qb3, .slice pb4 a.2.2.2.1.length qb4, .slice pb5 a.2.2.2.2.1.length qb5, .slice pb6 a.2.2.2.2.2.1.length qb6, .slice pb7 a.2.2.2.2.2.2.length qb7] 37
    rw [size_alloc] at h
    exact h
  replace r2 := r2.keep BW
  replace rb2 := rb2.keep BW
  replace r3 := r3.keep BW
  replace rb3 := rb3.keep BW
  replace r4 := r4.keep BW
  replace rb4 := rb4.keep BW
  replace r5 := r5.keep BW
  replace rb5 := rb5.keep BW
  replace r6 := r6.keep BW
  replace rb6 := rb6.keep BW
  replace r7 := r7.keep BW
  replace rb7 := rb7.keep BW
  go_enter Tryz.func8, Tryz.ntmps8
  go_wp2_with fail
  refine (eqCertS_c a.2.1 p2 pb2 q2 qb2 _ r2 rb2).mono ?_
  rintro e w1 ⟨rfl, hb⟩
  replace A := A.stay hb
  replace B := B.stay hb
  replace BW := Below.step BW hb
  replace r2 := r2.keep hb
  replace rb2 := rb2.keep hb
  replace r3 := r3.keep hb
  replace rb3 := rb3.keep hb
  replace r4 := r4.keep hb
  replace rb4 := rb4.keep hb
  replace r5 := r5.keep hb
  replace rb5 := rb5.keep hb
  replace r6 := r6.keep hb
  replace rb6 := rb6.keep hb
  replace r7 := r7.keep hb
  replace rb7 := rb7.keep hb
  have ca0 := A.cell 0
  have cb0 := B.cell 0
  have ca1 := A.cell 1
  have cb1 := B.cell 1
  have ca2 := A.cell 2
  have cb2 := B.cell 2
  have ca3 := A.cell 3
  have cb3 := B.cell 3
  have ca4 := A.cell 4
  have cb4 := B.cell 4
  have ca5 := A.cell 5
  have cb5 := B.cell 5
  have ca6 := A.cell 6
  have cb6 := B.cell 6
  simp at ca0 cb0 ca1 cb1 ca2 cb2 ca3 cb3 ca4 cb4 ca5 cb5 ca6 cb6
  clear hb
  go_wp2_with fail
  refine (eqInt64S_cod a.2.2.1 p3 pb3 q3 qb3 _ r3 rb3).mono ?_
  rintro e w2 ⟨rfl, hb⟩
  replace A := A.stay hb
  replace B := B.stay hb
  replace BW := Below.step BW hb
  replace r2 := r2.keep hb
  replace rb2 := rb2.keep hb
  replace r3 := r3.keep hb
  replace rb3 := rb3.keep hb
  replace r4 := r4.keep hb
  replace rb4 := rb4.keep hb
  replace r5 := r5.keep hb
  replace rb5 := rb5.keep hb
  replace r6 := r6.keep hb
  replace rb6 := rb6.keep hb
  replace r7 := r7.keep hb
  replace rb7 := rb7.keep hb
  have ca0 := A.cell 0
  have cb0 := B.cell 0
  have ca1 := A.cell 1
  have cb1 := B.cell 1
  have ca2 := A.cell 2
  have cb2 := B.cell 2
  have ca3 := A.cell 3
  have cb3 := B.cell 3
  have ca4 := A.cell 4
  have cb4 := B.cell 4
  have ca5 := A.cell 5
  have cb5 := B.cell 5
  have ca6 := A.cell 6
  have cb6 := B.cell 6
  simp at ca0 cb0 ca1 cb1 ca2 cb2 ca3 cb3 ca4 cb4 ca5 cb5 ca6 cb6
  clear hb
  go_wp2_with fail
  refine (eqSignS_c a.2.2.2.1 p4 pb4 q4 qb4 _ r4 rb4).mono ?_
  rintro e w3 ⟨rfl, hb⟩
  replace A := A.stay hb
  replace B := B.stay hb
  replace BW := Below.step BW hb
  replace r2 := r2.keep hb
  replace rb2 := rb2.keep hb
  replace r3 := r3.keep hb
  replace rb3 := rb3.keep hb
  replace r4 := r4.keep hb
  replace rb4 := rb4.keep hb
  replace r5 := r5.keep hb
  replace rb5 := rb5.keep hb
  replace r6 := r6.keep hb
  replace rb6 := rb6.keep hb
  replace r7 := r7.keep hb
  replace rb7 := rb7.keep hb
  have ca0 := A.cell 0
  have cb0 := B.cell 0
  have ca1 := A.cell 1
  have cb1 := B.cell 1
  have ca2 := A.cell 2
  have cb2 := B.cell 2
  have ca3 := A.cell 3
  have cb3 := B.cell 3
  have ca4 := A.cell 4
  have cb4 := B.cell 4
  have ca5 := A.cell 5
  have cb5 := B.cell 5
  have ca6 := A.cell 6
  have cb6 := B.cell 6
  simp at ca0 cb0 ca1 cb1 ca2 cb2 ca3 cb3 ca4 cb4 ca5 cb5 ca6 cb6
  clear hb
  go_wp2_with fail
  refine (eqLinkS_c a.2.2.2.2.1 p5 pb5 q5 qb5 _ r5 rb5).mono ?_
  rintro e w4 ⟨rfl, hb⟩
  replace A := A.stay hb
  replace B := B.stay hb
  replace BW := Below.step BW hb
  replace r2 := r2.keep hb
  replace rb2 := rb2.keep hb
  replace r3 := r3.keep hb
  replace rb3 := rb3.keep hb
  replace r4 := r4.keep hb
  replace rb4 := rb4.keep hb
  replace r5 := r5.keep hb
  replace rb5 := rb5.keep hb
  replace r6 := r6.keep hb
  replace rb6 := rb6.keep hb
  replace r7 := r7.keep hb
  replace rb7 := rb7.keep hb
  have ca0 := A.cell 0
  have cb0 := B.cell 0
  have ca1 := A.cell 1
  have cb1 := B.cell 1
  have ca2 := A.cell 2
  have cb2 := B.cell 2
  have ca3 := A.cell 3
  have cb3 := B.cell 3
  have ca4 := A.cell 4
  have cb4 := B.cell 4
  have ca5 := A.cell 5
  have cb5 := B.cell 5
  have ca6 := A.cell 6
  have cb6 := B.cell 6
  simp at ca0 cb0 ca1 cb1 ca2 cb2 ca3 cb3 ca4 cb4 ca5 cb5 ca6 cb6
  clear hb
  go_wp2_with fail
  refine (eqByteSS_c a.2.2.2.2.2.1 p6 pb6 q6 qb6 _ r6 rb6).mono ?_
  rintro e w5 ⟨rfl, hb⟩
  replace A := A.stay hb
  replace B := B.stay hb
  replace BW := Below.step BW hb
  replace r2 := r2.keep hb
  replace rb2 := rb2.keep hb
  replace r3 := r3.keep hb
  replace rb3 := rb3.keep hb
  replace r4 := r4.keep hb
  replace rb4 := rb4.keep hb
  replace r5 := r5.keep hb
  replace rb5 := rb5.keep hb
  replace r6 := r6.keep hb
  replace rb6 := rb6.keep hb
  replace r7 := r7.keep hb
  replace rb7 := rb7.keep hb
  have ca0 := A.cell 0
  have cb0 := B.cell 0
  have ca1 := A.cell 1
  have cb1 := B.cell 1
  have ca2 := A.cell 2
  have cb2 := B.cell 2
  have ca3 := A.cell 3
  have cb3 := B.cell 3
  have ca4 := A.cell 4
  have cb4 := B.cell 4
  have ca5 := A.cell 5
  have cb5 := B.cell 5
  have ca6 := A.cell 6
  have cb6 := B.cell 6
  simp at ca0 cb0 ca1 cb1 ca2 cb2 ca3 cb3 ca4 cb4 ca5 cb5 ca6 cb6
  clear hb
  go_wp2_with fail
  refine (eqEventS_c a.2.2.2.2.2.2 p7 pb7 q7 qb7 _ r7 rb7).mono ?_
  rintro e w6 ⟨rfl, hb⟩
  replace A := A.stay hb
  replace B := B.stay hb
  replace BW := Below.step BW hb
  replace r2 := r2.keep hb
  replace rb2 := rb2.keep hb
  replace r3 := r3.keep hb
  replace rb3 := rb3.keep hb
  replace r4 := r4.keep hb
  replace rb4 := rb4.keep hb
  replace r5 := r5.keep hb
  replace rb5 := rb5.keep hb
  replace r6 := r6.keep hb
  replace rb6 := rb6.keep hb
  replace r7 := r7.keep hb
  replace rb7 := rb7.keep hb
  have ca0 := A.cell 0
  have cb0 := B.cell 0
  have ca1 := A.cell 1
  have cb1 := B.cell 1
  have ca2 := A.cell 2
  have cb2 := B.cell 2
  have ca3 := A.cell 3
  have cb3 := B.cell 3
  have ca4 := A.cell 4
  have cb4 := B.cell 4
  have ca5 := A.cell 5
  have cb5 := B.cell 5
  have ca6 := A.cell 6
  have cb6 := B.cell 6
  simp at ca0 cb0 ca1 cb1 ca2 cb2 ca3 cb3 ca4 cb4 ca5 cb5 ca6 cb6
  clear hb
  go_wp2
  go_ret
  exact ⟨rfl, BW⟩

end Go.Proofs.YthiabbgkfmopiaaGreat

