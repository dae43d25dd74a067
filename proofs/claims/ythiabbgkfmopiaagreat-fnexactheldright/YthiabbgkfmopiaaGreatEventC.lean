/- How Event lies in memory, and the contracts of the laws' helpers on it (written by tools/codgen.py). -/
import Derived.Test.YthiabbgkfmopiaaGreatJoint8
namespace Go.Proofs.YthiabbgkfmopiaaGreat
open Go.ChangeShapes Go.WideShapes Go.ChangeAt Go.RowKit

abbrev EventD := Int × Int × Int × List UInt8 × Int × Int
def eventC : Cod EventD := prodC (intC .i64) (prodC (intC .i64) (prodC (intC .i64) (prodC bytC (prodC (intC .i64) ((intC .i64))))))
theorem event_rep {w : World} {a : EventD} {vs : List Value} (h : eventC.rep w a vs) : ∃ p4 q4, vs = [.int .i64 a.1, .int .i64 a.2.1, .int .i64 a.2.2.1, .slice p4 a.2.2.2.1.length q4, .int .i64 a.2.2.2.2.1, .int .i64 a.2.2.2.2.2] ∧ Rd w p4 q4 a.2.2.2.1 := by
  obtain ⟨us0, ts0, rfl, h0, us1, ts1, rfl, h1, us2, ts2, rfl, h2, us3, ts3, rfl, h3, us4, ts4, rfl, h4, h5⟩ := h
  have e0 : us0 = [Value.int .i64 _] := h0
  subst e0
  have e1 : us1 = [Value.int .i64 _] := h1
  subst e1
  have e2 : us2 = [Value.int .i64 _] := h2
  subst e2
  obtain ⟨p4, q4, rfl, r4⟩ := h3
  have e4 : us4 = [Value.int .i64 _] := h4
  subst e4
  have e5 : _ = [Value.int .i64 _] := h5
  subst e5
  exact ⟨p4, q4, rfl, r4⟩
theorem event_mk {w : World} {a : EventD} {p4 : Option Addr} {q4 : Nat} (r4 : Rd w p4 q4 a.2.2.2.1) : eventC.rep w a [.int .i64 a.1, .int .i64 a.2.1, .int .i64 a.2.2.1, .slice p4 a.2.2.2.1.length q4, .int .i64 a.2.2.2.2.1, .int .i64 a.2.2.2.2.2] := ⟨[.int .i64 a.1], _, rfl, rfl, ⟨[.int .i64 a.2.1], _, rfl, rfl, ⟨[.int .i64 a.2.2.1], _, rfl, rfl, ⟨[.slice p4 a.2.2.2.1.length q4], _, rfl, ⟨p4, q4, rfl, r4⟩, ⟨[.int .i64 a.2.2.2.2.1], _, rfl, rfl, rfl⟩⟩⟩⟩⟩
def eventT (a : EventD) : Nat := a.2.2.2.1.length
def eventM (a : EventD) (m : Nat) : EventD := (a.1, a.2.1, a.2.2.1, marks m a.2.2.2.1.length, a.2.2.2.2.1, a.2.2.2.2.2)

def eventN (a : EventD) : Nat := a.2.2.2.1.length
theorem eventT_le (a : EventD) : eventT a ≤ 8 * eventN a := by
  unfold eventT eventN
  omega

set_option maxRecDepth 4000 in
set_option maxHeartbeats 1000000 in
theorem toEvent_k (a : EventD) (us : List Value) (w : World) (h : eventC.rep w a us) (hl : eventN a ≤ 1048576) :
    Calls Tryz.prog 50 #[.agg us.toArray] w fun e w' => ∃ vs fp, e = .returned (.agg vs.toArray) ∧ eventC.own w' w.heap.size a vs fp ∧ Below w.heap.size w w' := by
  obtain ⟨p4, q4, rfl, r4⟩ := event_rep h
  clear h
  have BW : Below w.heap.size w (((w.alloc (.cells #[.int .i64 a.1, .int .i64 a.2.1, .int .i64 a.2.2.1, .slice p4 a.2.2.2.1.length q4, .int .i64 a.2.2.2.2.1, .int .i64 a.2.2.2.2.2] 92)).alloc (.cells #[.int .i64 0, .int .i64 0, .int .i64 0, .slice none 0 0, .int .i64 0, .int .i64 0] 99)).alloc (.cells #[.int .i64 a.1, .int .i64 a.2.1, .int .i64 a.2.2.1, .slice none 0 0, .int .i64 0, .int .i64 0] 99)) := Below.mk (Below.mk (alloc_below _ _) _) _
  have R : Arr (((w.alloc (.cells #[.int .i64 a.1, .int .i64 a.2.1, .int .i64 a.2.2.1, .slice p4 a.2.2.2.1.length q4, .int .i64 a.2.2.2.2.1, .int .i64 a.2.2.2.2.2] 92)).alloc (.cells #[.int .i64 0, .int .i64 0, .int .i64 0, .slice none 0 0, .int .i64 0, .int .i64 0] 99)).alloc (.cells #[.int .i64 a.1, .int .i64 a.2.1, .int .i64 a.2.2.1, .slice none 0 0, .int .i64 0, .int .i64 0] 99)) (w.heap.size + 1) 99 [.int .i64 0, .int .i64 0, .int .i64 0, .slice none 0 0, .int .i64 0, .int .i64 0] := by
    have h := Arr.new (w.alloc (.cells #[.int .i64 a.1, .int .i64 a.2.1, .int .i64 a.2.2.1, .slice p4 a.2.2.2.1.length q4, .int .i64 a.2.2.2.2.1, .int .i64 a.2.2.2.2.2] 92)) [.int .i64 0, .int .i64 0, .int .i64 0, .slice none 0 0, .int .i64 0, .int .i64 0] 99
    rw [size_alloc] at h
    exact h.old _ _
  have A : Arr (((w.alloc (.cells #[.int .i64 a.1, .int .i64 a.2.1, .int .i64 a.2.2.1, .slice p4 a.2.2.2.1.length q4, .int .i64 a.2.2.2.2.1, .int .i64 a.2.2.2.2.2] 92)).alloc (.cells #[.int .i64 0, .int .i64 0, .int .i64 0, .slice none 0 0, .int .i64 0, .int .i64 0] 99)).alloc (.cells #[.int .i64 a.1, .int .i64 a.2.1, .int .i64 a.2.2.1, .slice none 0 0, .int .i64 0, .int .i64 0] 99)) w.heap.size 92 [.int .i64 a.1, .int .i64 a.2.1, .int .i64 a.2.2.1, .slice p4 a.2.2.2.1.length q4, .int .i64 a.2.2.2.2.1, .int .i64 a.2.2.2.2.2] := Arr.old _ _ (Arr.old _ _ (Arr.new w [.int .i64 a.1, .int .i64 a.2.1, .int .i64 a.2.2.1, .slice p4 a.2.2.2.1.length q4, .int .i64 a.2.2.2.2.1, .int .i64 a.2.2.2.2.2] 92))
  have O : Arr (((w.alloc (.cells #[.int .i64 a.1, .int .i64 a.2.1, .int .i64 a.2.2.1, .slice p4 a.2.2.2.1.length q4, .int .i64 a.2.2.2.2.1, .int .i64 a.2.2.2.2.2] 92)).alloc (.cells #[.int .i64 0, .int .i64 0, .int .i64 0, .slice none 0 0, .int .i64 0, .int .i64 0] 99)).alloc (.cells #[.int .i64 a.1, .int .i64 a.2.1, .int .i64 a.2.2.1, .slice none 0 0, .int .i64 0, .int .i64 0] 99)) (w.heap.size + 1 + 1) 99 [.int .i64 a.1, .int .i64 a.2.1, .int .i64 a.2.2.1, .slice none 0 0, .int .i64 0, .int .i64 0] := by
    have h := Arr.new ((w.alloc (.cells #[.int .i64 a.1, .int .i64 a.2.1, .int .i64 a.2.2.1, .slice p4 a.2.2.2.1.length q4, .int .i64 a.2.2.2.2.1, .int .i64 a.2.2.2.2.2] 92)).alloc (.cells #[.int .i64 0, .int .i64 0, .int .i64 0, .slice none 0 0, .int .i64 0, .int .i64 0] 99)) [.int .i64 a.1, .int .i64 a.2.1, .int .i64 a.2.2.1, .slice none 0 0, .int .i64 0, .int .i64 0] 99
    rw [size_alloc, size_alloc] at h
    exact h
  have z0 : Hid ((((w.alloc (.cells #[.int .i64 a.1, .int .i64 a.2.1, .int .i64 a.2.2.1, .slice p4 a.2.2.2.1.length q4, .int .i64 a.2.2.2.2.1, .int .i64 a.2.2.2.2.2] 92)).alloc (.cells #[.int .i64 0, .int .i64 0, .int .i64 0, .slice none 0 0, .int .i64 0, .int .i64 0] 99)).alloc (.cells #[.int .i64 a.1, .int .i64 a.2.1, .int .i64 a.2.2.1, .slice none 0 0, .int .i64 0, .int .i64 0] 99)).heap.size = w.heap.size + 3) := by show _ = _; rw [size_alloc, size_alloc, size_alloc]
  have R4 : Hid (Rd w p4 q4 a.2.2.2.1) := r4
  clear r4
  have HL : Hid (a.2.2.2.1.length ≤ 1048576) := hl
  clear hl
  go_enter Tryz.func50, Tryz.ntmps50
  go_wp2_with fail
  refine (toByteS_k a.2.2.2.1 _ _ ⟨p4, q4, rfl, R4.out.keep BW⟩ (by have := HL.out; omega)).mono ?_
  rintro e w1 ⟨v3, fp3, rfl, k3, hb⟩
  rw [z0.out] at k3
  have z1 : Hid (w.heap.size + 3 ≤ w1.heap.size) := by have h := hb.size; rw [z0.out] at h; exact h
  have g3 : Hid (∀ k, k ∈ fp3 → w.heap.size + 3 ≤ k ∧ k < w1.heap.size) := fun k hk => bytC.ins k3 k hk
  replace A := A.stay hb
  replace R := R.stay hb
  replace O := O.stay hb
  replace BW := Below.step BW hb
  obtain ⟨pv4, qv4, e3, -⟩ := bytC.toRep k3
  simp only [List.cons.injEq, and_true] at e3
  subst e3
  have ca0 := (A.cell 0).trans (show _ = some _ from rfl)
  have co0 := (O.cell 0).trans (show _ = some _ from rfl)
  have cr0 := (R.cell 0).trans (show _ = some _ from rfl)
  have ca1 := (A.cell 1).trans (show _ = some _ from rfl)
  have co1 := (O.cell 1).trans (show _ = some _ from rfl)
  have cr1 := (R.cell 1).trans (show _ = some _ from rfl)
  have ca2 := (A.cell 2).trans (show _ = some _ from rfl)
  have co2 := (O.cell 2).trans (show _ = some _ from rfl)
  have cr2 := (R.cell 2).trans (show _ = some _ from rfl)
  have ca3 := (A.cell 3).trans (show _ = some _ from rfl)
  have co3 := (O.cell 3).trans (show _ = some _ from rfl)
  have cr3 := (R.cell 3).trans (show _ = some _ from rfl)
  have ca4 := (A.cell 4).trans (show _ = some _ from rfl)
  have co4 := (O.cell 4).trans (show _ = some _ from rfl)
  have cr4 := (R.cell 4).trans (show _ = some _ from rfl)
  have ca5 := (A.cell 5).trans (show _ = some _ from rfl)
  have co5 := (O.cell 5).trans (show _ = some _ from rfl)
  have cr5 := (R.cell 5).trans (show _ = some _ from rfl)
  have fo := O.frozen
  have fr := R.frozen
  clear hb
  go_wp2_with fail
  refine bodyPost_ret (v := .agg #[.int .i64 a.1, .int .i64 a.2.1, .int .i64 a.2.2.1, .slice pv4 a.2.2.2.1.length qv4, .int .i64 a.2.2.2.2.1, .int .i64 a.2.2.2.2.2]) (by simp [results, Tryz.results50, go_sem, cr0, cr1, cr2, cr3, cr4, cr5]) rfl ⟨[.int .i64 a.1, .int .i64 a.2.1, .int .i64 a.2.2.1, .slice pv4 a.2.2.2.1.length qv4, .int .i64 a.2.2.2.2.1, .int .i64 a.2.2.2.2.2], _, rfl, eventC.low (own_pair 0 own_int (own_pair 0 own_int (own_pair 0 own_int (own_pair w1.heap.size (bytC.set (bytC.set (bytC.set (bytC.set (bytC.set (bytC.set (bytC.set (bytC.set (bytC.set k3 (show w.heap.size + 1 + 1 < w.heap.size + 3 by omega) _) (show w.heap.size + 1 + 1 < w.heap.size + 3 by omega) _) (show w.heap.size + 1 + 1 < w.heap.size + 3 by omega) _) (show w.heap.size + 1 < w.heap.size + 3 by omega) _) (show w.heap.size + 1 < w.heap.size + 3 by omega) _) (show w.heap.size + 1 < w.heap.size + 3 by omega) _) (show w.heap.size + 1 < w.heap.size + 3 by omega) _) (show w.heap.size + 1 < w.heap.size + 3 by omega) _) (show w.heap.size + 1 < w.heap.size + 3 by omega) _) (own_pair 0 own_int own_int lt_nil (fun _ _ => Nat.zero_le _)) (fun k hk => (g3.out k hk).2) (ge_app ge_nil ge_nil)) lt_nil (fun _ _ => Nat.zero_le _)) lt_nil (fun _ _ => Nat.zero_le _)) lt_nil (fun _ _ => Nat.zero_le _)) (Nat.le_add_right _ 3), (((((((((BW.setCell (show w.heap.size ≤ w.heap.size + 1 + 1 by omega) _).setCell (show w.heap.size ≤ w.heap.size + 1 + 1 by omega) _).setCell (show w.heap.size ≤ w.heap.size + 1 + 1 by omega) _).setCell (show w.heap.size ≤ w.heap.size + 1 by omega) _).setCell (show w.heap.size ≤ w.heap.size + 1 by omega) _).setCell (show w.heap.size ≤ w.heap.size + 1 by omega) _).setCell (show w.heap.size ≤ w.heap.size + 1 by omega) _).setCell (show w.heap.size ≤ w.heap.size + 1 by omega) _).setCell (show w.heap.size ≤ w.heap.size + 1 by omega) _)⟩

set_option maxRecDepth 4000 in
set_option maxHeartbeats 1000000 in
theorem szEvent_k (a : EventD) (us : List Value) (left : Int) (w : World) (h : eventC.rep w a us) (h0 : 0 ≤ left) (h1 : left ≤ 1048576) :
    Calls Tryz.prog 38 #[.agg us.toArray, .int .i64 left] w fun e w' => e = .returned (.int .i64 (szR (eventN a) left)) ∧ Below w.heap.size w w' := by
  obtain ⟨p4, q4, rfl, r4⟩ := event_rep h
  clear h
  have BW := alloc_below w (.cells #[.int .i64 a.1, .int .i64 a.2.1, .int .i64 a.2.2.1, .slice p4 a.2.2.2.1.length q4, .int .i64 a.2.2.2.2.1, .int .i64 a.2.2.2.2.2] 92)
  have A := Arr.new w [.int .i64 a.1, .int .i64 a.2.1, .int .i64 a.2.2.1, .slice p4 a.2.2.2.1.length q4, .int .i64 a.2.2.2.2.1, .int .i64 a.2.2.2.2.2] 92
  have R4 : Hid (Rd w p4 q4 a.2.2.2.1) := r4
  clear r4
  by_cases s0 : ((a.2.2.2.1.length : Nat) : Int) ≤ left
  · go_enter Tryz.func38, Tryz.ntmps38
    go_wp2_with fail
    refine (szByteS_k a.2.2.2.1 _ _ _ ⟨p4, q4, rfl, R4.out.keep BW⟩ (by omega) (by omega)).mono ?_
    rintro e w1 ⟨rfl, hb⟩
    replace A := A.stay hb
    replace BW := Below.step BW hb
    have ca0 := (A.cell 0).trans (show _ = some _ from rfl)
    have ca1 := (A.cell 1).trans (show _ = some _ from rfl)
    have ca2 := (A.cell 2).trans (show _ = some _ from rfl)
    have ca3 := (A.cell 3).trans (show _ = some _ from rfl)
    have ca4 := (A.cell 4).trans (show _ = some _ from rfl)
    have ca5 := (A.cell 5).trans (show _ = some _ from rfl)
    clear hb
    rw [szR, if_pos (by omega)]
    have hne : ¬ (left - (a.2.2.2.1.length : Int) < 0) := by omega
    have hE : Hid (szR (eventN a) left = left - (a.2.2.2.1.length : Int)) := by show _ = _; unfold eventN; rw [szR, if_pos (by omega)] <;> omega
    go_wp2
    go_ret
    exact ⟨by rw [hE.out]; rfl, BW⟩
  · go_enter Tryz.func38, Tryz.ntmps38
    go_wp2_with fail
    refine (szByteS_k a.2.2.2.1 _ _ _ ⟨p4, q4, rfl, R4.out.keep BW⟩ (by omega) (by omega)).mono ?_
    rintro e w1 ⟨rfl, hb⟩
    replace A := A.stay hb
    replace BW := Below.step BW hb
    have ca0 := (A.cell 0).trans (show _ = some _ from rfl)
    have ca1 := (A.cell 1).trans (show _ = some _ from rfl)
    have ca2 := (A.cell 2).trans (show _ = some _ from rfl)
    have ca3 := (A.cell 3).trans (show _ = some _ from rfl)
    have ca4 := (A.cell 4).trans (show _ = some _ from rfl)
    have ca5 := (A.cell 5).trans (show _ = some _ from rfl)
    clear hb
    rw [szR, if_neg (by omega)]
    go_wp2
    go_ret
    exact ⟨by unfold eventN; rw [szR, if_neg (by omega)] <;> rfl, BW⟩

set_option maxRecDepth 4000 in
set_option maxHeartbeats 1000000 in
theorem eqEvent_k (a : EventD) (us vs : List Value) (w : World) (h1 : eventC.rep w a us) (h2 : eventC.rep w a vs) :
    Calls Tryz.prog 63 #[.agg us.toArray, .agg vs.toArray] w fun e w' => e = .returned (.bool true) ∧ Below w.heap.size w w' := by
  obtain ⟨p4, q4, rfl, r4⟩ := event_rep h1
  obtain ⟨pb4, qb4, rfl, rb4⟩ := event_rep h2
  clear h1 h2
  have BW : Below w.heap.size w ((w.alloc (.cells #[.int .i64 a.1, .int .i64 a.2.1, .int .i64 a.2.2.1, .slice p4 a.2.2.2.1.length q4, .int .i64 a.2.2.2.2.1, .int .i64 a.2.2.2.2.2] 99)).alloc (.cells #[.int .i64 a.1, .int .i64 a.2.1, .int .i64 a.2.2.1, .slice pb4 a.2.2.2.1.length qb4, .int .i64 a.2.2.2.2.1, .int .i64 a.2.2.2.2.2] 99)) := Below.mk (alloc_below _ _) _
  have A : Arr ((w.alloc (.cells #[.int .i64 a.1, .int .i64 a.2.1, .int .i64 a.2.2.1, .slice p4 a.2.2.2.1.length q4, .int .i64 a.2.2.2.2.1, .int .i64 a.2.2.2.2.2] 99)).alloc (.cells #[.int .i64 a.1, .int .i64 a.2.1, .int .i64 a.2.2.1, .slice pb4 a.2.2.2.1.length qb4, .int .i64 a.2.2.2.2.1, .int .i64 a.2.2.2.2.2] 99)) w.heap.size 99 [.int .i64 a.1, .int .i64 a.2.1, .int .i64 a.2.2.1, .slice p4 a.2.2.2.1.length q4, .int .i64 a.2.2.2.2.1, .int .i64 a.2.2.2.2.2] := (Arr.new w [.int .i64 a.1, .int .i64 a.2.1, .int .i64 a.2.2.1, .slice p4 a.2.2.2.1.length q4, .int .i64 a.2.2.2.2.1, .int .i64 a.2.2.2.2.2] 99).old _ _
  have B : Arr ((w.alloc (.cells #[.int .i64 a.1, .int .i64 a.2.1, .int .i64 a.2.2.1, .slice p4 a.2.2.2.1.length q4, .int .i64 a.2.2.2.2.1, .int .i64 a.2.2.2.2.2] 99)).alloc (.cells #[.int .i64 a.1, .int .i64 a.2.1, .int .i64 a.2.2.1, .slice pb4 a.2.2.2.1.length qb4, .int .i64 a.2.2.2.2.1, .int .i64 a.2.2.2.2.2] 99)) (w.heap.size + 1) 99 [.int .i64 a.1, .int .i64 a.2.1, .int .i64 a.2.2.1, .slice pb4 a.2.2.2.1.length qb4, .int .i64 a.2.2.2.2.1, .int .i64 a.2.2.2.2.2] := by
    have h := Arr.new (w.alloc (.cells #[.int .i64 a.1, .int .i64 a.2.1, .int .i64 a.2.2.1, .slice p4 a.2.2.2.1.length q4, .int .i64 a.2.2.2.2.1, .int .i64 a.2.2.2.2.2] 99)) [.int .i64 a.1, .int .i64 a.2.1, .int .i64 a.2.2.1, .slice pb4 a.2.2.2.1.length qb4, .int .i64 a.2.2.2.2.1, .int .i64 a.2.2.2.2.2] 99
    rw [size_alloc] at h
    exact h
  replace r4 := r4.keep BW
  replace rb4 := rb4.keep BW
  go_enter Tryz.func63, Tryz.ntmps63
  go_wp2_with fail
  refine (eqByteS_c p4 pb4 q4 qb4 a.2.2.2.1 _ r4 rb4).mono ?_
  rintro e w1 ⟨rfl, hb⟩
  replace A := A.stay hb
  replace B := B.stay hb
  replace BW := Below.step BW hb
  replace r4 := r4.keep hb
  replace rb4 := rb4.keep hb
  have ca0 := A.cell 0
  have cb0 := B.cell 0
  have ca1 := A.cell 1
  have cb1 := B.cell 1
  have ca2 := A.cell 2
  have cb2 := B.cell 2
  have ca3 := A.cell 3
  have cb3 := B.cell 3
  have ca4 := A.cell 4
  have cb4 := B.cell 4
  have ca5 := A.cell 5
  have cb5 := B.cell 5
  simp at ca0 cb0 ca1 cb1 ca2 cb2 ca3 cb3 ca4 cb4 ca5 cb5
  clear hb
  go_wp2
  go_ret
  exact ⟨rfl, BW⟩



end Go.Proofs.YthiabbgkfmopiaaGreat

