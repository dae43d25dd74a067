/- How Msg lies in memory, and the contracts of the laws' helpers on it (written by tools/codgen.py). -/
import Derived.Test.YtiabacnmmojfjaaJoint9
import Derived.Test.YtiabacnmmojfjaaMsgC
namespace Go.Proofs.Ytiabacnmmojfjaa
open Go.ChangeShapes Go.WideShapes Go.ChangeAt Go.RowKit

def msgT (a : MsgD) : Nat := a.2.length
def msgM (a : MsgD) (m : Nat) : MsgD := (a.1, marks m a.2.length)

def msgN (a : MsgD) : Nat := a.2.length
theorem msgT_le (a : MsgD) : msgT a ≤ 8 * msgN a := by
  unfold msgT msgN
  omega

set_option maxRecDepth 4000 in
set_option maxHeartbeats 1000000 in
theorem toMsg_k (a : MsgD) (us : List Value) (w : World) (h : msgC.rep w a us) (hl : msgN a ≤ 1048576) :
    Calls Try.prog 57 #[.agg us.toArray] w fun e w' => ∃ vs fp, e = .returned (.agg vs.toArray) ∧ msgC.own w' w.heap.size a vs fp ∧ Below w.heap.size w w' := by
  obtain ⟨p2, q2, rfl, r2⟩ := msg_rep h
  clear h
  have BW : Below w.heap.size w (((w.alloc (.cells #[.int .i64 a.1, .slice p2 a.2.length q2] 87)).alloc (.cells #[.int .i64 0, .slice none 0 0] 67)).alloc (.cells #[.int .i64 a.1, .slice none 0 0] 67)) := Below.mk (Below.mk (alloc_below _ _) _) _
  have R : Arr (((w.alloc (.cells #[.int .i64 a.1, .slice p2 a.2.length q2] 87)).alloc (.cells #[.int .i64 0, .slice none 0 0] 67)).alloc (.cells #[.int .i64 a.1, .slice none 0 0] 67)) (w.heap.size + 1) 67 [.int .i64 0, .slice none 0 0] := by
    have h := Arr.new (w.alloc (.cells #[.int .i64 a.1, .slice p2 a.2.length q2] 87)) [.int .i64 0, .slice none 0 0] 67
    rw [size_alloc] at h
    exact h.old _ _
  have A : Arr (((w.alloc (.cells #[.int .i64 a.1, .slice p2 a.2.length q2] 87)).alloc (.cells #[.int .i64 0, .slice none 0 0] 67)).alloc (.cells #[.int .i64 a.1, .slice none 0 0] 67)) w.heap.size 87 [.int .i64 a.1, .slice p2 a.2.length q2] := Arr.old _ _ (Arr.old _ _ (Arr.new w [.int .i64 a.1, .slice p2 a.2.length q2] 87))
  have O : Arr (((w.alloc (.cells #[.int .i64 a.1, .slice p2 a.2.length q2] 87)).alloc (.cells #[.int .i64 0, .slice none 0 0] 67)).alloc (.cells #[.int .i64 a.1, .slice none 0 0] 67)) (w.heap.size + 1 + 1) 67 [.int .i64 a.1, .slice none 0 0] := by
    have h := Arr.new ((w.alloc (.cells #[.int .i64 a.1, .slice p2 a.2.length q2] 87)).alloc (.cells #[.int .i64 0, .slice none 0 0] 67)) [.int .i64 a.1, .slice none 0 0] 67
    rw [size_alloc, size_alloc] at h
    exact h
  have z0 : Hid ((((w.alloc (.cells #[.int .i64 a.1, .slice p2 a.2.length q2] 87)).alloc (.cells #[.int .i64 0, .slice none 0 0] 67)).alloc (.cells #[.int .i64 a.1, .slice none 0 0] 67)).heap.size = w.heap.size + 3) := by show _ = _; rw [size_alloc, size_alloc, size_alloc]
  have R2 : Hid (Rd w p2 q2 a.2) := r2
  clear r2
  have HL : Hid (a.2.length ≤ 1048576) := hl
  clear hl
  go_enter Try.func57, Try.ntmps57
  go_wp2_with fail
  refine (toByteS_k a.2 _ _ ⟨p2, q2, rfl, R2.out.keep BW⟩ (by have := HL.out; omega)).mono ?_
  rintro e w1 ⟨v1, fp1, rfl, k1, hb⟩
  rw [z0.out] at k1
  have z1 : Hid (w.heap.size + 3 ≤ w1.heap.size) := by have h := hb.size; rw [z0.out] at h; exact h
  have g1 : Hid (∀ k, k ∈ fp1 → w.heap.size + 3 ≤ k ∧ k < w1.heap.size) := fun k hk => bytC.ins k1 k hk
  replace A := A.stay hb
  replace R := R.stay hb
  replace O := O.stay hb
  replace BW := Below.step BW hb
  obtain ⟨pv2, qv2, e1, -⟩ := bytC.toRep k1
  simp only [List.cons.injEq, and_true] at e1
  subst e1
  have ca0 := (A.cell 0).trans (show _ = some _ from rfl)
  have co0 := (O.cell 0).trans (show _ = some _ from rfl)
  have cr0 := (R.cell 0).trans (show _ = some _ from rfl)
  have ca1 := (A.cell 1).trans (show _ = some _ from rfl)
  have co1 := (O.cell 1).trans (show _ = some _ from rfl)
  have cr1 := (R.cell 1).trans (show _ = some _ from rfl)
  have fo := O.frozen
  have fr := R.frozen
  clear hb
  go_wp2_with fail
  refine bodyPost_ret (v := .agg #[.int .i64 a.1, .slice pv2 a.2.length qv2]) (by simp [results, Try.results57, go_sem, cr0, cr1]) rfl ⟨[.int .i64 a.1, .slice pv2 a.2.length qv2], _, rfl, msgC.low (own_pair 0 own_int (bytC.set (bytC.set (bytC.set k1 (show w.heap.size + 1 + 1 < w.heap.size + 3 by omega) _) (show w.heap.size + 1 < w.heap.size + 3 by omega) _) (show w.heap.size + 1 < w.heap.size + 3 by omega) _) lt_nil (fun _ _ => Nat.zero_le _)) (Nat.le_add_right _ 3), (((BW.setCell (show w.heap.size ≤ w.heap.size + 1 + 1 by omega) _).setCell (show w.heap.size ≤ w.heap.size + 1 by omega) _).setCell (show w.heap.size ≤ w.heap.size + 1 by omega) _)⟩

set_option maxRecDepth 4000 in
set_option maxHeartbeats 1000000 in
theorem szMsg_k (a : MsgD) (us : List Value) (left : Int) (w : World) (h : msgC.rep w a us) (h0 : 0 ≤ left) (h1 : left ≤ 1048576) :
    Calls Try.prog 54 #[.agg us.toArray, .int .i64 left] w fun e w' => e = .returned (.int .i64 (szR (msgN a) left)) ∧ Below w.heap.size w w' := by
  obtain ⟨p2, q2, rfl, r2⟩ := msg_rep h
  clear h
  have BW := alloc_below w (.cells #[.int .i64 a.1, .slice p2 a.2.length q2] 87)
  have A := Arr.new w [.int .i64 a.1, .slice p2 a.2.length q2] 87
  have R2 : Hid (Rd w p2 q2 a.2) := r2
  clear r2
  by_cases s0 : ((a.2.length : Nat) : Int) ≤ left
  · go_enter Try.func54, Try.ntmps54
    go_wp2_with fail
    refine (szByteS_k a.2 _ _ _ ⟨p2, q2, rfl, R2.out.keep BW⟩ (by omega) (by omega)).mono ?_
    rintro e w1 ⟨rfl, hb⟩
    replace A := A.stay hb
    replace BW := Below.step BW hb
    have ca0 := (A.cell 0).trans (show _ = some _ from rfl)
    have ca1 := (A.cell 1).trans (show _ = some _ from rfl)
    clear hb
    rw [szR, if_pos (by omega)]
    have hne : ¬ (left - (a.2.length : Int) < 0) := by omega
    have hE : Hid (szR (msgN a) left = left - (a.2.length : Int)) := by show _ = _; unfold msgN; rw [szR, if_pos (by omega)] <;> omega
    go_wp2
    go_ret
    exact ⟨by rw [hE.out]; rfl, BW⟩
  · go_enter Try.func54, Try.ntmps54
    go_wp2_with fail
    refine (szByteS_k a.2 _ _ _ ⟨p2, q2, rfl, R2.out.keep BW⟩ (by omega) (by omega)).mono ?_
    rintro e w1 ⟨rfl, hb⟩
    replace A := A.stay hb
    replace BW := Below.step BW hb
    have ca0 := (A.cell 0).trans (show _ = some _ from rfl)
    have ca1 := (A.cell 1).trans (show _ = some _ from rfl)
    clear hb
    rw [szR, if_neg (by omega)]
    go_wp2
    go_ret
    exact ⟨by unfold msgN; rw [szR, if_neg (by omega)] <;> rfl, BW⟩

set_option maxRecDepth 4000 in
set_option maxHeartbeats 1000000 in
theorem eqMsg_k (a : MsgD) (us vs : List Value) (w : World) (h1 : msgC.rep w a us) (h2 : msgC.rep w a vs) :
    Calls Try.prog 58 #[.agg us.toArray, .agg vs.toArray] w fun e w' => e = .returned (.bool true) ∧ Below w.heap.size w w' := by
  obtain ⟨p2, q2, rfl, r2⟩ := msg_rep h1
  obtain ⟨pb2, qb2, rfl, rb2⟩ := msg_rep h2
  clear h1 h2
  have BW : Below w.heap.size w ((w.alloc (.cells #[.int .i64 a.1, .slice p2 a.2.length q2] 67)).alloc (.cells #[.int .i64 a.1, .slice pb2 a.2.length qb2] 67)) := Below.mk (alloc_below _ _) _
  have A : Arr ((w.alloc (.cells #[.int .i64 a.1, .slice p2 a.2.length q2] 67)).alloc (.cells #[.int .i64 a.1, .slice pb2 a.2.length qb2] 67)) w.heap.size 67 [.int .i64 a.1, .slice p2 a.2.length q2] := (Arr.new w [.int .i64 a.1, .slice p2 a.2.length q2] 67).old _ _
  have B : Arr ((w.alloc (.cells #[.int .i64 a.1, .slice p2 a.2.length q2] 67)).alloc (.cells #[.int .i64 a.1, .slice pb2 a.2.length qb2] 67)) (w.heap.size + 1) 67 [.int .i64 a.1, .slice pb2 a.2.length qb2] := by
    have h := Arr.new (w.alloc (.cells #[.int .i64 a.1, .slice p2 a.2.length q2] 67)) [.int .i64 a.1, .slice pb2 a.2.length qb2] 67
    rw [size_alloc] at h
    exact h
  replace r2 := r2.keep BW
  replace rb2 := rb2.keep BW
  go_enter Try.func58, Try.ntmps58
  go_wp2_with fail
  refine (eqByteS_c p2 pb2 q2 qb2 a.2 _ r2 rb2).mono ?_
  rintro e w1 ⟨rfl, hb⟩
  replace A := A.stay hb
  replace B := B.stay hb
  replace BW := Below.step BW hb
  replace r2 := r2.keep hb
  replace rb2 := rb2.keep hb
  have ca0 := A.cell 0
  have cb0 := B.cell 0
  have ca1 := A.cell 1
  have cb1 := B.cell 1
  simp at ca0 cb0 ca1 cb1
  clear hb
  go_wp2
  go_ret
  exact ⟨rfl, BW⟩



end Go.Proofs.Ytiabacnmmojfjaa

