/- How Sign lies in memory, and the contracts of the laws' helpers on it (written by tools/codgen.py). -/
import Derived.Test.YthiabbgkfmopiaaGreatJoint8
namespace Go.Proofs.YthiabbgkfmopiaaGreat
open Go.ChangeShapes Go.WideShapes Go.ChangeAt Go.RowKit

abbrev SignD := Int × Int × List UInt8
def signC : Cod SignD := prodC (intC .i64) (prodC (intC .i64) bytC)
theorem sign_rep {w : World} {a : SignD} {vs : List Value} (h : signC.rep w a vs) : ∃ p3 q3, vs = [.int .i64 a.1, .int .i64 a.2.1, .slice p3 a.2.2.length q3] ∧ Rd w p3 q3 a.2.2 := by
  obtain ⟨us0, ts0, rfl, h0, us1, ts1, rfl, h1, h2⟩ := h
  have e0 : us0 = [Value.int .i64 _] := h0
  subst e0
  have e1 : us1 = [Value.int .i64 _] := h1
  subst e1
  obtain ⟨p3, q3, rfl, r3⟩ := h2
  exact ⟨p3, q3, rfl, r3⟩
theorem sign_mk {w : World} {a : SignD} {p3 : Option Addr} {q3 : Nat} (r3 : Rd w p3 q3 a.2.2) : signC.rep w a [.int .i64 a.1, .int .i64 a.2.1, .slice p3 a.2.2.length q3] := ⟨[.int .i64 a.1], _, rfl, rfl, ⟨[.int .i64 a.2.1], _, rfl, rfl, ⟨p3, q3, rfl, r3⟩⟩⟩
def signT (a : SignD) : Nat := a.2.2.length
def signM (a : SignD) (m : Nat) : SignD := (a.1, a.2.1, marks m a.2.2.length)

def signN (a : SignD) : Nat := a.2.2.length
theorem signT_le (a : SignD) : signT a ≤ 8 * signN a := by
  unfold signT signN
  omega

set_option maxRecDepth 4000 in
set_option maxHeartbeats 1000000 in
theorem toSign_k (a : SignD) (us : List Value) (w : World) (h : signC.rep w a us) (hl : signN a ≤ 1048576) :
    Calls Tryz.prog 47 #[.agg us.toArray] w fun e w' => ∃ vs fp, e = .returned (.agg vs.toArray) ∧ signC.own w' w.heap.size a vs fp ∧ Below w.heap.size w w' := by
  obtain ⟨p3, q3, rfl, r3⟩ := sign_rep h
  clear h
  have BW : Below w.heap.size w (((w.alloc (.cells #[.int .i64 a.1, .int .i64 a.2.1, .slice p3 a.2.2.length q3] 82)).alloc (.cells #[.int .i64 0, .int .i64 0, .slice none 0 0] 106)).alloc (.cells #[.int .i64 a.1, .int .i64 a.2.1, .slice none 0 0] 106)) := Below.mk (Below.mk (alloc_below _ _) _) _
  have R : Arr (((w.alloc (.cells #[.int .i64 a.1, .int .i64 a.2.1, .slice p3 a.2.2.length q3] 82)).alloc (.cells #[.int .i64 0, .int .i64 0, .slice none 0 0] 106)).alloc (.cells #[.int .i64 a.1, .int .i64 a.2.1, .slice none 0 0] 106)) (w.heap.size + 1) 106 [.int .i64 0, .int .i64 0, .slice none 0 0] := by
    have h := Arr.new (w.alloc (.cells #[.int .i64 a.1, .int .i64 a.2.1, .slice p3 a.2.2.length q3] 82)) [.int .i64 0, .int .i64 0, .slice none 0 0] 106
    rw [size_alloc] at h
    exact h.old _ _
  have A : Arr (((w.alloc (.cells #[.int .i64 a.1, .int .i64 a.2.1, .slice p3 a.2.2.length q3] 82)).alloc (.cells #[.int .i64 0, .int .i64 0, .slice none 0 0] 106)).alloc (.cells #[.int .i64 a.1, .int .i64 a.2.1, .slice none 0 0] 106)) w.heap.size 82 [.int .i64 a.1, .int .i64 a.2.1, .slice p3 a.2.2.length q3] := Arr.old _ _ (Arr.old _ _ (Arr.new w [.int .i64 a.1, .int .i64 a.2.1, .slice p3 a.2.2.length q3] 82))
  have O : Arr (((w.alloc (.cells #[.int .i64 a.1, .int .i64 a.2.1, .slice p3 a.2.2.length q3] 82)).alloc (.cells #[.int .i64 0, .int .i64 0, .slice none 0 0] 106)).alloc (.cells #[.int .i64 a.1, .int .i64 a.2.1, .slice none 0 0] 106)) (w.heap.size + 1 + 1) 106 [.int .i64 a.1, .int .i64 a.2.1, .slice none 0 0] := by
    have h := Arr.new ((w.alloc (.cells #[.int .i64 a.1, .int .i64 a.2.1, .slice p3 a.2.2.length q3] 82)).alloc (.cells #[.int .i64 0, .int .i64 0, .slice none 0 0] 106)) [.int .i64 a.1, .int .i64 a.2.1, .slice none 0 0] 106
    rw [size_alloc, size_alloc] at h
    exact h
  have z0 : Hid ((((w.alloc (.cells #[.int .i64 a.1, .int .i64 a.2.1, .slice p3 a.2.2.length q3] 82)).alloc (.cells #[.int .i64 0, .int .i64 0, .slice none 0 0] 106)).alloc (.cells #[.int .i64 a.1, .int .i64 a.2.1, .slice none 0 0] 106)).heap.size = w.heap.size + 3) := by show _ = _; rw [size_alloc, size_alloc, size_alloc]
  have R3 : Hid (Rd w p3 q3 a.2.2) := r3
  clear r3
  have HL : Hid (a.2.2.length ≤ 1048576) := hl
  clear hl
  go_enter Tryz.func47, Tryz.ntmps47
  go_wp2_with fail
  refine (toByteS_k a.2.2 _ _ ⟨p3, q3, rfl, R3.out.keep BW⟩ (by have := HL.out; omega)).mono ?_
  rintro e w1 ⟨v2, fp2, rfl, k2, hb⟩
  rw [z0.out] at k2
  have z1 : Hid (w.heap.size + 3 ≤ w1.heap.size) := by have h := hb.size; rw [z0.out] at h; exact h
  have g2 : Hid (∀ k, k ∈ fp2 → w.heap.size + 3 ≤ k ∧ k < w1.heap.size) := fun k hk => bytC.ins k2 k hk
  replace A := A.stay hb
  replace R := R.stay hb
  replace O := O.stay hb
  replace BW := Below.step BW hb
  obtain ⟨pv3, qv3, e2, -⟩ := bytC.toRep k2
  simp only [List.cons.injEq, and_true] at e2
  subst e2
  have ca0 := (A.cell 0).trans (show _ = some _ from rfl)
  have co0 := (O.cell 0).trans (show _ = some _ from rfl)
  have cr0 := (R.cell 0).trans (show _ = some _ from rfl)
  have ca1 := (A.cell 1).trans (show _ = some _ from rfl)
  have co1 := (O.cell 1).trans (show _ = some _ from rfl)
  have cr1 := (R.cell 1).trans (show _ = some _ from rfl)
  have ca2 := (A.cell 2).trans (show _ = some _ from rfl)
  have co2 := (O.cell 2).trans (show _ = some _ from rfl)
  have cr2 := (R.cell 2).trans (show _ = some _ from rfl)
  have fo := O.frozen
  have fr := R.frozen
  clear hb
  go_wp2_with fail
  refine bodyPost_ret (v := .agg #[.int .i64 a.1, .int .i64 a.2.1, .slice pv3 a.2.2.length qv3]) (by simp [results, Tryz.results47, go_sem, cr0, cr1, cr2]) rfl ⟨[.int .i64 a.1, .int .i64 a.2.1, .slice pv3 a.2.2.length qv3], _, rfl, signC.low (own_pair 0 own_int (own_pair 0 own_int (bytC.set (bytC.set (bytC.set (bytC.set k2 (show w.heap.size + 1 + 1 < w.heap.size + 3 by omega) _) (show w.heap.size + 1 < w.heap.size + 3 by omega) _) (show w.heap.size + 1 < w.heap.size + 3 by omega) _) (show w.heap.size + 1 < w.heap.size + 3 by omega) _) lt_nil (fun _ _ => Nat.zero_le _)) lt_nil (fun _ _ => Nat.zero_le _)) (Nat.le_add_right _ 3), ((((BW.setCell (show w.heap.size ≤ w.heap.size + 1 + 1 by omega) _).setCell (show w.heap.size ≤ w.heap.size + 1 by omega) _).setCell (show w.heap.size ≤ w.heap.size + 1 by omega) _).setCell (show w.heap.size ≤ w.heap.size + 1 by omega) _)⟩

set_option maxRecDepth 4000 in
set_option maxHeartbeats 1000000 in
theorem szSign_k (a : SignD) (us : List Value) (left : Int) (w : World) (h : signC.rep w a us) (h0 : 0 ≤ left) (h1 : left ≤ 1048576) :
    Calls Tryz.prog 35 #[.agg us.toArray, .int .i64 left] w fun e w' => e = .returned (.int .i64 (szR (signN a) left)) ∧ Below w.heap.size w w' := by
  obtain ⟨p3, q3, rfl, r3⟩ := sign_rep h
  clear h
  have BW := alloc_below w (.cells #[.int .i64 a.1, .int .i64 a.2.1, .slice p3 a.2.2.length q3] 82)
  have A := Arr.new w [.int .i64 a.1, .int .i64 a.2.1, .slice p3 a.2.2.length q3] 82
  have R3 : Hid (Rd w p3 q3 a.2.2) := r3
  clear r3
  by_cases s0 : ((a.2.2.length : Nat) : Int) ≤ left
  · go_enter Tryz.func35, Tryz.ntmps35
    go_wp2_with fail
    refine (szByteS_k a.2.2 _ _ _ ⟨p3, q3, rfl, R3.out.keep BW⟩ (by omega) (by omega)).mono ?_
    rintro e w1 ⟨rfl, hb⟩
    replace A := A.stay hb
    replace BW := Below.step BW hb
    have ca0 := (A.cell 0).trans (show _ = some _ from rfl)
    have ca1 := (A.cell 1).trans (show _ = some _ from rfl)
    have ca2 := (A.cell 2).trans (show _ = some _ from rfl)
    clear hb
    rw [szR, if_pos (by omega)]
    have hne : ¬ (left - (a.2.2.length : Int) < 0) := by omega
    have hE : Hid (szR (signN a) left = left - (a.2.2.length : Int)) := by show _ = _; unfold signN; rw [szR, if_pos (by omega)] <;> omega
    go_wp2
    go_ret
    exact ⟨by rw [hE.out]; rfl, BW⟩
  · go_enter Tryz.func35, Tryz.ntmps35
    go_wp2_with fail
    refine (szByteS_k a.2.2 _ _ _ ⟨p3, q3, rfl, R3.out.keep BW⟩ (by omega) (by omega)).mono ?_
    rintro e w1 ⟨rfl, hb⟩
    replace A := A.stay hb
    replace BW := Below.step BW hb
    have ca0 := (A.cell 0).trans (show _ = some _ from rfl)
    have ca1 := (A.cell 1).trans (show _ = some _ from rfl)
    have ca2 := (A.cell 2).trans (show _ = some _ from rfl)
    clear hb
    rw [szR, if_neg (by omega)]
    go_wp2
    go_ret
    exact ⟨by unfold signN; rw [szR, if_neg (by omega)] <;> rfl, BW⟩

set_option maxRecDepth 4000 in
set_option maxHeartbeats 1000000 in
theorem eqSign_k (a : SignD) (us vs : List Value) (w : World) (h1 : signC.rep w a us) (h2 : signC.rep w a vs) :
    Calls Tryz.prog 60 #[.agg us.toArray, .agg vs.toArray] w fun e w' => e = .returned (.bool true) ∧ Below w.heap.size w w' := by
  obtain ⟨p3, q3, rfl, r3⟩ := sign_rep h1
  obtain ⟨pb3, qb3, rfl, rb3⟩ := sign_rep h2
  clear h1 h2
  have BW : Below w.heap.size w ((w.alloc (.cells #[.int .i64 a.1, .int .i64 a.2.1, .slice p3 a.2.2.length q3] 106)).alloc (.cells #[.int .i64 a.1, .int .i64 a.2.1, .slice pb3 a.2.2.length qb3] 106)) := Below.mk (alloc_below _ _) _
  have A : Arr ((w.alloc (.cells #[.int .i64 a.1, .int .i64 a.2.1, .slice p3 a.2.2.length q3] 106)).alloc (.cells #[.int .i64 a.1, .int .i64 a.2.1, .slice pb3 a.2.2.length qb3] 106)) w.heap.size 106 [.int .i64 a.1, .int .i64 a.2.1, .slice p3 a.2.2.length q3] := (Arr.new w [.int .i64 a.1, .int .i64 a.2.1, .slice p3 a.2.2.length q3] 106).old _ _
  have B : Arr ((w.alloc (.cells #[.int .i64 a.1, .int .i64 a.2.1, .slice p3 a.2.2.length q3] 106)).alloc (.cells #[.int .i64 a.1, .int .i64 a.2.1, .slice pb3 a.2.2.length qb3] 106)) (w.heap.size + 1) 106 [.int .i64 a.1, .int .i64 a.2.1, .slice pb3 a.2.2.length qb3] := by
    have h := Arr.new (w.alloc (.cells #[.int .i64 a.1, .int .i64 a.2.1, .slice p3 a.2.2.length q3] 106)) [.int .i64 a.1, .int .i64 a.2.1, .slice pb3 a.2.2.length qb3] 106
    rw [size_alloc] at h
    exact h
  replace r3 := r3.keep BW
  replace rb3 := rb3.keep BW
  go_enter Tryz.func60, Tryz.ntmps60
  go_wp2_with fail
  refine (eqByteS_c p3 pb3 q3 qb3 a.2.2 _ r3 rb3).mono ?_
  rintro e w1 ⟨rfl, hb⟩
  replace A := A.stay hb
  replace B := B.stay hb
  replace BW := Below.step BW hb
  replace r3 := r3.keep hb
  replace rb3 := rb3.keep hb
  have ca0 := A.cell 0
  have cb0 := B.cell 0
  have ca1 := A.cell 1
  have cb1 := B.cell 1
  have ca2 := A.cell 2
  have cb2 := B.cell 2
  simp at ca0 cb0 ca1 cb1 ca2 cb2
  clear hb
  go_wp2
  go_ret
  exact ⟨rfl, BW⟩



end Go.Proofs.YthiabbgkfmopiaaGreat

/- How Auth lies in memory, and the contracts of the laws' helpers on it (written by tools/codgen.py). -/
namespace Go.Proofs.YthiabbgkfmopiaaGreat
open Go.ChangeShapes Go.WideShapes Go.ChangeAt Go.RowKit

abbrev AuthD := List UInt8 × CertD × Int × List UInt8
def authC : Cod AuthD := prodC bytC (prodC certC (prodC (intC .i64) bytC))
theorem auth_rep {w : World} {a : AuthD} {vs : List Value} (h : authC.rep w a vs) : ∃ p1 q1 p4 q4, vs = [.slice p1 a.1.length q1, .int .i64 a.2.1.1, .int .i64 a.2.1.2.1, .int .i64 a.2.1.2.2, .int .i64 a.2.2.1, .slice p4 a.2.2.2.length q4] ∧ Rd w p1 q1 a.1 ∧ Rd w p4 q4 a.2.2.2 := by
  obtain ⟨us0, ts0, rfl, h0, us1, ts1, rfl, h1, us2, ts2, rfl, h2, h3⟩ := h
  obtain ⟨p1, q1, rfl, r1⟩ := h0
  have e1 := cert_rep h1
  subst e1
  have e2 : us2 = [Value.int .i64 _] := h2
  subst e2
  obtain ⟨p4, q4, rfl, r4⟩ := h3
  exact ⟨p1, q1, p4, q4, rfl, r1, r4⟩
theorem auth_mk {w : World} {a : AuthD} {p1 : Option Addr} {q1 : Nat} {p4 : Option Addr} {q4 : Nat} (r1 : Rd w p1 q1 a.1) (r4 : Rd w p4 q4 a.2.2.2) : authC.rep w a [.slice p1 a.1.length q1, .int .i64 a.2.1.1, .int .i64 a.2.1.2.1, .int .i64 a.2.1.2.2, .int .i64 a.2.2.1, .slice p4 a.2.2.2.length q4] := ⟨[.slice p1 a.1.length q1], _, rfl, ⟨p1, q1, rfl, r1⟩, ⟨[.int .i64 a.2.1.1, .int .i64 a.2.1.2.1, .int .i64 a.2.1.2.2], _, rfl, cert_mk, ⟨[.int .i64 a.2.2.1], _, rfl, rfl, ⟨p4, q4, rfl, r4⟩⟩⟩⟩
def authT (a : AuthD) : Nat := a.1.length + a.2.2.2.length
def authM (a : AuthD) (m : Nat) : AuthD := (marks m a.1.length, a.2.1, a.2.2.1, marks (m + a.1.length) a.2.2.2.length)

def authN (a : AuthD) : Nat := a.1.length + a.2.2.2.length
theorem authT_le (a : AuthD) : authT a ≤ 8 * authN a := by
  unfold authT authN
  omega






end Go.Proofs.YthiabbgkfmopiaaGreat

