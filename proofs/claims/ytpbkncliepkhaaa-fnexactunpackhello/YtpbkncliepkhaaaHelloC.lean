/- How Hello lies in memory, and the contracts of the laws' helpers on it (written by tools/codgen.py). -/
import Derived.Test.YtpbkncliepkhaaaJoint8
namespace Go.Proofs.Ytpbkncliepkhaaa
open Go.ChangeShapes Go.WideShapes Go.ChangeAt Go.RowKit

abbrev HelloD := List UInt8 × Int × Int
def helloC : Cod HelloD := prodC bytC (prodC (intC .i64) ((intC .i64)))
theorem hello_rep {w : World} {a : HelloD} {vs : List Value} (h : helloC.rep w a vs) : ∃ p1 q1, vs = [.slice p1 a.1.length q1, .int .i64 a.2.1, .int .i64 a.2.2] ∧ Rd w p1 q1 a.1 := by
  obtain ⟨us0, ts0, rfl, h0, us1, ts1, rfl, h1, h2⟩ := h
  obtain ⟨p1, q1, rfl, r1⟩ := h0
  have e1 : us1 = [Value.int .i64 _] := h1
  subst e1
  have e2 : _ = [Value.int .i64 _] := h2
  subst e2
  exact ⟨p1, q1, rfl, r1⟩
theorem hello_mk {w : World} {a : HelloD} {p1 : Option Addr} {q1 : Nat} (r1 : Rd w p1 q1 a.1) : helloC.rep w a [.slice p1 a.1.length q1, .int .i64 a.2.1, .int .i64 a.2.2] := ⟨[.slice p1 a.1.length q1], _, rfl, ⟨p1, q1, rfl, r1⟩, ⟨[.int .i64 a.2.1], _, rfl, rfl, rfl⟩⟩
def helloT (a : HelloD) : Nat := a.1.length
def helloM (a : HelloD) (m : Nat) : HelloD := (marks m a.1.length, a.2.1, a.2.2)

def helloN (a : HelloD) : Nat := a.1.length
theorem helloT_le (a : HelloD) : helloT a ≤ 8 * helloN a := by
  unfold helloT helloN
  omega

set_option maxRecDepth 4000 in
set_option maxHeartbeats 1000000 in
theorem toHello_k (a : HelloD) (us : List Value) (w : World) (h : helloC.rep w a us) (hl : helloN a ≤ 1048576) :
    Calls Try.prog 20 #[.agg us.toArray] w fun e w' => ∃ vs fp, e = .returned (.agg vs.toArray) ∧ helloC.own w' w.heap.size a vs fp ∧ Below w.heap.size w w' := by
  obtain ⟨p1, q1, rfl, r1⟩ := hello_rep h
  clear h
  have BW : Below w.heap.size w (((w.alloc (.cells #[.slice p1 a.1.length q1, .int .i64 a.2.1, .int .i64 a.2.2] 43)).alloc (.cells #[.slice none 0 0, .int .i64 0, .int .i64 0] 29)).alloc (.cells #[.slice none 0 0, .int .i64 0, .int .i64 0] 29)) := Below.mk (Below.mk (alloc_below _ _) _) _
  have R : Arr (((w.alloc (.cells #[.slice p1 a.1.length q1, .int .i64 a.2.1, .int .i64 a.2.2] 43)).alloc (.cells #[.slice none 0 0, .int .i64 0, .int .i64 0] 29)).alloc (.cells #[.slice none 0 0, .int .i64 0, .int .i64 0] 29)) (w.heap.size + 1) 29 [.slice none 0 0, .int .i64 0, .int .i64 0] := by
    have h := Arr.new (w.alloc (.cells #[.slice p1 a.1.length q1, .int .i64 a.2.1, .int .i64 a.2.2] 43)) [.slice none 0 0, .int .i64 0, .int .i64 0] 29
    rw [size_alloc] at h
    exact h.old _ _
  have A : Arr (((w.alloc (.cells #[.slice p1 a.1.length q1, .int .i64 a.2.1, .int .i64 a.2.2] 43)).alloc (.cells #[.slice none 0 0, .int .i64 0, .int .i64 0] 29)).alloc (.cells #[.slice none 0 0, .int .i64 0, .int .i64 0] 29)) w.heap.size 43 [.slice p1 a.1.length q1, .int .i64 a.2.1, .int .i64 a.2.2] := Arr.old _ _ (Arr.old _ _ (Arr.new w [.slice p1 a.1.length q1, .int .i64 a.2.1, .int .i64 a.2.2] 43))
  have O : Arr (((w.alloc (.cells #[.slice p1 a.1.length q1, .int .i64 a.2.1, .int .i64 a.2.2] 43)).alloc (.cells #[.slice none 0 0, .int .i64 0, .int .i64 0] 29)).alloc (.cells #[.slice none 0 0, .int .i64 0, .int .i64 0] 29)) (w.heap.size + 1 + 1) 29 [.slice none 0 0, .int .i64 0, .int .i64 0] := by
    have h := Arr.new ((w.alloc (.cells #[.slice p1 a.1.length q1, .int .i64 a.2.1, .int .i64 a.2.2] 43)).alloc (.cells #[.slice none 0 0, .int .i64 0, .int .i64 0] 29)) [.slice none 0 0, .int .i64 0, .int .i64 0] 29
    rw [size_alloc, size_alloc] at h
    exact h
  have z0 : Hid ((((w.alloc (.cells #[.slice p1 a.1.length q1, .int .i64 a.2.1, .int .i64 a.2.2] 43)).alloc (.cells #[.slice none 0 0, .int .i64 0, .int .i64 0] 29)).alloc (.cells #[.slice none 0 0, .int .i64 0, .int .i64 0] 29)).heap.size = w.heap.size + 3) := by show _ = _; rw [size_alloc, size_alloc, size_alloc]
  have R1 : Hid (Rd w p1 q1 a.1) := r1
  clear r1
  have HL : Hid (a.1.length ≤ 1048576) := hl
  clear hl
  go_enter Try.func20, Try.ntmps20
  go_wp2_with fail
  refine (toByteS_k a.1 _ _ ⟨p1, q1, rfl, R1.out.keep BW⟩ (by have := HL.out; omega)).mono ?_
  rintro e w1 ⟨v0, fp0, rfl, k0, hb⟩
  rw [z0.out] at k0
  have z1 : Hid (w.heap.size + 3 ≤ w1.heap.size) := by have h := hb.size; rw [z0.out] at h; exact h
  have g0 : Hid (∀ k, k ∈ fp0 → w.heap.size + 3 ≤ k ∧ k < w1.heap.size) := fun k hk => bytC.ins k0 k hk
  replace A := A.stay hb
  replace R := R.stay hb
  replace O := O.stay hb
  replace BW := Below.step BW hb
  obtain ⟨pv1, qv1, e0, -⟩ := bytC.toRep k0
  simp only [List.cons.injEq, and_true] at e0
  subst e0
  have ca0 := (A.cell 0).trans (show _ = some _ from rfl)
  have co0 := (O.cell 0).trans (show _ = some _ from rfl)
  have cr0 := (R.cell 0).trans (show _ = some _ from rfl)
  have ca1 := (A.cell 1).trans (show _ = some _ from rfl)
  have co1 := (O.cell 1).trans (show _ = some _ from rfl)
  have cr1 := (R.cell 1).trans (show _ = some _ from rfl)
  have ca2 := (A.cell 2).trans (show _ = some _ from rfl)
  have co2 := (O.cell 2).trans (show _ = some _ from rfl)
  have cr2 := (R.cell 2).trans (show _ = some _ from rfl)
  have fo := O.frozen
  have fr := R.frozen
  clear hb
  go_wp2_with fail
  refine bodyPost_ret (v := .agg #[.slice pv1 a.1.length qv1, .int .i64 a.2.1, .int .i64 a.2.2]) (by simp [results, Try.results20, go_sem, cr0, cr1, cr2]) rfl ⟨[.slice pv1 a.1.length qv1, .int .i64 a.2.1, .int .i64 a.2.2], _, rfl, helloC.low (own_pair w1.heap.size (bytC.set (bytC.set (bytC.set (bytC.set (bytC.set (bytC.set k0 (show w.heap.size + 1 + 1 < w.heap.size + 3 by omega) _) (show w.heap.size + 1 + 1 < w.heap.size + 3 by omega) _) (show w.heap.size + 1 + 1 < w.heap.size + 3 by omega) _) (show w.heap.size + 1 < w.heap.size + 3 by omega) _) (show w.heap.size + 1 < w.heap.size + 3 by omega) _) (show w.heap.size + 1 < w.heap.size + 3 by omega) _) (own_pair 0 own_int own_int lt_nil (fun _ _ => Nat.zero_le _)) (fun k hk => (g0.out k hk).2) (ge_app ge_nil ge_nil)) (Nat.le_add_right _ 3), ((((((BW.setCell (show w.heap.size ≤ w.heap.size + 1 + 1 by omega) _).setCell (show w.heap.size ≤ w.heap.size + 1 + 1 by omega) _).setCell (show w.heap.size ≤ w.heap.size + 1 + 1 by omega) _).setCell (show w.heap.size ≤ w.heap.size + 1 by omega) _).setCell (show w.heap.size ≤ w.heap.size + 1 by omega) _).setCell (show w.heap.size ≤ w.heap.size + 1 by omega) _)⟩

set_option maxRecDepth 4000 in
set_option maxHeartbeats 1000000 in
theorem szHello_k (a : HelloD) (us : List Value) (left : Int) (w : World) (h : helloC.rep w a us) (h0 : 0 ≤ left) (h1 : left ≤ 1048576) :
    Calls Try.prog 18 #[.agg us.toArray, .int .i64 left] w fun e w' => e = .returned (.int .i64 (szR (helloN a) left)) ∧ Below w.heap.size w w' := by
  obtain ⟨p1, q1, rfl, r1⟩ := hello_rep h
  clear h
  have BW := alloc_below w (.cells #[.slice p1 a.1.length q1, .int .i64 a.2.1, .int .i64 a.2.2] 43)
  have A := Arr.new w [.slice p1 a.1.length q1, .int .i64 a.2.1, .int .i64 a.2.2] 43
  have R1 : Hid (Rd w p1 q1 a.1) := r1
  clear r1
  by_cases s0 : ((a.1.length : Nat) : Int) ≤ left
  · go_enter Try.func18, Try.ntmps18
    go_wp2_with fail
    refine (szByteS_k a.1 _ _ _ ⟨p1, q1, rfl, R1.out.keep BW⟩ (by omega) (by omega)).mono ?_
    rintro e w1 ⟨rfl, hb⟩
    replace A := A.stay hb
    replace BW := Below.step BW hb
    have ca0 := (A.cell 0).trans (show _ = some _ from rfl)
    have ca1 := (A.cell 1).trans (show _ = some _ from rfl)
    have ca2 := (A.cell 2).trans (show _ = some _ from rfl)
    clear hb
    rw [szR, if_pos (by omega)]
    have hne : ¬ (left - (a.1.length : Int) < 0) := by omega
    have hE : Hid (szR (helloN a) left = left - (a.1.length : Int)) := by show _ = _; unfold helloN; rw [szR, if_pos (by omega)] <;> omega
    go_wp2
    go_ret
    exact ⟨by rw [hE.out]; rfl, BW⟩
  · go_enter Try.func18, Try.ntmps18
    go_wp2_with fail
    refine (szByteS_k a.1 _ _ _ ⟨p1, q1, rfl, R1.out.keep BW⟩ (by omega) (by omega)).mono ?_
    rintro e w1 ⟨rfl, hb⟩
    replace A := A.stay hb
    replace BW := Below.step BW hb
    have ca0 := (A.cell 0).trans (show _ = some _ from rfl)
    have ca1 := (A.cell 1).trans (show _ = some _ from rfl)
    have ca2 := (A.cell 2).trans (show _ = some _ from rfl)
    clear hb
    rw [szR, if_neg (by omega)]
    go_wp2
    go_ret
    exact ⟨by unfold helloN; rw [szR, if_neg (by omega)] <;> rfl, BW⟩

set_option maxRecDepth 4000 in
set_option maxHeartbeats 1000000 in
theorem eqHello_k (a : HelloD) (us vs : List Value) (w : World) (h1 : helloC.rep w a us) (h2 : helloC.rep w a vs) :
    Calls Try.prog 21 #[.agg us.toArray, .agg vs.toArray] w fun e w' => e = .returned (.bool true) ∧ Below w.heap.size w w' := by
  obtain ⟨p1, q1, rfl, r1⟩ := hello_rep h1
  obtain ⟨pb1, qb1, rfl, rb1⟩ := hello_rep h2
  clear h1 h2
  have BW : Below w.heap.size w ((w.alloc (.cells #[.slice p1 a.1.length q1, .int .i64 a.2.1, .int .i64 a.2.2] 29)).alloc (.cells #[.slice pb1 a.1.length qb1, .int .i64 a.2.1, .int .i64 a.2.2] 29)) := Below.mk (alloc_below _ _) _
  have A : Arr ((w.alloc (.cells #[.slice p1 a.1.length q1, .int .i64 a.2.1, .int .i64 a.2.2] 29)).alloc (.cells #[.slice pb1 a.1.length qb1, .int .i64 a.2.1, .int .i64 a.2.2] 29)) w.heap.size 29 [.slice p1 a.1.length q1, .int .i64 a.2.1, .int .i64 a.2.2] := (Arr.new w [.slice p1 a.1.length q1, .int .i64 a.2.1, .int .i64 a.2.2] 29).old _ _
  have B : Arr ((w.alloc (.cells #[.slice p1 a.1.length q1, .int .i64 a.2.1, .int .i64 a.2.2] 29)).alloc (.cells #[.slice pb1 a.1.length qb1, .int .i64 a.2.1, .int .i64 a.2.2] 29)) (w.heap.size + 1) 29 [.slice pb1 a.1.length qb1, .int .i64 a.2.1, .int .i64 a.2.2] := by
    have h := Arr.new (w.alloc (.cells #[.slice p1 a.1.length q1, .int .i64 a.2.1, .int .i64 a.2.2] 29)) [.slice pb1 a.1.length qb1, .int .i64 a.2.1, .int .i64 a.2.2] 29
    rw [size_alloc] at h
    exact h
  replace r1 := r1.keep BW
  replace rb1 := rb1.keep BW
  go_enter Try.func21, Try.ntmps21
  go_wp2_with fail
  refine (eqByteS_c p1 pb1 q1 qb1 a.1 _ r1 rb1).mono ?_
  rintro e w1 ⟨rfl, hb⟩
  replace A := A.stay hb
  replace B := B.stay hb
  replace BW := Below.step BW hb
  replace r1 := r1.keep hb
  replace rb1 := rb1.keep hb
  have ca0 := A.cell 0
  have cb0 := B.cell 0
  have ca1 := A.cell 1
  have cb1 := B.cell 1
  have ca2 := A.cell 2
  have cb2 := B.cell 2
  simp at ca0 cb0 ca1 cb1 ca2 cb2
  clear hb
  go_wp2
  go_ret
  exact ⟨rfl, BW⟩

set_option maxRecDepth 4000 in
set_option maxHeartbeats 1000000 in
theorem markHello_k (a : HelloD) (us : List Value) (fp : List Nat) (B m : Nat) (mi : Int) (hmi : mi = (m : Int)) (w : World) (h : helloC.own w B a us fp) (hm : m + helloT a ≤ 1000000000) :
    Calls Try.prog 23 #[.agg us.toArray, .int .i64 mi] w fun e w' => e = .returned (.int .i64 (mi + (helloT a : Int))) ∧ helloC.own w' B (helloM a m) us fp ∧ Only fp w w' := by
  subst hmi
  obtain ⟨us0, ts0, f0, g0, rfl, rfl, nd0, k0, us1, ts1, f1, g1, rfl, rfl, nd1, k1, k2⟩ := h
  obtain ⟨p1, q1, e0, -⟩ := bytC.toRep k0
  subst e0
  obtain ⟨e1, ef1⟩ := k1
  subst e1 ef1
  obtain ⟨e2, ef2⟩ := k2
  subst e2 ef2
  have z0 : Hid (∀ x, x ∈ f0 → x < w.heap.size) := fun x hx => (bytC.ins k0 x hx).2
  have s0 : Hid (∀ x, x ∈ f0 → x ∈ f0 ++ ([] ++ [])) := fun x hx => by simp [hx]
  have A := Arr.new w [.slice p1 a.1.length q1, .int .i64 a.2.1, .int .i64 a.2.2] 29
  have ON : Only (f0 ++ ([] ++ [])) w (w.alloc (.cells #[.slice p1 a.1.length q1, .int .i64 a.2.1, .int .i64 a.2.2] 29)) := Only.below (alloc_below _ _)
  replace k0 := bytC.stay k0 (alloc_below _ (.cells #[.slice p1 a.1.length q1, .int .i64 a.2.1, .int .i64 a.2.2] 29))
  have ND0 : Hid _ := nd0
  have ND1 : Hid _ := nd1
  clear nd0 nd1
  have hT : Hid (m + (a.1.length) ≤ 1000000000) := hm
  clear hm
  go_enter Try.func23, Try.ntmps23
  go_wp2_with fail
  refine (markByteS_k a.1 _ _ B m _ (by first | rfl | simp | (simp; omega) | (push_cast; omega)) _ k0 (by have := hT.out; omega)).mono ?_
  rintro e w1 ⟨rfl, k0, ho⟩
  replace A := A.only ho (fun h => Nat.lt_irrefl _ (z0.out _ h))
  replace ON := ON.trans_sub ho s0.out
  have ca0 := A.cell 0
  have ca1 := A.cell 1
  have ca2 := A.cell 2
  simp at ca0 ca1 ca2
  clear ho
  go_wp2
  go_ret
  exact ⟨by unfold helloT; simp; try omega, ⟨_, _, _, _, rfl, rfl, ND0.out, k0, ⟨_, _, [], _, rfl, rfl, ND1.out, ⟨rfl, rfl⟩, ⟨rfl, rfl⟩⟩⟩, ON⟩

set_option maxRecDepth 4000 in
set_option maxHeartbeats 1000000 in
theorem heldHello_k (a : HelloD) (us : List Value) (m : Nat) (mi : Int) (hmi : mi = (m : Int)) (w : World) (h : helloC.rep w (helloM a m) us) (hm : m + helloT a ≤ 1048577) :
    Calls Try.prog 57 #[.agg us.toArray, .int .i64 mi] w fun e w' => e = .returned (.int .i64 (mi + (helloT a : Int))) ∧ Below w.heap.size w w' := by
  subst hmi
  obtain ⟨us0, ts0, rfl, h0, us1, ts1, rfl, h1, h2⟩ := h
  obtain ⟨p1, q1, rfl, r1⟩ := h0
  have e1 : us1 = [Value.int .i64 (helloM a m).2.1] := h1
  subst e1
  have e2 : _ = [Value.int .i64 (helloM a m).2.2] := h2
  subst e2
  have A := Arr.new w [.slice p1 (helloM a m).1.length q1, .int .i64 (helloM a m).2.1, .int .i64 (helloM a m).2.2] 29
  have BW := alloc_below w (.cells #[.slice p1 (helloM a m).1.length q1, .int .i64 (helloM a m).2.1, .int .i64 (helloM a m).2.2] 29)
  replace r1 := r1.keep BW
  have hT : Hid (m + (a.1.length) ≤ 1048577) := hm
  clear hm
  go_enter Try.func57, Try.ntmps57
  go_wp2_with fail
  refine (heldByteS_k (helloM a m).1 p1 q1 a.1.length m rfl _ (by first | rfl | simp | (simp; omega) | (push_cast; omega)) _ r1 (by have := hT.out; omega)).mono ?_
  rintro e w1 ⟨rfl, hw⟩
  subst hw
  go_wp2
  go_ret
  exact ⟨by unfold helloT; simp; try omega, BW⟩

end Go.Proofs.Ytpbkncliepkhaaa

