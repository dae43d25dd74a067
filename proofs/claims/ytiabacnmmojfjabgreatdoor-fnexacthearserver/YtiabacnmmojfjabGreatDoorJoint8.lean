/- How Msg lies in memory, and the contracts of the laws' helpers on it (written by tools/codgen.py). -/
import Derived.Test.YtiabacnmmojfjabGreatDoorJoint7
import Derived.Test.YtiabacnmmojfjabGreatDoorMsgC
import Derived.Test.YtiabacnmmojfjabGreatDoorJoint2
namespace Go.Proofs.YtiabacnmmojfjabGreatDoor
open Go.ChangeShapes Go.WideShapes Go.ChangeAt Go.RowKit

def msgT (a : MsgD) : Nat := a.2.length
def msgM (a : MsgD) (m : Nat) : MsgD := (a.1, marks m a.2.length)

def msgN (a : MsgD) : Nat := a.2.length
theorem msgT_le (a : MsgD) : msgT a ≤ 8 * msgN a := by
  unfold msgT msgN
  omega

set_option maxRecDepth 4000 in
set_option maxHeartbeats 1000000 in
theorem toMsg_k (a : MsgD) (us : List Value) (w : World) (h : msgC.rep w a us) (hl : msgN a ≤ 1048576) :
    Calls Tryz.prog 21 #[.agg us.toArray] w fun e w' => ∃ vs fp, e = .returned (.agg vs.toArray) ∧ msgC.own w' w.heap.size a vs fp ∧ Below w.heap.size w w' := by
  obtain ⟨p2, q2, rfl, r2⟩ := msg_rep h
  clear h
  have BW : Below w.heap.size w (((w.alloc (.cells #[.int .i64 a.1, .slice p2 a.2.length q2] 50)).alloc (.cells #[.int .i64 0, .slice none 0 0] 53)).alloc (.cells #[.int .i64 a.1, .slice none 0 0] 53)) := Below.mk (Below.mk (alloc_below _ _) _) _
  have R : Arr (((w.alloc (.cells #[.int .i64 a.1, .slice p2 a.2.length q2] 50)).alloc (.cells #[.int .i64 0, .slice none 0 0] 53)).alloc (.cells #[.int .i64 a.1, .slice none 0 0] 53)) (w.heap.size + 1) 53 [.int .i64 0, .slice none 0 0] := by
    have h := Arr.new (w.alloc (.cells #[.int .i64 a.1, .slice p2 a.2.length q2] 50)) [.int .i64 0, .slice none 0 0] 53
    rw [size_alloc] at h
    exact h.old _ _
  have A : Arr (((w.alloc (.cells #[.int .i64 a.1, .slice p2 a.2.length q2] 50)).alloc (.cells #[.int .i64 0, .slice none 0 0] 53)).alloc (.cells #[.int .i64 a.1, .slice none 0 0] 53)) w.heap.size 50 [.int .i64 a.1, .slice p2 a.2.length q2] := Arr.old _ _ (Arr.old _ _ (Arr.new w [.int .i64 a.1, .slice p2 a.2.length q2] 50))
  have O : Arr (((w.alloc (.cells #[.int .i64 a.1, .slice p2 a.2.length q2] 50)).alloc (.cells #[.int .i64 0, .slice none 0 0] 53)).alloc (.cells #[.int .i64 a.1, .slice none 0 0] 53)) (w.heap.size + 1 + 1) 53 [.int .i64 a.1, .slice none 0 0] := by
    have h := Arr.new ((w.alloc (.cells #[.int .i64 a.1, .slice p2 a.2.length q2] 50)).alloc (.cells #[.int .i64 0, .slice none 0 0] 53)) [.int .i64 a.1, .slice none 0 0] 53
    rw [size_alloc, size_alloc] at h
    exact h
  have z0 : Hid ((((w.alloc (.cells #[.int .i64 a.1, .slice p2 a.2.length q2] 50)).alloc (.cells #[.int .i64 0, .slice none 0 0] 53)).alloc (.cells #[.int .i64 a.1, .slice none 0 0] 53)).heap.size = w.heap.size + 3) := by show _ = _; rw [size_alloc, size_alloc, size_alloc]
  have R2 : Hid (Rd w p2 q2 a.2) := r2
  clear r2
  have HL : Hid (a.2.length ≤ 1048576) := hl
  clear hl
  go_enter Tryz.func21, Tryz.ntmps21
  go_wp2_with fail
  refine (toByteS_k a.2 _ _ ⟨p2, q2, rfl, R2.out.keep BW⟩ (by have := HL.out; omega)).mono ?_
  rintro e w1 ⟨v1, fp1, rfl, k1, hb⟩
  rw [z0.out] at k1
  have z1 : Hid (w.heap.size + 3 ≤ w1.heap.size) := by have h := hb.size; rw [z0.out] at h; exact h
  have g1 : Hid (∀ k, k ∈ fp1 → w.heap.size + 3 ≤ k ∧ k < w1.heap.size) := fun k hk => bytC.ins k1 k hk
  replace A := A.stay hb
  replace R := R.stay hb
  replace O := O.stay hb
  replace BW := Below.step BW hb
  obtain ⟨pv2, qv2, e1, -⟩ := bytC.toRep k1
  simp only [List.cons.injEq, and_true] at e1
  subst e1
  have ca0 := (A.cell 0).trans (show _ = some _ from rfl)
  have co0 := (O.cell 0).trans (show _ = some _ from rfl)
  have cr0 := (R.cell 0).trans (show _ = some _ from rfl)
  have ca1 := (A.cell 1).trans (show _ = some _ from rfl)
  have co1 := (O.cell 1).trans (show _ = some _ from rfl)
  have cr1 := (R.cell 1).trans (show _ = some _ from rfl)
  have fo := O.frozen
  have fr := R.frozen
  clear hb
  go_wp2_with fail
  refine bodyPost_ret (v := .agg #[.int .i64 a.1, .slice pv2 a.2.length qv2]) (by simp [results, Tryz.results21, go_sem, cr0, cr1]) rfl ⟨[.int .i64 a.1, .slice pv2 a.2.length qv2], _, rfl, msgC.low (own_pair 0 own_int (bytC.set (bytC.set (bytC.set k1 (show w.heap.size + 1 + 1 < w.heap.size + 3 by omega) _) (show w.heap.size + 1 < w.heap.size + 3 by omega) _) (show w.heap.size + 1 < w.heap.size + 3 by omega) _) lt_nil (fun _ _ => Nat.zero_le _)) (Nat.le_add_right _ 3), (((BW.setCell (show w.heap.size ≤ w.heap.size + 1 + 1 by omega) _).setCell (show w.heap.size ≤ w.heap.size + 1 by omega) _).setCell (show w.heap.size ≤ w.heap.size + 1 by omega) _)⟩

set_option maxRecDepth 4000 in
set_option maxHeartbeats 1000000 in
theorem szMsg_k (a : MsgD) (us : List Value) (left : Int) (w : World) (h : msgC.rep w a us) (h0 : 0 ≤ left) (h1 : left ≤ 1048576) :
    Calls Tryz.prog 19 #[.agg us.toArray, .int .i64 left] w fun e w' => e = .returned (.int .i64 (szR (msgN a) left)) ∧ Below w.heap.size w w' := by
  obtain ⟨p2, q2, rfl, r2⟩ := msg_rep h
  clear h
  have BW := alloc_below w (.cells #[.int .i64 a.1, .slice p2 a.2.length q2] 50)
  have A := Arr.new w [.int .i64 a.1, .slice p2 a.2.length q2] 50
  have R2 : Hid (Rd w p2 q2 a.2) := r2
  clear r2
  by_cases s0 : ((a.2.length : Nat) : Int) ≤ left
  · go_enter Tryz.func19, Tryz.ntmps19
    go_wp2_with fail
    refine (szByteS_k a.2 _ _ _ ⟨p2, q2, rfl, R2.out.keep BW⟩ (by omega) (by omega)).mono ?_
    rintro e w1 ⟨rfl, hb⟩
    replace A := A.stay hb
    replace BW := Below.step BW hb
    have ca0 := (A.cell 0).trans (show _ = some _ from rfl)
    have ca1 := (A.cell 1).trans (show _ = some _ from rfl)
    clear hb
    rw [szR, if_pos (by omega)]
    have hne : ¬ (left - (a.2.length : Int) < 0) := by omega
    have hE : Hid (szR (msgN a) left = left - (a.2.length : Int)) := by show _ = _; unfold msgN; rw [szR, if_pos (by omega)] <;> omega
    go_wp2
    go_ret
    exact ⟨by rw [hE.out]; rfl, BW⟩
  · go_enter Tryz.func19, Tryz.ntmps19
    go_wp2_with fail
    refine (szByteS_k a.2 _ _ _ ⟨p2, q2, rfl, R2.out.keep BW⟩ (by omega) (by omega)).mono ?_
    rintro e w1 ⟨rfl, hb⟩
    replace A := A.stay hb
    replace BW := Below.step BW hb
    have ca0 := (A.cell 0).trans (show _ = some _ from rfl)
    have ca1 := (A.cell 1).trans (show _ = some _ from rfl)
    clear hb
    rw [szR, if_neg (by omega)]
    go_wp2
    go_ret
    exact ⟨by unfold msgN; rw [szR, if_neg (by omega)] <;> rfl, BW⟩

set_option maxRecDepth 4000 in
set_option maxHeartbeats 1000000 in
theorem eqMsg_k (a : MsgD) (us vs : List Value) (w : World) (h1 : msgC.rep w a us) (h2 : msgC.rep w a vs) :
    Calls Tryz.prog 23 #[.agg us.toArray, .agg vs.toArray] w fun e w' => e = .returned (.bool true) ∧ Below w.heap.size w w' := by
  obtain ⟨p2, q2, rfl, r2⟩ := msg_rep h1
  obtain ⟨pb2, qb2, rfl, rb2⟩ := msg_rep h2
  clear h1 h2
  have BW : Below w.heap.size w ((w.alloc (.cells #[.int .i64 a.1, .slice p2 a.2.length q2] 53)).alloc (.cells #[.int .i64 a.1, .slice pb2 a.2.length qb2] 53)) := Below.mk (alloc_below _ _) _
  have A : Arr ((w.alloc (.cells #[.int .i64 a.1, .slice p2 a.2.length q2] 53)).alloc (.cells #[.int .i64 a.1, .slice pb2 a.2.length qb2] 53)) w.heap.size 53 [.int .i64 a.1, .slice p2 a.2.length q2] := (Arr.new w [.int .i64 a.1, .slice p2 a.2.length q2] 53).old _ _
  have B : Arr ((w.alloc (.cells #[.int .i64 a.1, .slice p2 a.2.length q2] 53)).alloc (.cells #[.int .i64 a.1, .slice pb2 a.2.length qb2] 53)) (w.heap.size + 1) 53 [.int .i64 a.1, .slice pb2 a.2.length qb2] := by
    have h := Arr.new (w.alloc (.cells #[.int .i64 a.1, .slice p2 a.2.length q2] 53)) [.int .i64 a.1, .slice pb2 a.2.length qb2] 53
    rw [size_alloc] at h
    exact h
  replace r2 := r2.keep BW
  replace rb2 := rb2.keep BW
  go_enter Tryz.func23, Tryz.ntmps23
  go_wp2_with fail
  refine (eqByteS_c p2 pb2 q2 qb2 a.2 _ r2 rb2).mono ?_
  rintro e w1 ⟨rfl, hb⟩
  replace A := A.stay hb
  replace B := B.stay hb
  replace BW := Below.step BW hb
  replace r2 := r2.keep hb
  replace rb2 := rb2.keep hb
  have ca0 := A.cell 0
  have cb0 := B.cell 0
  have ca1 := A.cell 1
  have cb1 := B.cell 1
  simp at ca0 cb0 ca1 cb1
  clear hb
  go_wp2
  go_ret
  exact ⟨rfl, BW⟩

set_option maxRecDepth 4000 in
set_option maxHeartbeats 1000000 in
theorem markMsg_k (a : MsgD) (us : List Value) (fp : List Nat) (B m : Nat) (mi : Int) (hmi : mi = (m : Int)) (w : World) (h : msgC.own w B a us fp) (hm : m + msgT a ≤ 1000000000) :
    Calls Tryz.prog 24 #[.agg us.toArray, .int .i64 mi] w fun e w' => e = .returned (.int .i64 (mi + (msgT a : Int))) ∧ msgC.own w' B (msgM a m) us fp ∧ Only fp w w' := by
  subst hmi
  obtain ⟨us0, ts0, f0, g0, rfl, rfl, nd0, k0, k1⟩ := h
  obtain ⟨e0, ef0⟩ := k0
  subst e0 ef0
  obtain ⟨p2, q2, e1, -⟩ := bytC.toRep k1
  subst e1
  have z1 : Hid (∀ x, x ∈ g0 → x < w.heap.size) := fun x hx => (bytC.ins k1 x hx).2
  have s1 : Hid (∀ x, x ∈ g0 → x ∈ [] ++ g0) := fun x hx => by simp [hx]
  have A := Arr.new w [.int .i64 a.1, .slice p2 a.2.length q2] 53
  have ON : Only ([] ++ g0) w (w.alloc (.cells #[.int .i64 a.1, .slice p2 a.2.length q2] 53)) := Only.below (alloc_below _ _)
  replace k1 := bytC.stay k1 (alloc_below _ (.cells #[.int .i64 a.1, .slice p2 a.2.length q2] 53))
  have ND0 : Hid _ := nd0
  clear nd0
  have hT : Hid (m + (a.2.length) ≤ 1000000000) := hm
  clear hm
  go_enter Tryz.func24, Tryz.ntmps24
  go_wp2_with fail
  refine (markByteS_k a.2 _ _ B m _ (by first | rfl | simp | (simp; omega) | (push_cast; omega)) _ k1 (by have := hT.out; omega)).mono ?_
  rintro e w1 ⟨rfl, k1, ho⟩
  replace A := A.only ho (fun h => Nat.lt_irrefl _ (z1.out _ h))
  replace ON := ON.trans_sub ho s1.out
  have ca0 := A.cell 0
  have ca1 := A.cell 1
  simp at ca0 ca1
  clear ho
  go_wp2
  go_ret
  exact ⟨by unfold msgT; simp; try omega, ⟨_, _, [], _, rfl, rfl, ND0.out, ⟨rfl, rfl⟩, k1⟩, ON⟩


end Go.Proofs.YtiabacnmmojfjabGreatDoor

/- How MsgResult lies in memory, and the contracts of the laws' helpers on it (written by tools/codgen.py). -/
namespace Go.Proofs.YtiabacnmmojfjabGreatDoor
open Go.ChangeShapes Go.WideShapes Go.ChangeAt Go.RowKit

abbrev MsgResultD := Int × MsgD
def msgResultC : Cod MsgResultD := prodC (intC .i64) msgC
theorem msgResult_rep {w : World} {a : MsgResultD} {vs : List Value} (h : msgResultC.rep w a vs) : ∃ p2_2 q2_2, vs = [.int .i64 a.1, .int .i64 a.2.1, .slice p2_2 a.2.2.length q2_2] ∧ Rd w p2_2 q2_2 a.2.2 := by
  obtain ⟨us0, ts0, rfl, h0, h1⟩ := h
  have e0 : us0 = [Value.int .i64 _] := h0
  subst e0
  obtain ⟨p2_2, q2_2, rfl, r2_2⟩ := msg_rep h1
  exact ⟨p2_2, q2_2, rfl, r2_2⟩
theorem msgResult_mk {w : World} {a : MsgResultD} {p2_2 : Option Addr} {q2_2 : Nat} (r2_2 : Rd w p2_2 q2_2 a.2.2) : msgResultC.rep w a [.int .i64 a.1, .int .i64 a.2.1, .slice p2_2 a.2.2.length q2_2] := ⟨[.int .i64 a.1], _, rfl, rfl, (msg_mk r2_2)⟩
def msgResultT (a : MsgResultD) : Nat := msgT a.2
def msgResultM (a : MsgResultD) (m : Nat) : MsgResultD := (a.1, msgM a.2 m)

def msgResultN (a : MsgResultD) : Nat := msgN a.2
theorem msgResultT_le (a : MsgResultD) : msgResultT a ≤ 8 * msgResultN a := by
  have h1 := msgT_le a.2
  unfold msgResultT msgResultN
  omega






end Go.Proofs.YtiabacnmmojfjabGreatDoor

/- Chapter 10 as plain functions, with no program in it: faults of hellos, their messages, what is read of a body, finished messages; that a hello is read back. No conditions but those in each line. -/
namespace Go.Proofs.YtiabacnmmojfjabGreatDoor
open Go.RowKit

def hfC (h : HelloD) : Int := if h.1.length = 8 then (if inB h.2.1 1 65520 && inB h.2.2 0 9 then 0 else 3) else 1
def hkB (k : Int) : Bool := decide (k = 1) || decide (k = 2)
def hpB (h : HelloD) : List (List UInt8) := [h.1, putB h.2.1.toNat 2, [UInt8.ofNat h.2.2.toNat]]
def hpL (h : HelloD) : List UInt8 := blksN (hpB h)
def zeroH : HelloD := ([], 0, 0)
def phC (k : Int) (h : HelloD) : Int := if hkB k then hfC h else 3
def phD (k : Int) (h : HelloD) : MsgResultD := if phC k h = 0 then (0, k, hpL h) else (phC k h, 0, [])
/-- A body as a hello. -/
def h3 (bl : List (List UInt8)) : Option HelloD := match bl with
  | [a, b, c] => if b.length = 2 ∧ c.length = 1 ∧ hfC (a, ((getB b : Nat) : Int), (((c.getD 0 0).toNat : Nat) : Int)) = 0 then some (a, ((getB b : Nat) : Int), (((c.getD 0 0).toNat : Nat) : Int)) else none
  | _ => none
def huR (body : List UInt8) : Option HelloD := (splitR body 0 []).bind h3
def uhC (k : Int) (m : MsgD) : Int := if hkB k then (if faultW m.1 m.2.length = 0 then (if m.1 = k then (if (huR m.2).isSome then 0 else 5) else 1) else faultW m.1 m.2.length) else 3
def uhD (k : Int) (m : MsgD) : HelloResultD := (uhC k m, if uhC k m = 0 then (huR m.2).getD zeroH else zeroH)
def trL (l : List MsgD) : List UInt8 := if psC l = 0 then digestN (packAll l) else []
def fmC (s : List UInt8) (l : List MsgD) : Int := if is32 s then psC l else 1
def fmL (s : List UInt8) (l : List MsgD) : List UInt8 := finN s (digestN (packAll l))
def fmD (s : List UInt8) (l : List MsgD) : MsgResultD := if fmC s l = 0 then (0, 20, fmL s l) else (fmC s l, 0, [])
def cfC (s : List UInt8) (l : List MsgD) (m : MsgD) : Int := if fmC s l = 0 then (if faultW m.1 m.2.length = 0 then (if m.1 = 20 then (if m.2 = fmL s l then 0 else 7) else 1) else faultW m.1 m.2.length) else fmC s l

theorem putB2_get (bs : List UInt8) (h : bs.length = 2) : putB (getB bs) 2 = bs := by
  match bs, h with
  | [a, b], _ =>
    have e : getB [a, b] = a.toNat * 256 + b.toNat := by simp [getB]
    have ha := a.toNat_lt
    have hb := b.toNat_lt
    rw [show putB (getB [a, b]) 2 = [UInt8.ofNat (getB [a, b] / 256 ^ 1 % 256), UInt8.ofNat (getB [a, b] / 256 ^ 0 % 256)] from rfl, e]
    have e1 : (a.toNat * 256 + b.toNat) / 256 ^ 1 % 256 = a.toNat := by omega
    have e2 : (a.toNat * 256 + b.toNat) / 256 ^ 0 % 256 = b.toNat := by omega
    rw [e1, e2, UInt8.ofNat_toNat, UInt8.ofNat_toNat]
theorem getB2_put (n : Nat) (h : n < 65536) : getB (putB n 2) = n := by
  rw [show putB n 2 = [UInt8.ofNat (n / 256 ^ 1 % 256), UInt8.ofNat (n / 256 ^ 0 % 256)] from rfl]
  simp only [getB, List.foldl_cons, List.foldl_nil, UInt8.toNat_ofNat', Nat.pow_one, Nat.pow_zero, Nat.div_one]
  omega
theorem hf_parts {h : HelloD} (hc : hfC h = 0) : h.1.length = 8 ∧ 1 ≤ h.2.1 ∧ h.2.1 ≤ 65520 ∧ 0 ≤ h.2.2 ∧ h.2.2 ≤ 9 := by
  unfold hfC at hc
  by_cases h1 : h.1.length = 8
  · rw [if_pos h1] at hc
    by_cases h2 : (inB h.2.1 1 65520 && inB h.2.2 0 9) = true
    · have h3 : (1 ≤ h.2.1 ∧ h.2.1 ≤ 65520) ∧ 0 ≤ h.2.2 ∧ h.2.2 ≤ 9 := by simpa [inB] using h2
      exact ⟨h1, h3.1.1, h3.1.2, h3.2.1, h3.2.2⟩
    · rw [if_neg h2] at hc; exact absurd hc (by decide)
  · rw [if_neg h1] at hc; exact absurd hc (by decide)
theorem hpL_len {h : HelloD} (hc : hfC h = 0) : (hpL h).length = 14 := by
  have h1 := (hf_parts hc).1
  unfold hpL hpB
  rw [blksN_cons, blksN_cons, blksN_one, List.length_append, List.length_append, blkW_len, blkW_len, blkW_len, putB_len, h1]
  rfl
theorem h3_pack {h : HelloD} (hc : hfC h = 0) : h3 (hpB h) = some h := by
  obtain ⟨p1, p2, p3, p4, p5⟩ := hf_parts hc
  have e1 : ((getB (putB h.2.1.toNat 2) : Nat) : Int) = h.2.1 := by rw [getB2_put _ (by omega)]; omega
  have e2 : ((([UInt8.ofNat h.2.2.toNat].getD 0 0).toNat : Nat) : Int) = h.2.2 := by
    show (((UInt8.ofNat h.2.2.toNat).toNat : Nat) : Int) = _
    rw [UInt8.toNat_ofNat']
    omega
  unfold h3 hpB
  simp only
  rw [e1, e2, if_pos ⟨putB_len _ _, rfl, hc⟩]
/-- What is packed is read back. -/
theorem huR_pack {h : HelloD} (hc : hfC h = 0) : huR (hpL h) = some h := by
  obtain ⟨p1, p2, p3, p4, p5⟩ := hf_parts hc
  have hs := split_pack (hpB h) [] [] (fun b hb => by
    unfold hpB at hb
    simp only [List.mem_cons, List.not_mem_nil, or_false] at hb
    rcases hb with rfl | rfl | rfl
    · omega
    · rw [putB_len]; decide
    · simp) (by simp [hpB])
  unfold huR
  rw [show splitR (hpL h) 0 [] = some (hpB h) from hs]
  exact h3_pack hc
/-- What is read is what it is packed as. -/
theorem huR_back {body : List UInt8} {h : HelloD} (hu : huR body = some h) : hfC h = 0 ∧ hpL h = body := by
  unfold huR at hu
  cases hs : splitR body 0 [] with
  | none => rw [hs] at hu; cases hu
  | some bl =>
    rw [hs] at hu
    have hb := pack_split body body.length 0 [] bl (by omega) (Nat.zero_le _) rfl (by decide) (fun b hb => by cases hb) hs
    match bl, hu with
    | [a, b, c], hu =>
      have hu2 : h3 [a, b, c] = some h := hu
      unfold h3 at hu2
      simp only at hu2
      by_cases hc : b.length = 2 ∧ c.length = 1 ∧ hfC (a, ((getB b : Nat) : Int), (((c.getD 0 0).toNat : Nat) : Int)) = 0
      · rw [if_pos hc] at hu2
        cases hu2
        refine ⟨hc.2.2, ?_⟩
        have e1 : putB (((getB b : Nat) : Int)).toNat 2 = b := by rw [Int.toNat_natCast]; exact putB2_get b hc.1
        have e2 : [UInt8.ofNat ((((c.getD 0 0).toNat : Nat) : Int)).toNat] = c := by
          rw [Int.toNat_natCast, UInt8.ofNat_toNat]
          match c, hc.2.1 with
          | [x], _ => rfl
        unfold hpL hpB
        simp only
        rw [e1, e2]
        exact hb.1
      · rw [if_neg hc] at hu2; cases hu2
    | [], hu => cases hu
    | [_], hu => cases hu
    | [_, _], hu => cases hu
    | _ :: _ :: _ :: _ :: _, hu => cases hu
theorem phD_small (k : Int) (h : HelloD) : msgResultT (phD k h) ≤ 1048576 := by
  unfold phD
  split
  · rename_i hc
    unfold phC at hc
    split at hc
    · show (hpL h).length ≤ _
      rw [hpL_len hc]
      decide
    · exact absurd hc (by decide)
  · exact Nat.zero_le _
theorem uhD_small (k : Int) (m : MsgD) : helloResultT (uhD k m) ≤ 1048576 := by
  unfold uhD
  split
  · rename_i hc
    cases hu : huR m.2 with
    | none => exact Nat.zero_le _
    | some h =>
      show h.1.length ≤ _
      rw [(hf_parts (huR_back hu).1).1]
      decide
  · exact Nat.zero_le _
end Go.Proofs.YtiabacnmmojfjabGreatDoor

/- Chapter 8 as plain functions, with no program in it: powers that are left by 65521; that each number from 1 to 65520 has 1 as its power 65520 (tried one by one, by the kernel); powers of sums, and of powers. No conditions but those in each line. -/
namespace Go.Proofs.YtiabacnmmojfjabGreatDoor

def powN (b e : Nat) : Nat := b ^ e % 65521
theorem powN_lt (b e : Nat) : powN b e < 65521 := Nat.mod_lt _ (by decide)
theorem powN_zero (b : Nat) : powN b 0 = 1 := by simp [powN]
theorem powN_add (b m n : Nat) : powN b m * powN b n % 65521 = powN b (m + n) := by unfold powN; rw [← Nat.mul_mod, ← Nat.pow_add]
theorem powN_mul (b m n : Nat) : powN (powN b m) n = powN b (m * n) := by unfold powN; rw [← Nat.pow_mod, ← Nat.pow_mul]
theorem powN_base (b e : Nat) : powN (b % 65521) e = powN b e := by unfold powN; rw [← Nat.pow_mod]
/-- One step of squaring: what is to be multiplied on stays. -/
theorem pow_even (o b e : Nat) (h : e % 2 = 0) : o * (b * b % 65521) ^ (e / 2) % 65521 = o * b ^ e % 65521 := by
  rw [Nat.mul_mod, ← Nat.pow_mod, ← Nat.mul_mod, ← Nat.pow_two, ← Nat.pow_mul, show 2 * (e / 2) = e by omega]
theorem pow_odd (o b e : Nat) (h : e % 2 = 1) : (o * b % 65521) * (b * b % 65521) ^ (e / 2) % 65521 = o * b ^ e % 65521 := by
  rw [Nat.mul_mod, Nat.mod_mod, ← Nat.pow_mod, ← Nat.mul_mod, ← Nat.pow_two, ← Nat.pow_mul, Nat.mul_assoc, ← Nat.pow_succ', show (2 * (e / 2)).succ = e by omega]

def st8 (r a : Nat) : Nat := Nat.mod (Nat.mul (Nat.mod (Nat.mul r r) 65521) a) 65521
def sq8 (r : Nat) : Nat := Nat.mod (Nat.mul r r) 65521
def fm8 (a : Nat) : Nat := sq8 (sq8 (sq8 (sq8 (st8 (st8 (st8 (st8 (st8 (st8 (st8 (st8 (st8 (st8 (st8 a a) a) a) a) a) a) a) a) a) a) a))))
def chk8 : Nat → Nat → Bool
  | 0, _ => true
  | n + 1, b => (fm8 (b + n) == 1) && chk8 n b
theorem st8_spec {r a k : Nat} (h : r % 65521 = a ^ k % 65521) : st8 r a % 65521 = a ^ (2 * k + 1) % 65521 := by
  show (r * r % 65521 * a % 65521) % 65521 = _
  have h1 : r * r % 65521 = a ^ (k + k) % 65521 := by rw [Nat.mul_mod, h, ← Nat.mul_mod, ← Nat.pow_add]
  rw [Nat.mod_mod, h1, Nat.mul_mod, Nat.mod_mod, ← Nat.mul_mod, ← Nat.pow_succ, show (k + k).succ = 2 * k + 1 by omega]
theorem sq8_spec {r a k : Nat} (h : r % 65521 = a ^ k % 65521) : sq8 r % 65521 = a ^ (2 * k) % 65521 := by
  show (r * r % 65521) % 65521 = _
  rw [Nat.mod_mod, Nat.mul_mod r r, h, ← Nat.mul_mod, ← Nat.pow_add, show k + k = 2 * k by omega]
theorem fm8_spec (a E : Nat) (hE : E = 65520) : fm8 a % 65521 = a ^ E % 65521 := by
  have h0 : a % 65521 = a ^ 1 % 65521 := by rw [Nat.pow_one]
  have h := sq8_spec (sq8_spec (sq8_spec (sq8_spec (st8_spec (st8_spec (st8_spec (st8_spec (st8_spec (st8_spec (st8_spec (st8_spec (st8_spec (st8_spec (st8_spec h0))))))))))))))
  have e : (2 * (2 * (2 * (2 * (2 * (2 * (2 * (2 * (2 * (2 * (2 * (2 * (2 * (2 * (2 * 1 + 1) + 1) + 1) + 1) + 1) + 1) + 1) + 1) + 1) + 1) + 1))))) = E := by rw [hE]
  rw [e] at h
  exact h
theorem chk8_at : ∀ {n b : Nat}, chk8 n b = true → ∀ k, k < n → fm8 (b + k) = 1
  | 0, _, _, _, hk => absurd hk (Nat.not_lt_zero _)
  | n + 1, b, h, k, hk => by
    simp only [chk8, Bool.and_eq_true, beq_iff_eq] at h
    by_cases e : k = n
    · subst e; exact h.1
    · exact chk8_at h.2 k (by omega)
set_option maxRecDepth 100000 in
theorem chk8_0 : chk8 4096 1 = true := by decide +kernel
set_option maxRecDepth 100000 in
theorem chk8_1 : chk8 4096 4097 = true := by decide +kernel
set_option maxRecDepth 100000 in
theorem chk8_2 : chk8 4096 8193 = true := by decide +kernel
set_option maxRecDepth 100000 in
theorem chk8_3 : chk8 4096 12289 = true := by decide +kernel
set_option maxRecDepth 100000 in
theorem chk8_4 : chk8 4096 16385 = true := by decide +kernel
set_option maxRecDepth 100000 in
theorem chk8_5 : chk8 4096 20481 = true := by decide +kernel
set_option maxRecDepth 100000 in
theorem chk8_6 : chk8 4096 24577 = true := by decide +kernel
set_option maxRecDepth 100000 in
theorem chk8_7 : chk8 4096 28673 = true := by decide +kernel
set_option maxRecDepth 100000 in
theorem chk8_8 : chk8 4096 32769 = true := by decide +kernel
set_option maxRecDepth 100000 in
theorem chk8_9 : chk8 4096 36865 = true := by decide +kernel
set_option maxRecDepth 100000 in
theorem chk8_10 : chk8 4096 40961 = true := by decide +kernel
set_option maxRecDepth 100000 in
theorem chk8_11 : chk8 4096 45057 = true := by decide +kernel
set_option maxRecDepth 100000 in
theorem chk8_12 : chk8 4096 49153 = true := by decide +kernel
set_option maxRecDepth 100000 in
theorem chk8_13 : chk8 4096 53249 = true := by decide +kernel
set_option maxRecDepth 100000 in
theorem chk8_14 : chk8 4096 57345 = true := by decide +kernel
set_option maxRecDepth 100000 in
theorem chk8_15 : chk8 4080 61441 = true := by decide +kernel
theorem fm8_one {b : Nat} (h1 : 1 ≤ b) (h2 : b ≤ 65520) : fm8 b = 1 := by
  have h : ∀ c, c < 16 → ∀ k, k < 4096 → 1 + 4096 * c + k ≤ 65520 → fm8 (1 + 4096 * c + k) = 1 := by
    intro c hc k hk hb
    match c, hc with
    | 0, _ => exact chk8_at chk8_0 k (by omega)
    | 1, _ => exact chk8_at chk8_1 k (by omega)
    | 2, _ => exact chk8_at chk8_2 k (by omega)
    | 3, _ => exact chk8_at chk8_3 k (by omega)
    | 4, _ => exact chk8_at chk8_4 k (by omega)
    | 5, _ => exact chk8_at chk8_5 k (by omega)
    | 6, _ => exact chk8_at chk8_6 k (by omega)
    | 7, _ => exact chk8_at chk8_7 k (by omega)
    | 8, _ => exact chk8_at chk8_8 k (by omega)
    | 9, _ => exact chk8_at chk8_9 k (by omega)
    | 10, _ => exact chk8_at chk8_10 k (by omega)
    | 11, _ => exact chk8_at chk8_11 k (by omega)
    | 12, _ => exact chk8_at chk8_12 k (by omega)
    | 13, _ => exact chk8_at chk8_13 k (by omega)
    | 14, _ => exact chk8_at chk8_14 k (by omega)
    | 15, _ => exact chk8_at chk8_15 k (by omega)
    | n + 16, hc => exact absurd hc (by omega)
  have := h ((b - 1) / 4096) (by omega) ((b - 1) % 4096) (Nat.mod_lt _ (by decide)) (by omega)
  rw [show 1 + 4096 * ((b - 1) / 4096) + (b - 1) % 4096 = b by omega] at this
  exact this
theorem fermat {b E : Nat} (h1 : 1 ≤ b) (h2 : b ≤ 65520) (hE : E = 65520) : powN b E = 1 := by
  have h := fm8_spec b E hE
  rw [fm8_one h1 h2] at h
  exact h.symm
theorem powN_pos {b e : Nat} (h1 : 1 ≤ b) (h2 : b ≤ 65520) (he : e ≤ 65521) : 1 ≤ powN b e := by
  obtain ⟨E, hE⟩ : ∃ E : Nat, E = 65520 := ⟨_, rfl⟩
  by_cases h3 : e ≤ E
  · have h := powN_add b e (E - e)
    rw [show e + (E - e) = E by omega, fermat h1 h2 hE] at h
    rcases Nat.eq_zero_or_pos (powN b e) with h0 | h0
    · rw [h0] at h; simp at h
    · exact h0
  · have e1 : e = E + 1 := by omega
    have h := powN_add b E 1
    rw [fermat h1 h2 hE, Nat.one_mul, show powN b 1 = b by simp [powN]; omega, ← e1, Nat.mod_eq_of_lt (by omega)] at h
    rw [← h]
    exact h1
theorem powN_comm (g a b : Nat) : powN (powN g a) b = powN (powN g b) a := by rw [powN_mul, powN_mul, Nat.mul_comm]
end Go.Proofs.YtiabacnmmojfjabGreatDoor

