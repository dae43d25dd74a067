/- The contracts of finished values in the specification: spec.l5Finish (finN), FinishOf at every argument: code and bytes. -/
import Derived.Test.YtpbkncliepkhaaaDoorJoint7
import Derived.Test.YtpbkncliepkhaaaDoorJoint5
import Derived.Test.YtpbkncliepkhaaaDoorJoint6
import Derived.Test.YtpbkncliepkhaaaDoorCod
import Derived.Test.YtpbkncliepkhaaaDoorPick
import Derived.Test.YtpbkncliepkhaaaDoorMsgC
namespace Go.Proofs.YtpbkncliepkhaaaDoor
open Go.ChangeShapes Go.WideShapes Go.ChangeAt Go.RowKit

def finished : List UInt8 := [102, 105, 110, 105, 115, 104, 101, 100]
theorem finished_str : (⟨#[102, 105, 110, 105, 115, 104, 101, 100]⟩ : ByteArray) = strB finished := rfl
theorem finN_eq (key digest : List UInt8) : finN key digest = macN (expLabN key finished [] 32) digest := rfl
set_option maxRecDepth 4000 in
set_option maxHeartbeats 1000000 in
theorem l5Finish_c (p p2 : Option Addr) (q q2 : Nat) (key digest : List UInt8) (w : World) (hr : Rd w p q key) (hr2 : Rd w p2 q2 digest) (hk : key.length ≤ 64) (hd : digest.length ≤ 500) :
    Calls Tryd.prog 32 #[.slice p key.length q, .slice p2 digest.length q2] w fun e w' => ∃ u, e = .returned u ∧ Own w' w.heap.size u (finN key digest) ∧ Below w.heap.size w w' := by
  have HE : Hid (finN key digest = macN (expLabN key finished [] 32) digest) := rfl
  have K : Hid (∀ w, Rd w p q key → Calls Tryd.prog 56 #[.slice p key.length q, .string ⟨#[102, 105, 110, 105, 115, 104, 101, 100]⟩, .slice none 0 0, .int .i64 32] w fun e w' => ∃ u, e = .returned u ∧ Own w' w.heap.size u (expLabN key finished [] 32) ∧ Below w.heap.size w w') := fun w h => by
    rw [finished_str]
    exact l3ExpandLabel_c p none q 0 key finished [] 32 w h ⟨Nat.le_refl _, by unfold maxLen; decide, fun _ => rfl, fun hp => by simp at hp⟩ hk (by decide) (by decide) (by decide)
  have HL : Hid ((expLabN key finished [] 32).length = 32) := by show _ = _; rw [expLabN, expandN_len]
  go_enter Tryd.func32, Tryd.ntmps32
  go_wp2_with fail
  refine (K.out _ hr).mono ?_
  rintro e w1 ⟨u1, rfl, k1, hb1⟩
  obtain ⟨a1, c1, rfl, rd1⟩ := k1.rd
  generalize expLabN key finished [] 32 = ek at *
  have hz := hb1.size
  clear k1
  go_wp2_with fail
  refine (l3Mac_c a1 p2 c1 q2 ek digest _ rd1 (hr2.keep hb1) (by rw [HL.out]; decide) (by omega)).mono ?_
  rintro e w2 ⟨u2, rfl, k2, hb2⟩
  go_wp2
  go_ret
  exact ⟨_, rfl, by rw [HE.out]; exact k2.lower hz, Below.step hb1 hb2⟩

def fnC (key digest : List UInt8) : Int := if key.length = 32 ∧ digest.length = 32 then 0 else 1
def fnL (key digest : List UInt8) : List UInt8 := if key.length = 32 ∧ digest.length = 32 then finN key digest else []
theorem fnL_len (key digest : List UInt8) : (fnL key digest).length ≤ 1048576 := by
  unfold fnL; split
  · rw [finN_len]; decide
  · simp
end Go.Proofs.YtpbkncliepkhaaaDoor

/- The contracts of chapter 7's functions in the specification, at every argument: code and bytes. What was there stays. -/
namespace Go.Proofs.YtpbkncliepkhaaaDoor
open Go.ChangeShapes Go.WideShapes Go.ChangeAt Go.RowKit

theorem rd_nil (w : World) : Rd w none 0 [] := ⟨Nat.le_refl _, by unfold maxLen; decide, fun _ => rfl, fun hp => by simp at hp⟩
set_option maxRecDepth 4000 in
theorem l7Secret_c (p : Option Addr) (q : Nat) (s : List UInt8) (w : World) : Calls Tryd.prog 31 #[.slice p s.length q] w fun e w' => e = .returned (.bool (is32 s)) ∧ w' = w := by
  by_cases h : s.length = 32
  · have d1 : ((s.length : Int) == 32) = true := by rw [beq_iff_eq]; omega
    rw [show is32 s = true by simp [is32, h]]
    clear h
    go_enter Tryd.func31, Tryd.ntmps31
    go_wp2
    go_ret
    exact ⟨rfl, rfl⟩
  · have d1 : ((s.length : Int) == 32) = false := by rw [beq_eq_false_iff_ne]; omega
    rw [show is32 s = false by simp [is32, h]]
    clear h
    go_enter Tryd.func31, Tryd.ntmps31
    go_wp2
    go_ret
    exact ⟨rfl, rfl⟩







end Go.Proofs.YtpbkncliepkhaaaDoor

/- Lists of messages as data (Cod), and the contracts of the laws' helpers on them. -/
namespace Go.Proofs.YtpbkncliepkhaaaDoor
open Go.ChangeShapes Go.WideShapes Go.ChangeAt Go.RowKit

abbrev msgsC : Cod (List MsgD) := listC 26 msgC
theorem toMsgS_k (l : List MsgD) (u : Value) (w : World) (h : msgsC.rep w l [u]) (hl : bulkM l ≤ 1048576) :
    Calls Tryd.prog 17 #[u] w fun e w' => ∃ v fp, e = .returned v ∧ msgsC.own w' w.heap.size l [v] fp ∧ Below w.heap.size w w' := by
  obtain ⟨p, q, e1, r⟩ := h
  simp only [List.cons.injEq, and_true] at e1
  subst e1
  exact (toMsgS_c l p q w r hl).mono fun _ _ ⟨v, xs, fp, h1, h2, h3⟩ => ⟨v, _, h1, ⟨v, xs, fp, rfl, h2, rfl⟩, h3⟩
theorem szMsgS_k (l : List MsgD) (u : Value) (left : Int) (w : World) (h : msgsC.rep w l [u]) (h0 : 0 ≤ left) (h1 : left ≤ 1048576) :
    Calls Tryd.prog 15 #[u, .int .i64 left] w fun e w' => e = .returned (.int .i64 (szR (bulkM l) left)) ∧ Below w.heap.size w w' := by
  obtain ⟨p, q, e1, r⟩ := h
  simp only [List.cons.injEq, and_true] at e1
  subst e1
  exact szMsgS_c l p q left w r h0 h1
theorem eqMsgS_k (l : List MsgD) (u v : Value) (w : World) (h1 : msgsC.rep w l [u]) (h2 : msgsC.rep w l [v]) :
    Calls Tryd.prog 19 #[u, v] w fun e w' => e = .returned (.bool true) ∧ Below w.heap.size w w' := by
  obtain ⟨p, q, e1, r⟩ := h1
  obtain ⟨p2, q2, e2, r2⟩ := h2
  simp only [List.cons.injEq, and_true] at e1 e2
  subst e1 e2
  exact eqMsgS_c l p p2 q q2 w r r2
theorem markMsgS_k (l : List MsgD) (v : Value) (fp : List Nat) (B m : Nat) (mi : Int) (hmi : mi = (m : Int)) (w : World) (h : msgsC.own w B l [v] fp) (hm : m + bulkM l ≤ 1000000000) (hbl : bulkM l ≤ 1000000000) :
    Calls Tryd.prog 20 #[v, .int .i64 mi] w fun e w' => e = .returned (.int .i64 (mi + (bulkM l : Int))) ∧ msgsC.own w' B (mkM l m) [v] fp ∧ Only fp w w' := by
  subst hmi
  obtain ⟨u, xs, f, e1, o, rfl⟩ := h
  simp only [List.cons.injEq, and_true] at e1
  subst e1
  exact (markMsgS_c _ l B v xs f m w o hm hbl).mono fun _ _ ⟨h1, ⟨ys, h2⟩, h3⟩ => ⟨by rw [h1]; rfl, ⟨v, ys, f, rfl, h2, rfl⟩, h3⟩
end Go.Proofs.YtpbkncliepkhaaaDoor

/- How BytesResult lies in memory, and the contracts of the laws' helpers on it (written by tools/codgen.py). -/
namespace Go.Proofs.YtpbkncliepkhaaaDoor
open Go.ChangeShapes Go.WideShapes Go.ChangeAt Go.RowKit

abbrev BytesResultD := Int × List UInt8
def bytesResultC : Cod BytesResultD := prodC (intC .i64) bytC
theorem bytesResult_rep {w : World} {a : BytesResultD} {vs : List Value} (h : bytesResultC.rep w a vs) : ∃ p2 q2, vs = [.int .i64 a.1, .slice p2 a.2.length q2] ∧ Rd w p2 q2 a.2 := by
  obtain ⟨us0, ts0, rfl, h0, h1⟩ := h
  have e0 : us0 = [Value.int .i64 _] := h0
  subst e0
  obtain ⟨p2, q2, rfl, r2⟩ := h1
  exact ⟨p2, q2, rfl, r2⟩
theorem bytesResult_mk {w : World} {a : BytesResultD} {p2 : Option Addr} {q2 : Nat} (r2 : Rd w p2 q2 a.2) : bytesResultC.rep w a [.int .i64 a.1, .slice p2 a.2.length q2] := ⟨[.int .i64 a.1], _, rfl, rfl, ⟨p2, q2, rfl, r2⟩⟩
def bytesResultT (a : BytesResultD) : Nat := a.2.length
def bytesResultM (a : BytesResultD) (m : Nat) : BytesResultD := (a.1, marks m a.2.length)

def bytesResultN (a : BytesResultD) : Nat := a.2.length
theorem bytesResultT_le (a : BytesResultD) : bytesResultT a ≤ 8 * bytesResultN a := by
  unfold bytesResultT bytesResultN
  omega



set_option maxRecDepth 4000 in
set_option maxHeartbeats 1000000 in
theorem eqBytesResult_k (a : BytesResultD) (us vs : List Value) (w : World) (h1 : bytesResultC.rep w a us) (h2 : bytesResultC.rep w a vs) :
    Calls Tryd.prog 18 #[.agg us.toArray, .agg vs.toArray] w fun e w' => e = .returned (.bool true) ∧ Below w.heap.size w w' := by
  obtain ⟨p2, q2, rfl, r2⟩ := bytesResult_rep h1
  obtain ⟨pb2, qb2, rfl, rb2⟩ := bytesResult_rep h2
  clear h1 h2
  have BW : Below w.heap.size w ((w.alloc (.cells #[.int .i64 a.1, .slice p2 a.2.length q2] 34)).alloc (.cells #[.int .i64 a.1, .slice pb2 a.2.length qb2] 34)) := Below.mk (alloc_below _ _) _
  have A : Arr ((w.alloc (.cells #[.int .i64 a.1, .slice p2 a.2.length q2] 34)).alloc (.cells #[.int .i64 a.1, .slice pb2 a.2.length qb2] 34)) w.heap.size 34 [.int .i64 a.1, .slice p2 a.2.length q2] := (Arr.new w [.int .i64 a.1, .slice p2 a.2.length q2] 34).old _ _
  have B : Arr ((w.alloc (.cells #[.int .i64 a.1, .slice p2 a.2.length q2] 34)).alloc (.cells #[.int .i64 a.1, .slice pb2 a.2.length qb2] 34)) (w.heap.size + 1) 34 [.int .i64 a.1, .slice pb2 a.2.length qb2] := by
    have h := Arr.new (w.alloc (.cells #[.int .i64 a.1, .slice p2 a.2.length q2] 34)) [.int .i64 a.1, .slice pb2 a.2.length qb2] 34
    rw [size_alloc] at h
    exact h
  replace r2 := r2.keep BW
  replace rb2 := rb2.keep BW
  go_enter Tryd.func18, Tryd.ntmps18
  go_wp2_with fail
  refine (eqByteS_c p2 pb2 q2 qb2 a.2 _ r2 rb2).mono ?_
  rintro e w1 ⟨rfl, hb⟩
  replace A := A.stay hb
  replace B := B.stay hb
  replace BW := Below.step BW hb
  replace r2 := r2.keep hb
  replace rb2 := rb2.keep hb
  have ca0 := A.cell 0
  have cb0 := B.cell 0
  have ca1 := A.cell 1
  have cb1 := B.cell 1
  simp at ca0 cb0 ca1 cb1
  clear hb
  go_wp2
  go_ret
  exact ⟨rfl, BW⟩

set_option maxRecDepth 4000 in
set_option maxHeartbeats 1000000 in
theorem markBytesResult_k (a : BytesResultD) (us : List Value) (fp : List Nat) (B m : Nat) (mi : Int) (hmi : mi = (m : Int)) (w : World) (h : bytesResultC.own w B a us fp) (hm : m + bytesResultT a ≤ 1000000000) :
    Calls Tryd.prog 21 #[.agg us.toArray, .int .i64 mi] w fun e w' => e = .returned (.int .i64 (mi + (bytesResultT a : Int))) ∧ bytesResultC.own w' B (bytesResultM a m) us fp ∧ Only fp w w' := by
  subst hmi
  obtain ⟨us0, ts0, f0, g0, rfl, rfl, nd0, k0, k1⟩ := h
  obtain ⟨e0, ef0⟩ := k0
  subst e0 ef0
  obtain ⟨p2, q2, e1, -⟩ := bytC.toRep k1
  subst e1
  have z1 : Hid (∀ x, x ∈ g0 → x < w.heap.size) := fun x hx => (bytC.ins k1 x hx).2
  have s1 : Hid (∀ x, x ∈ g0 → x ∈ [] ++ g0) := fun x hx => by simp [hx]
  have A := Arr.new w [.int .i64 a.1, .slice p2 a.2.length q2] 34
  have ON : Only ([] ++ g0) w (w.alloc (.cells #[.int .i64 a.1, .slice p2 a.2.length q2] 34)) := Only.below (alloc_below _ _)
  replace k1 := bytC.stay k1 (alloc_below _ (.cells #[.int .i64 a.1, .slice p2 a.2.length q2] 34))
  have ND0 : Hid _ := nd0
  clear nd0
  have hT : Hid (m + (a.2.length) ≤ 1000000000) := hm
  clear hm
  go_enter Tryd.func21, Tryd.ntmps21
  go_wp2_with fail
  refine (markByteS_k a.2 _ _ B m _ (by first | rfl | simp | (simp; omega) | (push_cast; omega)) _ k1 (by have := hT.out; omega)).mono ?_
  rintro e w1 ⟨rfl, k1, ho⟩
  replace A := A.only ho (fun h => Nat.lt_irrefl _ (z1.out _ h))
  replace ON := ON.trans_sub ho s1.out
  have ca0 := A.cell 0
  have ca1 := A.cell 1
  simp at ca0 ca1
  clear ho
  go_wp2
  go_ret
  exact ⟨by unfold bytesResultT; simp; try omega, ⟨_, _, [], _, rfl, rfl, ND0.out, ⟨rfl, rfl⟩, k1⟩, ON⟩

set_option maxRecDepth 4000 in
set_option maxHeartbeats 1000000 in
theorem heldBytesResult_k (a : BytesResultD) (us : List Value) (m : Nat) (mi : Int) (hmi : mi = (m : Int)) (w : World) (h : bytesResultC.rep w (bytesResultM a m) us) (hm : m + bytesResultT a ≤ 1048577) :
    Calls Tryd.prog 22 #[.agg us.toArray, .int .i64 mi] w fun e w' => e = .returned (.int .i64 (mi + (bytesResultT a : Int))) ∧ Below w.heap.size w w' := by
  subst hmi
  obtain ⟨us0, ts0, rfl, h0, h1⟩ := h
  have e0 : us0 = [Value.int .i64 (bytesResultM a m).1] := h0
  subst e0
  obtain ⟨p2, q2, rfl, r2⟩ := h1
  have A := Arr.new w [.int .i64 (bytesResultM a m).1, .slice p2 (bytesResultM a m).2.length q2] 34
  have BW := alloc_below w (.cells #[.int .i64 (bytesResultM a m).1, .slice p2 (bytesResultM a m).2.length q2] 34)
  replace r2 := r2.keep BW
  have hT : Hid (m + (a.2.length) ≤ 1048577) := hm
  clear hm
  go_enter Tryd.func22, Tryd.ntmps22
  go_wp2_with fail
  refine (heldByteS_k (bytesResultM a m).2 p2 q2 a.2.length m rfl _ (by first | rfl | simp | (simp; omega) | (push_cast; omega)) _ r2 (by have := hT.out; omega)).mono ?_
  rintro e w1 ⟨rfl, hw⟩
  subst hw
  go_wp2
  go_ret
  exact ⟨by unfold bytesResultT; simp; try omega, BW⟩

end Go.Proofs.YtpbkncliepkhaaaDoor

