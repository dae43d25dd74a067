/- How Hello lies in memory, and the contracts of the laws' helpers on it (written by tools/codgen.py). -/
import Derived.Test.YtpbkncliepkhaaaDoorJoint7
import Derived.Test.YtpbkncliepkhaaaDoorCopy
namespace Go.Proofs.YtpbkncliepkhaaaDoor
open Go.ChangeShapes Go.WideShapes Go.ChangeAt Go.RowKit

abbrev HelloD := List UInt8 × Int × Int
def helloC : Cod HelloD := prodC bytC (prodC (intC .i64) ((intC .i64)))
theorem hello_rep {w : World} {a : HelloD} {vs : List Value} (h : helloC.rep w a vs) : ∃ p1 q1, vs = [.slice p1 a.1.length q1, .int .i64 a.2.1, .int .i64 a.2.2] ∧ Rd w p1 q1 a.1 := by
  obtain ⟨us0, ts0, rfl, h0, us1, ts1, rfl, h1, h2⟩ := h
  obtain ⟨p1, q1, rfl, r1⟩ := h0
  have e1 : us1 = [Value.int .i64 _] := h1
  subst e1
  have e2 : _ = [Value.int .i64 _] := h2
  subst e2
  exact ⟨p1, q1, rfl, r1⟩
theorem hello_mk {w : World} {a : HelloD} {p1 : Option Addr} {q1 : Nat} (r1 : Rd w p1 q1 a.1) : helloC.rep w a [.slice p1 a.1.length q1, .int .i64 a.2.1, .int .i64 a.2.2] := ⟨[.slice p1 a.1.length q1], _, rfl, ⟨p1, q1, rfl, r1⟩, ⟨[.int .i64 a.2.1], _, rfl, rfl, rfl⟩⟩
def helloT (a : HelloD) : Nat := a.1.length
def helloM (a : HelloD) (m : Nat) : HelloD := (marks m a.1.length, a.2.1, a.2.2)

def helloN (a : HelloD) : Nat := a.1.length
theorem helloT_le (a : HelloD) : helloT a ≤ 8 * helloN a := by
  unfold helloT helloN
  omega






end Go.Proofs.YtpbkncliepkhaaaDoor

/- How HelloResult lies in memory, and the contracts of the laws' helpers on it (written by tools/codgen.py). -/
namespace Go.Proofs.YtpbkncliepkhaaaDoor
open Go.ChangeShapes Go.WideShapes Go.ChangeAt Go.RowKit

abbrev HelloResultD := Int × HelloD
def helloResultC : Cod HelloResultD := prodC (intC .i64) helloC
theorem helloResult_rep {w : World} {a : HelloResultD} {vs : List Value} (h : helloResultC.rep w a vs) : ∃ p2_1 q2_1, vs = [.int .i64 a.1, .slice p2_1 a.2.1.length q2_1, .int .i64 a.2.2.1, .int .i64 a.2.2.2] ∧ Rd w p2_1 q2_1 a.2.1 := by
  obtain ⟨us0, ts0, rfl, h0, h1⟩ := h
  have e0 : us0 = [Value.int .i64 _] := h0
  subst e0
  obtain ⟨p2_1, q2_1, rfl, r2_1⟩ := hello_rep h1
  exact ⟨p2_1, q2_1, rfl, r2_1⟩
theorem helloResult_mk {w : World} {a : HelloResultD} {p2_1 : Option Addr} {q2_1 : Nat} (r2_1 : Rd w p2_1 q2_1 a.2.1) : helloResultC.rep w a [.int .i64 a.1, .slice p2_1 a.2.1.length q2_1, .int .i64 a.2.2.1, .int .i64 a.2.2.2] := ⟨[.int .i64 a.1], _, rfl, rfl, (hello_mk r2_1)⟩
def helloResultT (a : HelloResultD) : Nat := helloT a.2
def helloResultM (a : HelloResultD) (m : Nat) : HelloResultD := (a.1, helloM a.2 m)

def helloResultN (a : HelloResultD) : Nat := helloN a.2
theorem helloResultT_le (a : HelloResultD) : helloResultT a ≤ 8 * helloResultN a := by
  have h1 := helloT_le a.2
  unfold helloResultT helloResultN
  omega






end Go.Proofs.YtpbkncliepkhaaaDoor

/- The contracts of the laws' helpers on BytesResult: eqBytesResult answers true at equal answers; markBytesResult lays marks into the answer's own row; heldBytesResult finds them. For at most 1048576 bytes. -/
namespace Go.Proofs.YtpbkncliepkhaaaDoor
open Go.ChangeShapes Go.WideShapes Go.ChangeAt Go.RowKit

set_option maxRecDepth 4000 in
set_option maxHeartbeats 1000000 in
theorem eqBytes_c (c : Int) (a b : Option Addr) (ca cb : Nat) (bs : List UInt8) (w : World) (hra : Rd w a ca bs) (hrb : Rd w b cb bs) :
    Calls Tryd.prog 18 #[.agg #[.int .i64 c, .slice a bs.length ca], .agg #[.int .i64 c, .slice b bs.length cb]] w fun e w' => e = .returned (.bool true) ∧ Below w.heap.size w w' := by
  go_enter Tryd.func18, Tryd.ntmps18
  go_wp2_with fail
  refine (eqByteS_c _ _ _ _ bs _ ?_ ?_).mono ?_
  · exact hra.keep (((Below.refl _ _).alloc (Nat.le_refl _) _).alloc (by simp) _)
  · exact hrb.keep (((Below.refl _ _).alloc (Nat.le_refl _) _).alloc (by simp) _)
  · rintro e w1 ⟨rfl, hb1⟩
    go_wp2
    go_ret
    exact ⟨rfl, Below.step (((Below.refl _ _).alloc (Nat.le_refl _) _).alloc (by simp) _) hb1⟩

set_option maxRecDepth 4000 in
set_option maxHeartbeats 1000000 in
theorem markBytes_c (c : Int) (B : Nat) (v : Value) (bs : List UInt8) (w : World) (m : Nat) (ho : Own w B v bs) (hm : m + bs.length ≤ 1048577) :
    Calls Tryd.prog 21 #[.agg #[.int .i64 c, v], .int .i64 m] w fun e w' => e = .returned (.int .i64 ((m : Int) + (bs.length : Int))) ∧ Own w' B v (marks m bs.length) ∧ w.grownBy w' v.ownBlock := by
  go_enter Tryd.func21, Tryd.ntmps21
  go_wp2_with fail
  refine (markByteS_c B v bs m _ (ho.stay ((Below.refl _ _).alloc (Nat.le_refl _) _)) (by omega)).mono ?_
  rintro e w1 ⟨rfl, ho1, hg1⟩
  go_wp2
  go_ret
  exact ⟨rfl, ho1, grownBy_trans (World.grownBy_alloc _ _ _) hg1⟩

set_option maxRecDepth 4000 in
set_option maxHeartbeats 1000000 in
theorem heldBytes_c (c : Int) (a : Option Addr) (cap n m : Nat) (w : World) (hr : Rd w a cap (marks m n)) (hm : m + n ≤ 1048577) :
    Calls Tryd.prog 22 #[.agg #[.int .i64 c, .slice a n cap], .int .i64 m] w fun e w' => e = .returned (.int .i64 ((m : Int) + (n : Int))) ∧ Below w.heap.size w w' := by
  go_enter Tryd.func22, Tryd.ntmps22
  go_wp2_with fail
  refine (heldByteS_c a cap n m _ (hr.keep ((Below.refl _ _).alloc (Nat.le_refl _) _)) hm).mono ?_
  rintro e w1 ⟨rfl, rfl⟩
  go_wp2
  go_ret
  exact ⟨rfl, (Below.refl _ _).alloc (Nat.le_refl _) _⟩

theorem markBytes1_c (c : Int) (B : Nat) (v : Value) (bs : List UInt8) (w : World) (ho : Own w B v bs) (hm : bs.length ≤ 1048576) :
    Calls Tryd.prog 21 #[.agg #[.int .i64 c, v], .int .i64 1] w fun e w' => e = .returned (.int .i64 (1 + (bs.length : Int))) ∧ Own w' B v (marks 1 bs.length) ∧ w.grownBy w' v.ownBlock :=
  markBytes_c c B v bs w 1 ho (by omega)
theorem heldBytes1_c (c : Int) (B : Nat) (a : Option Addr) (cap n : Nat) (w : World) (ho : Own w B (.slice a n cap) (marks 1 n)) (hm : n ≤ 1048576) :
    Calls Tryd.prog 22 #[.agg #[.int .i64 c, .slice a n cap], .int .i64 1] w fun e w' => e = .returned (.int .i64 (1 + (n : Int))) ∧ Below w.heap.size w w' :=
  heldBytes_c c a cap n 1 w (Rd.own ho) (by omega)
theorem eqBytes2_c (c : Int) (B1 B2 : Nat) (a b : Option Addr) (ca cb : Nat) (bs : List UInt8) (w : World) (h1 : Own w B1 (.slice a bs.length ca) bs) (h2 : Own w B2 (.slice b bs.length cb) bs) :
    Calls Tryd.prog 18 #[.agg #[.int .i64 c, .slice a bs.length ca], .agg #[.int .i64 c, .slice b bs.length cb]] w fun e w' => e = .returned (.bool true) ∧ Below w.heap.size w w' :=
  eqBytes_c c a b ca cb bs w (Rd.own h1) (Rd.own h2)
end Go.Proofs.YtpbkncliepkhaaaDoor

