/- The contracts of SameBytes and of what it calls, in the specification and in the program: both answer whether the two slices hold the same bytes. -/
import Derived.Test.YtdbpnibcblelbaaDoorCopy
import Derived.Test.YtdbpnibcblelbaaDoorJoint2
namespace Go.Proofs.YtdbpnibcblelbaaDoor
open Go.ChangeShapes Go.WideShapes Go.ChangeAt Go.RowKit

def sameB (a b : List UInt8) : Bool := a == b





end Go.Proofs.YtdbpnibcblelbaaDoor

/- The contracts of the laws' helpers on BytesResult: eqBytesResult answers true at equal answers; markBytesResult lays marks into the answer's own row; heldBytesResult finds them. For at most 1048576 bytes. -/
namespace Go.Proofs.YtdbpnibcblelbaaDoor
open Go.ChangeShapes Go.WideShapes Go.ChangeAt Go.RowKit

set_option maxRecDepth 4000 in
set_option maxHeartbeats 1000000 in
theorem eqBytes_c (c : Int) (a b : Option Addr) (ca cb : Nat) (bs : List UInt8) (w : World) (hra : Rd w a ca bs) (hrb : Rd w b cb bs) :
    Calls Tryd.prog 8 #[.agg #[.int .i64 c, .slice a bs.length ca], .agg #[.int .i64 c, .slice b bs.length cb]] w fun e w' => e = .returned (.bool true) ∧ Below w.heap.size w w' := by
  go_enter Tryd.func8, Tryd.ntmps8
  go_wp2_with fail
  refine (eqByteS_c _ _ _ _ bs _ ?_ ?_).mono ?_
  · exact hra.keep (((Below.refl _ _).alloc (Nat.le_refl _) _).alloc (by simp) _)
  · exact hrb.keep (((Below.refl _ _).alloc (Nat.le_refl _) _).alloc (by simp) _)
  · rintro e w1 ⟨rfl, hb1⟩
    go_wp2
    go_ret
    exact ⟨rfl, Below.step (((Below.refl _ _).alloc (Nat.le_refl _) _).alloc (by simp) _) hb1⟩

set_option maxRecDepth 4000 in
set_option maxHeartbeats 1000000 in
theorem markBytes_c (c : Int) (B : Nat) (v : Value) (bs : List UInt8) (w : World) (m : Nat) (ho : Own w B v bs) (hm : m + bs.length ≤ 1048577) :
    Calls Tryd.prog 11 #[.agg #[.int .i64 c, v], .int .i64 m] w fun e w' => e = .returned (.int .i64 ((m : Int) + (bs.length : Int))) ∧ Own w' B v (marks m bs.length) ∧ w.grownBy w' v.ownBlock := by
  go_enter Tryd.func11, Tryd.ntmps11
  go_wp2_with fail
  refine (markByteS_c B v bs m _ (ho.stay ((Below.refl _ _).alloc (Nat.le_refl _) _)) (by omega)).mono ?_
  rintro e w1 ⟨rfl, ho1, hg1⟩
  go_wp2
  go_ret
  exact ⟨rfl, ho1, grownBy_trans (World.grownBy_alloc _ _ _) hg1⟩

set_option maxRecDepth 4000 in
set_option maxHeartbeats 1000000 in
theorem heldBytes_c (c : Int) (a : Option Addr) (cap n m : Nat) (w : World) (hr : Rd w a cap (marks m n)) (hm : m + n ≤ 1048577) :
    Calls Tryd.prog 12 #[.agg #[.int .i64 c, .slice a n cap], .int .i64 m] w fun e w' => e = .returned (.int .i64 ((m : Int) + (n : Int))) ∧ Below w.heap.size w w' := by
  go_enter Tryd.func12, Tryd.ntmps12
  go_wp2_with fail
  refine (heldByteS_c a cap n m _ (hr.keep ((Below.refl _ _).alloc (Nat.le_refl _) _)) hm).mono ?_
  rintro e w1 ⟨rfl, rfl⟩
  go_wp2
  go_ret
  exact ⟨rfl, (Below.refl _ _).alloc (Nat.le_refl _) _⟩

theorem markBytes1_c (c : Int) (B : Nat) (v : Value) (bs : List UInt8) (w : World) (ho : Own w B v bs) (hm : bs.length ≤ 1048576) :
    Calls Tryd.prog 11 #[.agg #[.int .i64 c, v], .int .i64 1] w fun e w' => e = .returned (.int .i64 (1 + (bs.length : Int))) ∧ Own w' B v (marks 1 bs.length) ∧ w.grownBy w' v.ownBlock :=
  markBytes_c c B v bs w 1 ho (by omega)
theorem heldBytes1_c (c : Int) (B : Nat) (a : Option Addr) (cap n : Nat) (w : World) (ho : Own w B (.slice a n cap) (marks 1 n)) (hm : n ≤ 1048576) :
    Calls Tryd.prog 12 #[.agg #[.int .i64 c, .slice a n cap], .int .i64 1] w fun e w' => e = .returned (.int .i64 (1 + (n : Int))) ∧ Below w.heap.size w w' :=
  heldBytes_c c a cap n 1 w (Rd.own ho) (by omega)
theorem eqBytes2_c (c : Int) (B1 B2 : Nat) (a b : Option Addr) (ca cb : Nat) (bs : List UInt8) (w : World) (h1 : Own w B1 (.slice a bs.length ca) bs) (h2 : Own w B2 (.slice b bs.length cb) bs) :
    Calls Tryd.prog 8 #[.agg #[.int .i64 c, .slice a bs.length ca], .agg #[.int .i64 c, .slice b bs.length cb]] w fun e w' => e = .returned (.bool true) ∧ Below w.heap.size w w' :=
  eqBytes_c c a b ca cb bs w (Rd.own h1) (Rd.own h2)
end Go.Proofs.YtdbpnibcblelbaaDoor

