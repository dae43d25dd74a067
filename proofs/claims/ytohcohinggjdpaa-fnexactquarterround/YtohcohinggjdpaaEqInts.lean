/- The contracts of the laws' helpers on IntsResult: eqIntsResult answers true at equal answers; markIntsResult lays marks into the answer's own row; heldIntsResult finds them. For at most 1048576 numbers. -/
import Derived.Test.YtohcohinggjdpaaCopyI
namespace Go.Proofs.Ytohcohinggjdpaa
open Go.ChangeShapes Go.WideShapes Go.ChangeAt Go.RowKit

set_option maxHeartbeats 1000000 in
theorem eqInts_c (c : Int) (a b : Option Addr) (ca cb : Nat) (l : List Int) (w : World) (hra : RdI w a ca l) (hrb : RdI w b cb l) :
    Calls Try.prog 27 #[.agg #[.int .i64 c, .slice a l.length ca], .agg #[.int .i64 c, .slice b l.length cb]] w fun e w' => e = .returned (.bool true) ∧ Below w.heap.size w w' := by
  go_enter Try.func27, Try.ntmps27
  go_wp2_with fail
  refine (eqInt64S_c _ _ _ _ l _ ?_ ?_).mono ?_
  · exact hra.keep (((Below.refl _ _).alloc (Nat.le_refl _) _).alloc (by simp) _)
  · exact hrb.keep (((Below.refl _ _).alloc (Nat.le_refl _) _).alloc (by simp) _)
  · rintro e w1 ⟨rfl, hb1⟩
    go_wp2
    go_ret
    exact ⟨rfl, Below.step (((Below.refl _ _).alloc (Nat.le_refl _) _).alloc (by simp) _) hb1⟩

set_option maxHeartbeats 1000000 in
theorem markInts_c (c : Int) (B : Nat) (v : Value) (l : List Int) (w : World) (m : Nat) (ho : OwnI w B v l) (hm : m + l.length ≤ 1048577) :
    Calls Try.prog 30 #[.agg #[.int .i64 c, v], .int .i64 m] w fun e w' => e = .returned (.int .i64 ((m : Int) + (l.length : Int))) ∧ OwnI w' B v (marksI m l.length) ∧ w.grownBy w' v.ownBlock := by
  go_enter Try.func30, Try.ntmps30
  go_wp2_with fail
  refine (markInt64S_c B v l m _ (ho.stay ((Below.refl _ _).alloc (Nat.le_refl _) _)) hm).mono ?_
  rintro e w1 ⟨rfl, ho1, hg1⟩
  go_wp2
  go_ret
  exact ⟨rfl, ho1, grownBy_trans (World.grownBy_alloc _ _ _) hg1⟩

set_option maxHeartbeats 1000000 in
theorem heldInts_c (c : Int) (a : Option Addr) (cap n m : Nat) (w : World) (hr : RdI w a cap (marksI m n)) (hm : m + n ≤ 1048577) :
    Calls Try.prog 31 #[.agg #[.int .i64 c, .slice a n cap], .int .i64 m] w fun e w' => e = .returned (.int .i64 ((m : Int) + (n : Int))) ∧ Below w.heap.size w w' := by
  go_enter Try.func31, Try.ntmps31
  go_wp2_with fail
  refine (heldInt64S_c a cap n m _ (hr.keep ((Below.refl _ _).alloc (Nat.le_refl _) _)) hm).mono ?_
  rintro e w1 ⟨rfl, rfl⟩
  go_wp2
  go_ret
  exact ⟨rfl, (Below.refl _ _).alloc (Nat.le_refl _) _⟩

theorem markInts1_c (c : Int) (B : Nat) (v : Value) (l : List Int) (w : World) (ho : OwnI w B v l) (hm : l.length ≤ 1048576) :
    Calls Try.prog 30 #[.agg #[.int .i64 c, v], .int .i64 1] w fun e w' => e = .returned (.int .i64 (1 + (l.length : Int))) ∧ OwnI w' B v (marksI 1 l.length) ∧ w.grownBy w' v.ownBlock :=
  markInts_c c B v l w 1 ho (by omega)
theorem heldInts1_c (c : Int) (B : Nat) (a : Option Addr) (cap n : Nat) (w : World) (ho : OwnI w B (.slice a n cap) (marksI 1 n)) (hm : n ≤ 1048576) :
    Calls Try.prog 31 #[.agg #[.int .i64 c, .slice a n cap], .int .i64 1] w fun e w' => e = .returned (.int .i64 (1 + (n : Int))) ∧ Below w.heap.size w w' :=
  heldInts_c c a cap n 1 w (RdI.own ho) (by omega)
theorem eqInts2_c (c : Int) (B1 B2 : Nat) (a b : Option Addr) (ca cb : Nat) (l : List Int) (w : World) (h1 : OwnI w B1 (.slice a l.length ca) l) (h2 : OwnI w B2 (.slice b l.length cb) l) :
    Calls Try.prog 27 #[.agg #[.int .i64 c, .slice a l.length ca], .agg #[.int .i64 c, .slice b l.length cb]] w fun e w' => e = .returned (.bool true) ∧ Below w.heap.size w w' :=
  eqInts_c c a b ca cb l w (RdI.own h1) (RdI.own h2)
end Go.Proofs.Ytohcohinggjdpaa
