/- The contracts of chapter 8's functions in the specification, at every argument: code and number, or bytes. -/
import Derived.Test.YtdolhafkihkocabPow
import Derived.Test.YtdolhafkihkocabCopy
import Derived.Test.YtdolhafkihkocabWords
import Derived.Test.YtdolhafkihkocabGetW
namespace Go.Proofs.Ytdolhafkihkocab
open Go.ChangeShapes Go.WideShapes Go.ChangeAt Go.RowKit

def poC (b e : Int) : Int := if inB b 1 65520 && inB e 0 65521 then 0 else 3
def poV (b e : Int) : Int := if poC b e = 0 then (powN b.toNat e.toNat : Nat) else 0
def shC (s : Int) : Int := if inB s 1 65519 then 0 else 3
def shV (s : Int) : Int := if shC s = 0 then (powN 17 s.toNat : Nat) else 0
def sdC (s b : Int) : Int := if inB s 1 65519 && inB b 1 65520 then 0 else 3
def sdV (s b : Int) : Int := if sdC s b = 0 then (powN b.toNat s.toNat : Nat) else 0
def shbC (v : Int) : Int := if inB v 1 65520 then 0 else 3
def shbL (v : Int) : List UInt8 := if shbC v = 0 then putB v.toNat 2 else []
def bsC (d : List UInt8) : Int := if d.length = 2 then (if inB (getB d : Nat) 1 65520 then 0 else 3) else 5
def bsV (d : List UInt8) : Int := if bsC d = 0 then (getB d : Nat) else 0
theorem shbL_len (v : Int) : (shbL v).length ≤ 1048576 := by unfold shbL; split; rw [putB_len]; decide; simp
theorem nat_of_in {v lo hi : Int} (h : inB v lo hi = true) (hl : 0 ≤ lo) : ∃ n : Nat, v = n ∧ lo ≤ n ∧ (n : Int) ≤ hi := by
  have h2 : lo ≤ v ∧ v ≤ hi := by simpa [inB] using h
  exact ⟨v.toNat, by omega, by omega, by omega⟩

theorem l8Element_c (v : Int) (w : World) : Calls Try.prog 10 #[.int .i64 v] w fun e w' => e = .returned (.bool (inB v 1 65520)) ∧ w' = w := by
  go_enter Try.func10, Try.ntmps10
  go_wp2_with fail
  refine (l1In_c v 1 65520 _).mono ?_
  rintro e w1 ⟨rfl, rfl⟩
  go_wp2
  go_ret
  exact ⟨rfl, rfl⟩


set_option maxRecDepth 4000 in
set_option maxHeartbeats 1000000 in
theorem specBs_c (p : Option Addr) (q : Nat) (d : List UInt8) (w : World) (hr : Rd w p q d) :
    Calls Try.prog 4 #[.slice p d.length q] w fun x w' => x = .returned (.agg #[.int .i64 (bsC d), .int .i64 (bsV d)]) ∧ Below w.heap.size w w' := by
  by_cases h : d.length = 2
  · have d1 : ((d.length : Int) != 2) = false := by rw [bne_eq_false_iff_eq]; omega
    have K : Hid (∀ w, Rd w p q d → Calls Try.prog 9 #[.slice p d.length q] w fun e w' => e = .returned (.int .i64 (getB d : Nat)) ∧ w' = w) := fun w h' => l1Get_c p q d w h' (by omega)
    have HB : Hid (bsC d = if inB (getB d : Nat) 1 65520 then 0 else 3) := by show _ = _; rw [bsC, if_pos h]
    have HV : Hid (bsV d = if inB (getB d : Nat) 1 65520 then ((getB d : Nat) : Int) else 0) := by
      show _ = _
      rw [bsV, HB.out]
      cases inB ((getB d : Nat) : Int) 1 65520 <;> simp
    rw [HB.out, HV.out]
    clear HB HV h
    generalize getB d = g at *
    cases h1 : inB (g : Int) 1 65520
    · go_enter Try.func4, Try.ntmps4
      go_wp2_with fail
      refine (K.out _ (hr.keep (alloc_below _ _))).mono ?_
      rintro e w' ⟨rfl, hw⟩
      subst hw
      go_wp2_with fail
      refine (l8Element_c _ _).mono ?_
      rintro e w' ⟨rfl, hw⟩
      subst hw
      rw [h1]
      go_wp2
      refine bodyPost_ret (v := .agg #[.int .i64 3, .int .i64 0]) (by simp [results, Try.results4, go_sem]) rfl ⟨rfl, ?_⟩
      exact alloc_below _ _
    · go_enter Try.func4, Try.ntmps4
      go_wp2_with fail
      refine (K.out _ (hr.keep (alloc_below _ _))).mono ?_
      rintro e w' ⟨rfl, hw⟩
      subst hw
      go_wp2_with fail
      refine (l8Element_c _ _).mono ?_
      rintro e w' ⟨rfl, hw⟩
      subst hw
      rw [h1]
      go_wp2
      refine bodyPost_ret (v := .agg #[.int .i64 0, .int .i64 (g : Int)]) (by simp [results, Try.results4, go_sem]) rfl ⟨rfl, ?_⟩
      exact alloc_below _ _
  · have d1 : ((d.length : Int) != 2) = true := by rw [bne_iff_ne]; omega
    rw [show bsC d = 5 by simp [bsC, h], show bsV d = 0 by simp [bsV, bsC, h]]
    clear h
    go_enter Try.func4, Try.ntmps4
    go_wp2
    exact bodyPost_ret (v := .agg #[.int .i64 5, .int .i64 0]) (by simp [results, Try.results4, go_sem]) rfl ⟨rfl, alloc_below _ _⟩
end Go.Proofs.Ytdolhafkihkocab
