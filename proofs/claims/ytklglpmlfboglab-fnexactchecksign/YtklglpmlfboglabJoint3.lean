/- The answers of SignWith: the contracts of the laws' helpers on them (eqSignsResult, markSignsResult, heldSignsResult). What was there stays. -/
import Derived.Test.YtklglpmlfboglabSignsK
import Derived.Test.YtklglpmlfboglabCert
import Derived.Test.YtklglpmlfboglabSch
import Derived.Test.YtklglpmlfboglabBytes
import Derived.Handy
namespace Go.Proofs.Ytklglpmlfboglab
open Go.ChangeShapes Go.WideShapes Go.ChangeAt Go.RowKit

theorem swD_bulk (list : List CertD) (lk : List Int) (signs : List SignD) (id by' : Int) (d : List UInt8) : bulkSign (swD list lk signs id by' d).2.2 ≤ 1048576 := by
  unfold swD
  by_cases h : swC list lk signs id by' d = 0
  · rw [if_pos h]
    have hs := sgC_all.1 (sw_sgC h)
    have hsum : ∀ l : List SignD, (∀ s ∈ l, sgO s = 0) → sumSign l = 32 * l.length := fun l => by
      induction l with
      | nil => intro _; rfl
      | cons a l ih =>
        intro hl
        have h1 := (sgO_parts (hl a (List.mem_cons_self ..))).2.2.2.2
        have h2 := ih (fun s hs => hl s (List.mem_cons_of_mem _ hs))
        unfold sumSign at h2 ⊢
        rw [List.map_cons, List.sum_cons, h2, h1, List.length_cons]
        omega
    have h3 := hsum _ hs.2
    show bulkSign (signs ++ [(id, by', d)]) ≤ 1048576
    unfold bulkSign
    rw [h3]
    have := hs.1
    omega
  · rw [if_neg h]
    simp [bulkSign, sumSign]
set_option maxRecDepth 4000 in
set_option maxHeartbeats 400000 in
theorem eqSignsResult_c (c t : Int) (l : List SignD) (p p2 : Option Addr) (q q2 : Nat) (w : World) (h1 : RdL signC w p q l) (h2 : RdL signC w p2 q2 l) :
    Calls Try.prog 17 #[.agg #[.int .i64 c, .int .i64 t, .slice p l.length q], .agg #[.int .i64 c, .int .i64 t, .slice p2 l.length q2]] w fun e w' => e = .returned (.bool true) ∧ Below w.heap.size w w' := by
  have B2 := fun o1 o2 => Below.mk (alloc_below w o1) o2
  go_enter Try.func17, Try.ntmps17
  go_wp2_with fail
  refine (eqSignS_c l p p2 q q2 _ (h1.keep (B2 _ _)) (h2.keep (B2 _ _))).mono ?_
  rintro e w1 ⟨rfl, hb1⟩
  go_wp2
  go_ret
  exact ⟨rfl, Below.step (B2 _ _) hb1⟩
set_option maxRecDepth 4000 in
set_option maxHeartbeats 400000 in
theorem markSignsResult_c (e0 : TypeId) (c t : Int) (l : List SignD) (B : Nat) (v : Value) (xs : List Value) (fp : List Nat) (m : Nat) (w : World) (ho : OwnL e0 signC w B v l xs fp) (hm : m + bulkSign l ≤ 1000000000) (hbl : bulkSign l ≤ 1048576) :
    Calls Try.prog 25 #[.agg #[.int .i64 c, .int .i64 t, v], .int .i64 m] w fun e w' => e = .returned (.int .i64 ((m + bulkSign l : Nat) : Int)) ∧ (∃ ys, OwnL e0 signC w' B v (mkSign l m) ys fp) ∧ Only (v.ownBlock.toList ++ fp) w w' := by
  go_enter Try.func25, Try.ntmps25
  go_wp2_with fail
  refine (markSignS_c e0 l B v xs fp m _ (ho.stay (alloc_below _ _)) hm (by omega)).mono ?_
  rintro e w1 ⟨rfl, ho1, hon⟩
  go_wp2
  go_ret
  exact ⟨rfl, ho1, (Only.below (alloc_below _ _)).trans hon⟩
set_option maxRecDepth 4000 in
set_option maxHeartbeats 400000 in
theorem heldSignsResult_c (c t : Int) (l : List SignD) (p : Option Addr) (q m : Nat) (w : World) (hr : RdL signC w p q (mkSign l m)) (hm : m + bulkSign l ≤ 1048577) :
    Calls Try.prog 26 #[.agg #[.int .i64 c, .int .i64 t, .slice p l.length q], .int .i64 m] w fun e w' => e = .returned (.int .i64 ((m + bulkSign l : Nat) : Int)) ∧ Below w.heap.size w w' := by
  obtain ⟨mb, HK⟩ : ∃ mb, Hid (m + bulkSign l = mb) := ⟨_, rfl⟩
  rw [HK.out]
  go_enter Try.func26, Try.ntmps26
  go_wp2_with fail
  refine (heldSignS_c l p q m _ (hr.keep (alloc_below _ _)) hm).mono ?_
  rintro e w1 ⟨rfl, hb1⟩
  rw [HK.out]
  go_wp2
  go_ret
  exact ⟨rfl, Below.step (alloc_below _ _) hb1⟩
end Go.Proofs.Ytklglpmlfboglab

/- isKey of the program: does it have 32 bytes? -/
namespace Go.Proofs.Ytklglpmlfboglab
open Go.ChangeShapes Go.WideShapes Go.ChangeAt Go.RowKit

theorem isKeyR_c (p : Option Addr) (q : Nat) (bs : List UInt8) (w : World) : Calls Try.prog 34 #[.slice p bs.length q] w fun e w' => e = .returned (.bool (is32 bs)) ∧ w' = w := by
  by_cases h : bs.length = 32
  · rw [show is32 bs = true by simp [is32, h]]
    have d1 : ((bs.length : Int) == 32) = true := by rw [beq_iff_eq]; omega
    clear h
    go_enter Try.func34, Try.ntmps34
    go_wp2
    go_ret
    exact ⟨rfl, rfl⟩
  · rw [show is32 bs = false by simp [is32, h]]
    have d1 : ((bs.length : Int) == 32) = false := by rw [beq_eq_false_iff_ne]; omega
    clear h
    go_enter Try.func34, Try.ntmps34
    go_wp2
    go_ret
    exact ⟨rfl, rfl⟩
end Go.Proofs.Ytklglpmlfboglab

