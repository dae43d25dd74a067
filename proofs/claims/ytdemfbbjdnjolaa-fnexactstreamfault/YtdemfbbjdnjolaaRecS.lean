/- The contracts of chapter 9's functions in the specification, at every argument. What was there stays. -/
import Derived.Test.YtdemfbbjdnjolaaRec
import Derived.Test.YtdemfbbjdnjolaaSchS
import Derived.Test.YtdemfbbjdnjolaaWords
import Derived.Test.YtdemfbbjdnjolaaPick
namespace Go.Proofs.Ytdemfbbjdnjolaa
open Go.ChangeShapes Go.WideShapes Go.ChangeAt Go.RowKit

theorem keyLab_str : (⟨#[107, 101, 121]⟩ : ByteArray) = strB keyLab := rfl
theorem ivLab_str : (⟨#[105, 118]⟩ : ByteArray) = strB ivLab := rfl
theorem updLab_str : (⟨#[116, 114, 97, 102, 102, 105, 99, 32, 117, 112, 100]⟩ : ByteArray) = strB updLab := rfl

set_option maxRecDepth 4000 in
set_option maxHeartbeats 400000 in
theorem l9Fault_c (b : Nat) (x : StreamD) (p : Option Addr) (q : Nat) (w : World) (h : Has w b [.slice p x.1.length q, .int .i64 x.2.1, .int .i64 x.2.2]) :
    Calls Try.prog 10 #[.pointer (some ⟨b, 0, none⟩)] w fun e w' => e = .returned (.int .i64 (stC x)) ∧ w' = w := by
  have c0 := h 0 _ rfl
  have c1 := h 1 _ rfl
  have c2 := h 2 _ rfl
  clear h
  cases h1 : is32 x.1
  · rw [show stC x = 1 by simp [stC, h1]]
    go_enter Try.func10, Try.ntmps10
    go_wp2_with fail
    refine (l7Secret_c p q x.1 _).mono ?_
    rintro e w' ⟨rfl, rfl⟩
    rw [h1]
    go_wp2
    go_ret
    exact ⟨rfl, rfl⟩
  · cases h2 : inB x.2.1 0 200
    · rw [show stC x = 3 by simp [stC, h1, h2]]
      go_enter Try.func10, Try.ntmps10
      go_wp2_with fail
      refine (l7Secret_c p q x.1 _).mono ?_
      rintro e w' ⟨rfl, hw⟩
      subst hw
      rw [h1]
      go_wp2_with fail
      refine (l1In_c _ _ _ _).mono ?_
      rintro e w' ⟨rfl, hw⟩
      subst hw
      rw [h2]
      go_wp2
      go_ret
      exact ⟨rfl, rfl⟩
    · cases h3 : inB x.2.2 0 99
      · rw [show stC x = 3 by simp [stC, h1, h2, h3]]
        go_enter Try.func10, Try.ntmps10
        go_wp2_with fail
        refine (l7Secret_c p q x.1 _).mono ?_
        rintro e w' ⟨rfl, hw⟩
        subst hw
        rw [h1]
        go_wp2_with fail
        refine (l1In_c _ _ _ _).mono ?_
        rintro e w' ⟨rfl, hw⟩
        subst hw
        rw [h2]
        go_wp2_with fail
        refine (l1In_c _ _ _ _).mono ?_
        rintro e w' ⟨rfl, hw⟩
        subst hw
        rw [h3]
        go_wp2
        go_ret
        exact ⟨rfl, rfl⟩
      · rw [show stC x = 0 by simp [stC, h1, h2, h3]]
        go_enter Try.func10, Try.ntmps10
        go_wp2_with fail
        refine (l7Secret_c p q x.1 _).mono ?_
        rintro e w' ⟨rfl, hw⟩
        subst hw
        rw [h1]
        go_wp2_with fail
        refine (l1In_c _ _ _ _).mono ?_
        rintro e w' ⟨rfl, hw⟩
        subst hw
        rw [h2]
        go_wp2_with fail
        refine (l1In_c _ _ _ _).mono ?_
        rintro e w' ⟨rfl, hw⟩
        subst hw
        rw [h3]
        go_wp2
        go_ret
        exact ⟨rfl, rfl⟩
set_option maxRecDepth 4000 in
set_option maxHeartbeats 400000 in
theorem specSf_k (x : StreamD) (us : List Value) (w : World) (h : streamC.rep w x us) :
    Calls Try.prog 5 #[.agg us.toArray] w fun e w' => e = .returned (.int .i64 (stC x)) ∧ Below w.heap.size w w' := by
  obtain ⟨p, q, rfl, r⟩ := stream_rep h
  go_enter Try.func5, Try.ntmps5
  go_wp2_with fail
  refine (l9Fault_c w.heap.size x p q _ (Has.new (Below.refl _ _))).mono ?_
  rintro e w' ⟨rfl, rfl⟩
  go_wp2
  go_ret
  exact ⟨rfl, alloc_below _ _⟩
end Go.Proofs.Ytdemfbbjdnjolaa
