/- The contracts of chapter 7's functions in the specification, at every argument: code and bytes. What was there stays. -/
import Derived.Test.YtdemfbbjdnjolabDoorSch
import Derived.Test.YtdemfbbjdnjolabDoorCod
import Derived.Test.YtdemfbbjdnjolabDoorPick
import Derived.Test.YtdemfbbjdnjolabDoorRec
import Derived.Test.YtdemfbbjdnjolabDoorJoint2
namespace Go.Proofs.YtdemfbbjdnjolabDoor
open Go.ChangeShapes Go.WideShapes Go.ChangeAt Go.RowKit

theorem rd_nil (w : World) : Rd w none 0 [] := ⟨Nat.le_refl _, by unfold maxLen; decide, fun _ => rfl, fun hp => by simp at hp⟩
set_option maxRecDepth 4000 in
theorem l7Secret_c (p : Option Addr) (q : Nat) (s : List UInt8) (w : World) : Calls Tryd.prog 25 #[.slice p s.length q] w fun e w' => e = .returned (.bool (is32 s)) ∧ w' = w := by
  by_cases h : s.length = 32
  · have d1 : ((s.length : Int) == 32) = true := by rw [beq_iff_eq]; omega
    rw [show is32 s = true by simp [is32, h]]
    clear h
    go_enter Tryd.func25, Tryd.ntmps25
    go_wp2
    go_ret
    exact ⟨rfl, rfl⟩
  · have d1 : ((s.length : Int) == 32) = false := by rw [beq_eq_false_iff_ne]; omega
    rw [show is32 s = false by simp [is32, h]]
    clear h
    go_enter Tryd.func25, Tryd.ntmps25
    go_wp2
    go_ret
    exact ⟨rfl, rfl⟩







end Go.Proofs.YtdemfbbjdnjolabDoor

/- The contracts of chapter 9's functions in the specification, at every argument. What was there stays. -/
namespace Go.Proofs.YtdemfbbjdnjolabDoor
open Go.ChangeShapes Go.WideShapes Go.ChangeAt Go.RowKit

theorem keyLab_str : (⟨#[107, 101, 121]⟩ : ByteArray) = strB keyLab := rfl
theorem ivLab_str : (⟨#[105, 118]⟩ : ByteArray) = strB ivLab := rfl
theorem updLab_str : (⟨#[116, 114, 97, 102, 102, 105, 99, 32, 117, 112, 100]⟩ : ByteArray) = strB updLab := rfl

set_option maxRecDepth 4000 in
set_option maxHeartbeats 400000 in
theorem l9Fault_c (b : Nat) (x : StreamD) (p : Option Addr) (q : Nat) (w : World) (h : Has w b [.slice p x.1.length q, .int .i64 x.2.1, .int .i64 x.2.2]) :
    Calls Tryd.prog 14 #[.pointer (some ⟨b, 0, none⟩)] w fun e w' => e = .returned (.int .i64 (stC x)) ∧ w' = w := by
  have c0 := h 0 _ rfl
  have c1 := h 1 _ rfl
  have c2 := h 2 _ rfl
  clear h
  cases h1 : is32 x.1
  · rw [show stC x = 1 by simp [stC, h1]]
    go_enter Tryd.func14, Tryd.ntmps14
    go_wp2_with fail
    refine (l7Secret_c p q x.1 _).mono ?_
    rintro e w' ⟨rfl, rfl⟩
    rw [h1]
    go_wp2
    go_ret
    exact ⟨rfl, rfl⟩
  · cases h2 : inB x.2.1 0 200
    · rw [show stC x = 3 by simp [stC, h1, h2]]
      go_enter Tryd.func14, Tryd.ntmps14
      go_wp2_with fail
      refine (l7Secret_c p q x.1 _).mono ?_
      rintro e w' ⟨rfl, hw⟩
      subst hw
      rw [h1]
      go_wp2_with fail
      refine (l1In_c _ _ _ _).mono ?_
      rintro e w' ⟨rfl, hw⟩
      subst hw
      rw [h2]
      go_wp2
      go_ret
      exact ⟨rfl, rfl⟩
    · cases h3 : inB x.2.2 0 99
      · rw [show stC x = 3 by simp [stC, h1, h2, h3]]
        go_enter Tryd.func14, Tryd.ntmps14
        go_wp2_with fail
        refine (l7Secret_c p q x.1 _).mono ?_
        rintro e w' ⟨rfl, hw⟩
        subst hw
        rw [h1]
        go_wp2_with fail
        refine (l1In_c _ _ _ _).mono ?_
        rintro e w' ⟨rfl, hw⟩
        subst hw
        rw [h2]
        go_wp2_with fail
        refine (l1In_c _ _ _ _).mono ?_
        rintro e w' ⟨rfl, hw⟩
        subst hw
        rw [h3]
        go_wp2
        go_ret
        exact ⟨rfl, rfl⟩
      · rw [show stC x = 0 by simp [stC, h1, h2, h3]]
        go_enter Tryd.func14, Tryd.ntmps14
        go_wp2_with fail
        refine (l7Secret_c p q x.1 _).mono ?_
        rintro e w' ⟨rfl, hw⟩
        subst hw
        rw [h1]
        go_wp2_with fail
        refine (l1In_c _ _ _ _).mono ?_
        rintro e w' ⟨rfl, hw⟩
        subst hw
        rw [h2]
        go_wp2_with fail
        refine (l1In_c _ _ _ _).mono ?_
        rintro e w' ⟨rfl, hw⟩
        subst hw
        rw [h3]
        go_wp2
        go_ret
        exact ⟨rfl, rfl⟩
theorem l9Bad_c (c : Int) (w : World) : Calls Tryd.prog 15 #[.int .i64 c] w fun e w' => e = .returned (.agg #[.int .i64 c, .int .i64 0, .slice none 0 0, .slice none 0 0, .int .i64 0, .int .i64 0]) ∧ Below w.heap.size w w' := by
  go_enter Tryd.func15, Tryd.ntmps15
  go_wp2
  exact bodyPost_ret (v := .agg #[.int .i64 c, .int .i64 0, .slice none 0 0, .slice none 0 0, .int .i64 0, .int .i64 0]) (by simp [results, Tryd.results15, go_sem]) rfl ⟨rfl, alloc_below _ _⟩
end Go.Proofs.YtdemfbbjdnjolabDoor

