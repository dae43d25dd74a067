/- The contracts of chapter 9's functions in the specification, at every argument. What was there stays. -/
import Derived.Test.YtdemfbbjdnjolaaGreatDoorRec
import Derived.Test.YtdemfbbjdnjolaaGreatDoorJoint13
import Derived.Test.YtdemfbbjdnjolaaGreatDoorSealS
import Derived.Test.YtdemfbbjdnjolaaGreatDoorJoint4
import Derived.Test.YtdemfbbjdnjolaaGreatDoorPick
namespace Go.Proofs.YtdemfbbjdnjolaaGreatDoor
open Go.ChangeShapes Go.WideShapes Go.ChangeAt Go.RowKit

theorem keyLab_str : (⟨#[107, 101, 121]⟩ : ByteArray) = strB keyLab := rfl
theorem ivLab_str : (⟨#[105, 118]⟩ : ByteArray) = strB ivLab := rfl
theorem updLab_str : (⟨#[116, 114, 97, 102, 102, 105, 99, 32, 117, 112, 100]⟩ : ByteArray) = strB updLab := rfl

set_option maxRecDepth 4000 in
set_option maxHeartbeats 400000 in
theorem l9Fault_c (b : Nat) (x : StreamD) (p : Option Addr) (q : Nat) (w : World) (h : Has w b [.slice p x.1.length q, .int .i64 x.2.1, .int .i64 x.2.2]) :
    Calls Tryz.prog 61 #[.pointer (some ⟨b, 0, none⟩)] w fun e w' => e = .returned (.int .i64 (stC x)) ∧ w' = w := by
  have c0 := h 0 _ rfl
  have c1 := h 1 _ rfl
  have c2 := h 2 _ rfl
  clear h
  cases h1 : is32 x.1
  · rw [show stC x = 1 by simp [stC, h1]]
    go_enter Tryz.func61, Tryz.ntmps61
    go_wp2_with fail
    refine (l7Secret_c p q x.1 _).mono ?_
    rintro e w' ⟨rfl, rfl⟩
    rw [h1]
    go_wp2
    go_ret
    exact ⟨rfl, rfl⟩
  · cases h2 : inB x.2.1 0 200
    · rw [show stC x = 3 by simp [stC, h1, h2]]
      go_enter Tryz.func61, Tryz.ntmps61
      go_wp2_with fail
      refine (l7Secret_c p q x.1 _).mono ?_
      rintro e w' ⟨rfl, hw⟩
      subst hw
      rw [h1]
      go_wp2_with fail
      refine (l1In_c _ _ _ _).mono ?_
      rintro e w' ⟨rfl, hw⟩
      subst hw
      rw [h2]
      go_wp2
      go_ret
      exact ⟨rfl, rfl⟩
    · cases h3 : inB x.2.2 0 99
      · rw [show stC x = 3 by simp [stC, h1, h2, h3]]
        go_enter Tryz.func61, Tryz.ntmps61
        go_wp2_with fail
        refine (l7Secret_c p q x.1 _).mono ?_
        rintro e w' ⟨rfl, hw⟩
        subst hw
        rw [h1]
        go_wp2_with fail
        refine (l1In_c _ _ _ _).mono ?_
        rintro e w' ⟨rfl, hw⟩
        subst hw
        rw [h2]
        go_wp2_with fail
        refine (l1In_c _ _ _ _).mono ?_
        rintro e w' ⟨rfl, hw⟩
        subst hw
        rw [h3]
        go_wp2
        go_ret
        exact ⟨rfl, rfl⟩
      · rw [show stC x = 0 by simp [stC, h1, h2, h3]]
        go_enter Tryz.func61, Tryz.ntmps61
        go_wp2_with fail
        refine (l7Secret_c p q x.1 _).mono ?_
        rintro e w' ⟨rfl, hw⟩
        subst hw
        rw [h1]
        go_wp2_with fail
        refine (l1In_c _ _ _ _).mono ?_
        rintro e w' ⟨rfl, hw⟩
        subst hw
        rw [h2]
        go_wp2_with fail
        refine (l1In_c _ _ _ _).mono ?_
        rintro e w' ⟨rfl, hw⟩
        subst hw
        rw [h3]
        go_wp2
        go_ret
        exact ⟨rfl, rfl⟩
set_option maxRecDepth 4000 in
set_option maxHeartbeats 400000 in
theorem l9Key_c (p : Option Addr) (q : Nat) (s : List UInt8) (w : World) (hr : Rd w p q s) (hk : s.length ≤ 64) :
    Calls Tryz.prog 41 #[.slice p s.length q] w fun e w' => ∃ u, e = .returned u ∧ Own w' w.heap.size u (keyN s) ∧ Below w.heap.size w w' := by
  have K : Hid (∀ w, Rd w p q s → Calls Tryz.prog 64 #[.slice p s.length q, .string ⟨#[107, 101, 121]⟩, .slice none 0 0, .int .i64 32] w fun e w' => ∃ u, e = .returned u ∧ Own w' w.heap.size u (keyN s) ∧ Below w.heap.size w w') := fun w h => by
    rw [keyLab_str]
    exact l3ExpandLabel_c p none q 0 s keyLab [] 32 w h (rd_nil w) hk (by decide) (by decide) (by decide)
  go_enter Tryz.func41, Tryz.ntmps41
  go_wp2_with fail
  refine (K.out _ hr).mono ?_
  rintro e w' ⟨u, rfl, ho, hb⟩
  go_wp2
  go_ret
  exact ⟨_, rfl, ho, hb⟩
set_option maxRecDepth 4000 in
set_option maxHeartbeats 400000 in
theorem l9Base_c (p : Option Addr) (q : Nat) (s : List UInt8) (w : World) (hr : Rd w p q s) (hk : s.length ≤ 64) :
    Calls Tryz.prog 43 #[.slice p s.length q] w fun e w' => ∃ u, e = .returned u ∧ Own w' w.heap.size u (baseN s) ∧ Below w.heap.size w w' := by
  have K : Hid (∀ w, Rd w p q s → Calls Tryz.prog 64 #[.slice p s.length q, .string ⟨#[105, 118]⟩, .slice none 0 0, .int .i64 12] w fun e w' => ∃ u, e = .returned u ∧ Own w' w.heap.size u (baseN s) ∧ Below w.heap.size w w') := fun w h => by
    rw [ivLab_str]
    exact l3ExpandLabel_c p none q 0 s ivLab [] 12 w h (rd_nil w) hk (by decide) (by decide) (by decide)
  go_enter Tryz.func43, Tryz.ntmps43
  go_wp2_with fail
  refine (K.out _ hr).mono ?_
  rintro e w' ⟨u, rfl, ho, hb⟩
  go_wp2
  go_ret
  exact ⟨_, rfl, ho, hb⟩
set_option maxRecDepth 4000 in
set_option maxHeartbeats 400000 in
theorem l9Asked_c (b : Nat) (x : StreamD) (p : Option Addr) (q : Nat) (w : World) (h : Has w b [.slice p x.1.length q, .int .i64 x.2.1, .int .i64 x.2.2]) :
    Calls Tryz.prog 34 #[.pointer (some ⟨b, 0, none⟩)] w fun e w' => e = .returned (.int .i64 (askC x)) ∧ w' = w := by
  have c1 := h 1 _ rfl
  have K := l9Fault_c b x p q w h
  clear h
  by_cases h1 : stC x = 0
  · rw [h1] at K
    by_cases h2 : 200 ≤ x.2.1
    · rw [show askC x = 10 by simp [askC, h1, h2]]
      go_enter Tryz.func34, Tryz.ntmps34
      go_wp2_with fail
      refine K.mono ?_
      rintro e w' ⟨rfl, hw⟩
      subst hw
      go_wp2
      go_ret
      exact ⟨rfl, rfl⟩
    · rw [show askC x = 0 by simp [askC, h1, h2]]
      go_enter Tryz.func34, Tryz.ntmps34
      go_wp2_with fail
      refine K.mono ?_
      rintro e w' ⟨rfl, hw⟩
      subst hw
      go_wp2
      go_ret
      exact ⟨rfl, rfl⟩
  · have h2 : (stC x != 0) = true := by rw [bne_iff_ne]; exact h1
    rw [show askC x = stC x by simp [askC, h1]]
    clear h1
    generalize stC x = sc at *
    go_enter Tryz.func34, Tryz.ntmps34
    go_wp2_with fail
    refine K.mono ?_
    rintro e w' ⟨rfl, hw⟩
    subst hw
    go_wp2
    go_ret
    exact ⟨rfl, rfl⟩
theorem l9Bad_c (c : Int) (w : World) : Calls Tryz.prog 35 #[.int .i64 c] w fun e w' => e = .returned (.agg #[.int .i64 c, .int .i64 0, .slice none 0 0, .slice none 0 0, .int .i64 0, .int .i64 0]) ∧ Below w.heap.size w w' := by
  go_enter Tryz.func35, Tryz.ntmps35
  go_wp2
  exact bodyPost_ret (v := .agg #[.int .i64 c, .int .i64 0, .slice none 0 0, .slice none 0 0, .int .i64 0, .int .i64 0]) (by simp [results, Tryz.results35, go_sem]) rfl ⟨rfl, alloc_below _ _⟩
set_option maxRecDepth 4000 in
set_option maxHeartbeats 400000 in
theorem l9Next_c (b : Nat) (x : StreamD) (p : Option Addr) (q : Nat) (w : World) (h : Has w b [.slice p x.1.length q, .int .i64 x.2.1, .int .i64 x.2.2]) (hr : Rd w p q x.1) (hl : x.1.length ≤ 1000000) (h0 : 0 ≤ x.2.1) (h1 : x.2.1 ≤ 200) :
    Calls Tryz.prog 44 #[.pointer (some ⟨b, 0, none⟩)] w fun e w' => ∃ u, e = .returned (.agg #[u, .int .i64 (x.2.1 + 1), .int .i64 x.2.2]) ∧ Own w' w.heap.size u x.1 ∧ Below w.heap.size w w' := by
  have c0 := cell_keep (h 0 _ rfl) (alloc_below w (Obj.cells #[Value.slice none 0 0, Value.int IntKind.i64 0, Value.int IntKind.i64 0] 25))
  have c1 := cell_keep (h 1 _ rfl) (alloc_below w (Obj.cells #[Value.slice none 0 0, Value.int IntKind.i64 0, Value.int IntKind.i64 0] 25))
  have c2 := cell_keep (h 2 _ rfl) (alloc_below w (Obj.cells #[Value.slice none 0 0, Value.int IntKind.i64 0, Value.int IntKind.i64 0] 25))
  have r1 := hr.keep (alloc_below w (Obj.cells #[Value.slice none 0 0, Value.int IntKind.i64 0, Value.int IntKind.i64 0] 25))
  have A := Arr.new w [Value.slice none 0 0, Value.int IntKind.i64 0, Value.int IntKind.i64 0] 25
  have BW := alloc_below w (Obj.cells #[Value.slice none 0 0, Value.int IntKind.i64 0, Value.int IntKind.i64 0] 25)
  clear h hr
  have g0 := HW.at c0
  have g1 := HW.at c1
  have g2 := HW.at c2
  have hne := HW.some (w.alloc (Obj.cells #[Value.slice none 0 0, Value.int IntKind.i64 0, Value.int IntKind.i64 0] 25))
  clear c0 c1 c2
  go_enter Tryz.func44, Tryz.ntmps44
  go_wp2_with fail
  refine wp_region_pick [0, 1, 2, 3, 5, 6, 7, 8, 9, 10, 11, 12, 13] 14 1 2 rfl rfl rfl (by kernel_rfl) (by kernel_rfl) (by kernel_rfl) (by kernel_rfl) ?_
  simp only [opsAt, List.getElem?_toArray, List.getElem?_cons_zero, List.getElem?_cons_succ]
  repeat (go_big_quiet_step (fail))
  refine wpQuiet_nil ?_
  refine wpM_only (i := 4) (by kernel_rfl) ?_
  refine mOp_call rfl (by go_simp) 38 _ #[.slice p x.1.length q] (fun w => by go_simp) rfl ?_
  rintro _ ⟨s1, rfl⟩
  refine (l1Copy_c p q x.1 _ (r1.keep s1.h) hl).mono ?_
  rintro e w1 ⟨u, rfl, ho, hb⟩
  refine ⟨_, rfl, ⟨⟨_, hb⟩, rfl⟩, ?_⟩
  have hbg := Below.step s1.h hb
  replace A := A.stay hbg
  replace BW := Below.step BW hbg
  replace ho := ho.lower (B' := w.heap.size + 1) (by have h := s1.h.size; rw [size_alloc] at h; exact h)
  obtain ⟨pu, qu, rfl, -⟩ := ho.rd
  clear hbg hb r1 g0 g1 g2 hne
  refine wpM_end (by kernel_rfl) rfl (by kernel_rfl) (by decide) ?_
  rintro _ ⟨sz, rfl⟩
  simp only [List.drop_succ_cons, List.drop_zero]
  replace A := A.stay sz.h
  replace BW := Below.step BW sz.h
  replace ho := ho.stay sz.h
  generalize sz.w = w2 at *
  clear sz s1
  have c0 := (A.cell 0).trans (show _ = some _ from rfl)
  have c1 := (A.cell 1).trans (show _ = some _ from rfl)
  have c2 := (A.cell 2).trans (show _ = some _ from rfl)
  have fz := A.frozen
  go_wp2_with fail
  refine bodyPost_ret (v := .agg #[.slice pu x.1.length qu, .int .i64 (x.2.1 + 1), .int .i64 x.2.2]) (by simp [results, Tryz.results44, go_sem, c0, c1, c2]) rfl ⟨_, rfl, ?_, ((BW.setCell (Nat.le_refl _) _).setCell (Nat.le_refl _) _).setCell (Nat.le_refl _) _⟩
  exact (((ho.set (Nat.lt_succ_self _) _).set (Nat.lt_succ_self _) _).set (Nat.lt_succ_self _) _).lower (Nat.le_succ _)
theorem l9Kind_c (k : Int) (w : World) : Calls Tryz.prog 36 #[.int .i64 k] w fun e w' => e = .returned (.bool (kindB k)) ∧ w' = w := by
  go_enter Tryz.func36, Tryz.ntmps36
  go_wp2_with fail
  refine (l1In_c k 21 23 _).mono ?_
  rintro e w' ⟨rfl, rfl⟩
  go_wp2
  go_ret
  exact ⟨rfl, rfl⟩
end Go.Proofs.YtdemfbbjdnjolaaGreatDoor

