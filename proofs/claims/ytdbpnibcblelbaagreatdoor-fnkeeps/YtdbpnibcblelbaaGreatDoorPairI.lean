/- PairOf of the program, at every argument, where the two tables hold what the program's text lays (Tabs) (written by tools/pair.py). What was there stays. -/
import Derived.Test.YtdbpnibcblelbaaGreatDoorJoint20
import Derived.Test.YtdbpnibcblelbaaGreatDoorShkH
import Derived.Test.YtdbpnibcblelbaaGreatDoorJoint38
namespace Go.Proofs.YtdbpnibcblelbaaGreatDoor
open Go.ChangeShapes Go.WideShapes Go.ChangeAt Go.RowKit
set_option maxRecDepth 4000 in
set_option maxHeartbeats 8000000 in
theorem implPa_k (x y : SideD) (us vs : List Value) (w : World) (r : sideC.rep w x us) (r2 : sideC.rep w y vs) (hT : Tabs w) :
    Calls Tryz.prog 9 #[.agg us.toArray, .agg vs.toArray] w fun e w' => ∃ us fp, e = .returned (.agg us.toArray) ∧ pairResultC.own w' w.heap.size (paD x y) us fp ∧ Below w.heap.size w w' := by
  obtain ⟨p1, q1, p2, q2, rfl, -, -⟩ := side_rep r
  obtain ⟨p3, q3, p4, q4, rfl, -, -⟩ := side_rep r2
  have HRX : Hid (sideC.rep w x [.int .i64 x.1, .slice p1 x.2.1.length q1, .int .i64 x.2.2.1, .slice p2 x.2.2.2.length q2]) := r
  have HRY : Hid (sideC.rep w y [.int .i64 y.1, .slice p3 y.2.1.length q3, .int .i64 y.2.2.1, .slice p4 y.2.2.2.length q4]) := r2
  have BW : Below w.heap.size w (((w.alloc (.cells #[.int .i64 x.1, .slice p1 x.2.1.length q1, .int .i64 x.2.2.1, .slice p2 x.2.2.2.length q2] 26)).alloc (.cells #[.int .i64 y.1, .slice p3 y.2.1.length q3, .int .i64 y.2.2.1, .slice p4 y.2.2.2.length q4] 26)).alloc (.cells #[.int .i64 0, .int .i64 0, .slice none 0 0, .int .i64 0, .slice none 0 0, .int .i64 0, .int .i64 0, .slice none 0 0, .slice none 0 0, .slice none 0 0, .slice none 0 0, .slice none 0 0, .slice none 0 0, .int .i64 0, .slice none 0 0, .int .i64 0, .slice none 0 0, .int .i64 0, .int .i64 0, .slice none 0 0, .slice none 0 0, .slice none 0 0, .slice none 0 0, .slice none 0 0, .slice none 0 0] 33)) := Below.mk (Below.mk (alloc_below _ _) _) _
  have X := ((Arr.new w [.int .i64 x.1, .slice p1 x.2.1.length q1, .int .i64 x.2.2.1, .slice p2 x.2.2.2.length q2] 26).old _ (.cells #[.int .i64 y.1, .slice p3 y.2.1.length q3, .int .i64 y.2.2.1, .slice p4 y.2.2.2.length q4] 26)).old _ (.cells #[.int .i64 0, .int .i64 0, .slice none 0 0, .int .i64 0, .slice none 0 0, .int .i64 0, .int .i64 0, .slice none 0 0, .slice none 0 0, .slice none 0 0, .slice none 0 0, .slice none 0 0, .slice none 0 0, .int .i64 0, .slice none 0 0, .int .i64 0, .slice none 0 0, .int .i64 0, .int .i64 0, .slice none 0 0, .slice none 0 0, .slice none 0 0, .slice none 0 0, .slice none 0 0, .slice none 0 0] 33)
  have Y := (Arr.new (w.alloc (.cells #[.int .i64 x.1, .slice p1 x.2.1.length q1, .int .i64 x.2.2.1, .slice p2 x.2.2.2.length q2] 26)) [.int .i64 y.1, .slice p3 y.2.1.length q3, .int .i64 y.2.2.1, .slice p4 y.2.2.2.length q4] 26).old _ (.cells #[.int .i64 0, .int .i64 0, .slice none 0 0, .int .i64 0, .slice none 0 0, .int .i64 0, .int .i64 0, .slice none 0 0, .slice none 0 0, .slice none 0 0, .slice none 0 0, .slice none 0 0, .slice none 0 0, .int .i64 0, .slice none 0 0, .int .i64 0, .slice none 0 0, .int .i64 0, .int .i64 0, .slice none 0 0, .slice none 0 0, .slice none 0 0, .slice none 0 0, .slice none 0 0, .slice none 0 0] 33)
  have R := Arr.new ((w.alloc (.cells #[.int .i64 x.1, .slice p1 x.2.1.length q1, .int .i64 x.2.2.1, .slice p2 x.2.2.2.length q2] 26)).alloc (.cells #[.int .i64 y.1, .slice p3 y.2.1.length q3, .int .i64 y.2.2.1, .slice p4 y.2.2.2.length q4] 26)) [.int .i64 0, .int .i64 0, .slice none 0 0, .int .i64 0, .slice none 0 0, .int .i64 0, .int .i64 0, .slice none 0 0, .slice none 0 0, .slice none 0 0, .slice none 0 0, .slice none 0 0, .slice none 0 0, .int .i64 0, .slice none 0 0, .int .i64 0, .slice none 0 0, .int .i64 0, .int .i64 0, .slice none 0 0, .slice none 0 0, .slice none 0 0, .slice none 0 0, .slice none 0 0, .slice none 0 0] 33
  rw [size_alloc] at Y
  rw [size_alloc, size_alloc] at R
  have hres : Hid ((Tryz.prog.info? 33).map (·.size) = some 25) := by show _ = _; kernel_rfl
  have hresE : Hid ((Tryz.prog.info? 78).map (·.size) = some 14) := by show _ = _; kernel_rfl
  obtain ⟨A, HA⟩ : ∃ A, Hid (A = stE x) := ⟨_, rfl⟩
  suffices H : ∀ Q : Ending → World → Prop, Hid (∀ e w', (∃ us fp, e = .returned (.agg us.toArray) ∧ pairResultC.own w' w.heap.size (paD x y) us fp ∧ Below w.heap.size w w') → Q e w') → Calls Tryz.prog 9 #[.agg #[.int .i64 x.1, .slice p1 x.2.1.length q1, .int .i64 x.2.2.1, .slice p2 x.2.2.2.length q2], .agg #[.int .i64 y.1, .slice p3 y.2.1.length q3, .int .i64 y.2.2.1, .slice p4 y.2.2.2.length q4]] w Q from H _ (show Hid _ from fun _ _ h => h)
  intro Q HQ
  have HT : Hid (Tabs w) := hT
  have L := Arr.new (((w.alloc (.cells #[.int .i64 x.1, .slice p1 x.2.1.length q1, .int .i64 x.2.2.1, .slice p2 x.2.2.2.length q2] 26)).alloc (.cells #[.int .i64 y.1, .slice p3 y.2.1.length q3, .int .i64 y.2.2.1, .slice p4 y.2.2.2.length q4] 26)).alloc (.cells #[.int .i64 0, .int .i64 0, .slice none 0 0, .int .i64 0, .slice none 0 0, .int .i64 0, .int .i64 0, .slice none 0 0, .slice none 0 0, .slice none 0 0, .slice none 0 0, .slice none 0 0, .slice none 0 0, .int .i64 0, .slice none 0 0, .int .i64 0, .slice none 0 0, .int .i64 0, .int .i64 0, .slice none 0 0, .slice none 0 0, .slice none 0 0, .slice none 0 0, .slice none 0 0, .slice none 0 0] 33)) [.int .i64 x.1, .slice p1 x.2.1.length q1, .int .i64 x.2.2.1, .slice p2 x.2.2.2.length q2, .int .i64 y.1, .slice p3 y.2.1.length q3, .int .i64 y.2.2.1, .slice p4 y.2.2.2.length q4] 26
  rw [size_alloc, size_alloc, size_alloc] at L
  have hal := alloc_below (((w.alloc (.cells #[.int .i64 x.1, .slice p1 x.2.1.length q1, .int .i64 x.2.2.1, .slice p2 x.2.2.2.length q2] 26)).alloc (.cells #[.int .i64 y.1, .slice p3 y.2.1.length q3, .int .i64 y.2.2.1, .slice p4 y.2.2.2.length q4] 26)).alloc (.cells #[.int .i64 0, .int .i64 0, .slice none 0 0, .int .i64 0, .slice none 0 0, .int .i64 0, .int .i64 0, .slice none 0 0, .slice none 0 0, .slice none 0 0, .slice none 0 0, .slice none 0 0, .slice none 0 0, .int .i64 0, .slice none 0 0, .int .i64 0, .slice none 0 0, .int .i64 0, .int .i64 0, .slice none 0 0, .slice none 0 0, .slice none 0 0, .slice none 0 0, .slice none 0 0, .slice none 0 0] 33)) (.cells #[.int .i64 x.1, .slice p1 x.2.1.length q1, .int .i64 x.2.2.1, .slice p2 x.2.2.2.length q2, .int .i64 y.1, .slice p3 y.2.1.length q3, .int .i64 y.2.2.1, .slice p4 y.2.2.2.length q4] 26)
  replace BW := Below.step BW hal
  replace X := X.stay hal
  replace Y := Y.stay hal
  replace R := R.stay hal
  clear r r2 hT hal
  go_enter Tryz.func9, Tryz.ntmps9
  go_wp2_with fail
  generalize (((w.alloc (.cells #[.int .i64 x.1, .slice p1 x.2.1.length q1, .int .i64 x.2.2.1, .slice p2 x.2.2.2.length q2] 26)).alloc (.cells #[.int .i64 y.1, .slice p3 y.2.1.length q3, .int .i64 y.2.2.1, .slice p4 y.2.2.2.length q4] 26)).alloc (.cells #[.int .i64 0, .int .i64 0, .slice none 0 0, .int .i64 0, .slice none 0 0, .int .i64 0, .int .i64 0, .slice none 0 0, .slice none 0 0, .slice none 0 0, .slice none 0 0, .slice none 0 0, .slice none 0 0, .int .i64 0, .slice none 0 0, .int .i64 0, .slice none 0 0, .int .i64 0, .int .i64 0, .slice none 0 0, .slice none 0 0, .slice none 0 0, .slice none 0 0, .slice none 0 0, .slice none 0 0] 33)).alloc (.cells #[.int .i64 x.1, .slice p1 x.2.1.length q1, .int .i64 x.2.2.1, .slice p2 x.2.2.2.length q2, .int .i64 y.1, .slice p3 y.2.1.length q3, .int .i64 y.2.2.1, .slice p4 y.2.2.2.length q4] 26) = V0 at *
  go_loopw [16] (fun i wr => ((i = .int .i64 0) ∨ (i = .int .i64 1 ∧ sfC x = 0) ∨ (i = .int .i64 2 ∧ sfC x = 0 ∧ sfC y = 0)) ∧ Below w.heap.size w wr ∧ Arr wr (w.heap.size + 1 + 1) 33 [.int .i64 0, .int .i64 0, .slice none 0 0, .int .i64 0, .slice none 0 0, .int .i64 0, .int .i64 0, .slice none 0 0, .slice none 0 0, .slice none 0 0, .slice none 0 0, .slice none 0 0, .slice none 0 0, .int .i64 0, .slice none 0 0, .int .i64 0, .slice none 0 0, .int .i64 0, .int .i64 0, .slice none 0 0, .slice none 0 0, .slice none 0 0, .slice none 0 0, .slice none 0 0, .slice none 0 0] ∧ Arr wr w.heap.size 26 [.int .i64 x.1, .slice p1 x.2.1.length q1, .int .i64 x.2.2.1, .slice p2 x.2.2.2.length q2] ∧ Arr wr (w.heap.size + 1) 26 [.int .i64 y.1, .slice p3 y.2.1.length q3, .int .i64 y.2.2.1, .slice p4 y.2.2.2.length q4] ∧ Arr wr (w.heap.size + 1 + 1 + 1) 26 [.int .i64 x.1, .slice p1 x.2.1.length q1, .int .i64 x.2.2.1, .slice p2 x.2.2.2.length q2, .int .i64 y.1, .slice p3 y.2.1.length q3, .int .i64 y.2.2.1, .slice p4 y.2.2.2.length q4])
    (fun i _ => 2 - (intOf i).toNat)
  case atStart => exact ⟨.inl rfl, BW, R, X, Y, L⟩
  case round =>
    clear BW R X Y L
    obtain ⟨rfl | ⟨rfl, hx0⟩ | ⟨rfl, hx0, hy0⟩, BW, R, X, Y, L⟩ := hrel
    · skip
      have l0 := (L.cell 0).trans (show _ = some _ from rfl)
      have l1 := (L.cell 1).trans (show _ = some _ from rfl)
      have l2 := (L.cell 2).trans (show _ = some _ from rfl)
      have l3 := (L.cell 3).trans (show _ = some _ from rfl)
      have KS : Hid (∀ W, Below w.heap.size w W → Calls Tryz.prog 34 #[.agg #[.int .i64 x.1, .slice p1 x.2.1.length q1, .int .i64 x.2.2.1, .slice p2 x.2.2.2.length q2]] W fun e w' => e = .returned (.int .i64 (sfC x)) ∧ Below W.heap.size W w') := fun W hb => implSi_k x _ W (sideC.keep HRX.out hb)
      by_cases hs : sfC x = 0
      · have HS : Hid (sfC x = 0) := hs
        have KS2 : Hid (∀ W, Below w.heap.size w W → Calls Tryz.prog 34 #[.agg #[.int .i64 x.1, .slice p1 x.2.1.length q1, .int .i64 x.2.2.1, .slice p2 x.2.2.2.length q2]] W fun e w' => e = .returned (.int .i64 0) ∧ Below W.heap.size W w') := fun W hb => by have h := KS.out W hb; rw [hs] at h; exact h
        clear hs KS
        go_wp2_with fail
        refine (KS2.out _ (Below.step BW (alloc_below _ _))).mono ?_
        rintro e w2 ⟨rfl, hb2⟩
        replace hb2 := Below.step (alloc_below _ _) hb2
        replace R := R.stay hb2
        replace X := X.stay hb2
        replace Y := Y.stay hb2
        replace L := L.stay hb2
        replace BW := Below.step BW hb2
        clear hb2 l0 l1 l2 l3
        go_wp2_with fail
        go_roundw
        case rel => exact ⟨.inr (.inl ⟨by go_num, HS.out⟩), BW, R, X, Y, L⟩
        case measure => simp [intOf]
      · have hd : (sfC x != 0) = true := by rw [bne_iff_ne]; exact hs
        have HP : Hid (paD x y = badP (sfC x)) := paD_bad1 hs
        clear hs
        go_wp2_with fail
        refine (KS.out _ (Below.step BW (alloc_below _ _))).mono ?_
        rintro e w2 ⟨rfl, hb2⟩
        replace hb2 := Below.step (alloc_below _ _) hb2
        replace R := R.stay hb2
        replace BW := Below.step BW hb2
        clear hb2 l0 l1 l2 l3
        go_wp2_with (refine wpList_store_row rfl 33 _ _ rfl (w.heap.size + 1 + 1) #[.int .i64 (sfC x), .int .i64 0, .slice none 0 0, .int .i64 0, .slice none 0 0, .int .i64 0, .int .i64 0, .slice none 0 0, .slice none 0 0, .slice none 0 0, .slice none 0 0, .slice none 0 0, .slice none 0 0, .int .i64 0, .slice none 0 0, .int .i64 0, .slice none 0 0, .int .i64 0, .int .i64 0, .slice none 0 0, .slice none 0 0, .slice none 0 0, .slice none 0 0, .slice none 0 0, .slice none 0 0] rfl rfl 33 #[.int .i64 0, .int .i64 0, .slice none 0 0, .int .i64 0, .slice none 0 0, .int .i64 0, .int .i64 0, .slice none 0 0, .slice none 0 0, .slice none 0 0, .slice none 0 0, .slice none 0 0, .slice none 0 0, .int .i64 0, .slice none 0 0, .int .i64 0, .slice none 0 0, .int .i64 0, .int .i64 0, .slice none 0 0, .slice none 0 0, .slice none 0 0, .slice none 0 0, .slice none 0 0, .slice none 0 0] R hres.out rfl (by simp [Value.oneCell']) ?_)
        exact bodyPost_ret (v := .agg #[.int .i64 (sfC x), .int .i64 0, .slice none 0 0, .int .i64 0, .slice none 0 0, .int .i64 0, .int .i64 0, .slice none 0 0, .slice none 0 0, .slice none 0 0, .slice none 0 0, .slice none 0 0, .slice none 0 0, .int .i64 0, .slice none 0 0, .int .i64 0, .slice none 0 0, .int .i64 0, .int .i64 0, .slice none 0 0, .slice none 0 0, .slice none 0 0, .slice none 0 0, .slice none 0 0, .slice none 0 0]) (results_cell_row Tryz.results9 _ _ (w.heap.size + 1 + 1) 33 _ (0, 0) _ rfl (R.row [.int .i64 (sfC x), .int .i64 0, .slice none 0 0, .int .i64 0, .slice none 0 0, .int .i64 0, .int .i64 0, .slice none 0 0, .slice none 0 0, .slice none 0 0, .slice none 0 0, .slice none 0 0, .slice none 0 0, .int .i64 0, .slice none 0 0, .int .i64 0, .slice none 0 0, .int .i64 0, .int .i64 0, .slice none 0 0, .slice none 0 0, .slice none 0 0, .slice none 0 0, .slice none 0 0, .slice none 0 0]) Tryz.underlying33 rfl hres.out) rfl (HQ.out _ _ ⟨[.int .i64 (sfC x), .int .i64 0, .slice none 0 0, .int .i64 0, .slice none 0 0, .int .i64 0, .int .i64 0, .slice none 0 0, .slice none 0 0, .slice none 0 0, .slice none 0 0, .slice none 0 0, .slice none 0 0, .int .i64 0, .slice none 0 0, .int .i64 0, .slice none 0 0, .int .i64 0, .int .i64 0, .slice none 0 0, .slice none 0 0, .slice none 0 0, .slice none 0 0, .slice none 0 0, .slice none 0 0], _, rfl, by rw [HP.out]; exact badP_own _ _ _, Below.row BW (by omega) _⟩)
    · skip
      have l0 := (L.cell 4).trans (show _ = some _ from rfl)
      have l1 := (L.cell 5).trans (show _ = some _ from rfl)
      have l2 := (L.cell 6).trans (show _ = some _ from rfl)
      have l3 := (L.cell 7).trans (show _ = some _ from rfl)
      have KS : Hid (∀ W, Below w.heap.size w W → Calls Tryz.prog 34 #[.agg #[.int .i64 y.1, .slice p3 y.2.1.length q3, .int .i64 y.2.2.1, .slice p4 y.2.2.2.length q4]] W fun e w' => e = .returned (.int .i64 (sfC y)) ∧ Below W.heap.size W w') := fun W hb => implSi_k y _ W (sideC.keep HRY.out hb)
      by_cases hs : sfC y = 0
      · have HS : Hid (sfC y = 0) := hs
        have KS2 : Hid (∀ W, Below w.heap.size w W → Calls Tryz.prog 34 #[.agg #[.int .i64 y.1, .slice p3 y.2.1.length q3, .int .i64 y.2.2.1, .slice p4 y.2.2.2.length q4]] W fun e w' => e = .returned (.int .i64 0) ∧ Below W.heap.size W w') := fun W hb => by have h := KS.out W hb; rw [hs] at h; exact h
        clear hs KS
        go_wp2_with fail
        refine (KS2.out _ (Below.step BW (alloc_below _ _))).mono ?_
        rintro e w2 ⟨rfl, hb2⟩
        replace hb2 := Below.step (alloc_below _ _) hb2
        replace R := R.stay hb2
        replace X := X.stay hb2
        replace Y := Y.stay hb2
        replace L := L.stay hb2
        replace BW := Below.step BW hb2
        clear hb2 l0 l1 l2 l3
        go_wp2_with fail
        go_roundw
        case rel => exact ⟨.inr (.inr ⟨by go_num, hx0, HS.out⟩), BW, R, X, Y, L⟩
        case measure => simp [intOf]
      · have hd : (sfC y != 0) = true := by rw [bne_iff_ne]; exact hs
        have HP : Hid (paD x y = badP (sfC y)) := paD_bad2 hx0 hs
        clear hs
        go_wp2_with fail
        refine (KS.out _ (Below.step BW (alloc_below _ _))).mono ?_
        rintro e w2 ⟨rfl, hb2⟩
        replace hb2 := Below.step (alloc_below _ _) hb2
        replace R := R.stay hb2
        replace BW := Below.step BW hb2
        clear hb2 l0 l1 l2 l3
        go_wp2_with (refine wpList_store_row rfl 33 _ _ rfl (w.heap.size + 1 + 1) #[.int .i64 (sfC y), .int .i64 0, .slice none 0 0, .int .i64 0, .slice none 0 0, .int .i64 0, .int .i64 0, .slice none 0 0, .slice none 0 0, .slice none 0 0, .slice none 0 0, .slice none 0 0, .slice none 0 0, .int .i64 0, .slice none 0 0, .int .i64 0, .slice none 0 0, .int .i64 0, .int .i64 0, .slice none 0 0, .slice none 0 0, .slice none 0 0, .slice none 0 0, .slice none 0 0, .slice none 0 0] rfl rfl 33 #[.int .i64 0, .int .i64 0, .slice none 0 0, .int .i64 0, .slice none 0 0, .int .i64 0, .int .i64 0, .slice none 0 0, .slice none 0 0, .slice none 0 0, .slice none 0 0, .slice none 0 0, .slice none 0 0, .int .i64 0, .slice none 0 0, .int .i64 0, .slice none 0 0, .int .i64 0, .int .i64 0, .slice none 0 0, .slice none 0 0, .slice none 0 0, .slice none 0 0, .slice none 0 0, .slice none 0 0] R hres.out rfl (by simp [Value.oneCell']) ?_)
        exact bodyPost_ret (v := .agg #[.int .i64 (sfC y), .int .i64 0, .slice none 0 0, .int .i64 0, .slice none 0 0, .int .i64 0, .int .i64 0, .slice none 0 0, .slice none 0 0, .slice none 0 0, .slice none 0 0, .slice none 0 0, .slice none 0 0, .int .i64 0, .slice none 0 0, .int .i64 0, .slice none 0 0, .int .i64 0, .int .i64 0, .slice none 0 0, .slice none 0 0, .slice none 0 0, .slice none 0 0, .slice none 0 0, .slice none 0 0]) (results_cell_row Tryz.results9 _ _ (w.heap.size + 1 + 1) 33 _ (0, 0) _ rfl (R.row [.int .i64 (sfC y), .int .i64 0, .slice none 0 0, .int .i64 0, .slice none 0 0, .int .i64 0, .int .i64 0, .slice none 0 0, .slice none 0 0, .slice none 0 0, .slice none 0 0, .slice none 0 0, .slice none 0 0, .int .i64 0, .slice none 0 0, .int .i64 0, .slice none 0 0, .int .i64 0, .int .i64 0, .slice none 0 0, .slice none 0 0, .slice none 0 0, .slice none 0 0, .slice none 0 0, .slice none 0 0]) Tryz.underlying33 rfl hres.out) rfl (HQ.out _ _ ⟨[.int .i64 (sfC y), .int .i64 0, .slice none 0 0, .int .i64 0, .slice none 0 0, .int .i64 0, .int .i64 0, .slice none 0 0, .slice none 0 0, .slice none 0 0, .slice none 0 0, .slice none 0 0, .slice none 0 0, .int .i64 0, .slice none 0 0, .int .i64 0, .slice none 0 0, .int .i64 0, .int .i64 0, .slice none 0 0, .slice none 0 0, .slice none 0 0, .slice none 0 0, .slice none 0 0, .slice none 0 0], _, rfl, by rw [HP.out]; exact badP_own _ _ _, Below.row BW (by omega) _⟩)
    · have KSt := implSt_k x _ wr (sideC.keep HRX.out BW)
      rw [← HA.out] at KSt
      have HA0 : Hid (A.1 = 0) := by show _ = _; rw [HA.out, stE_code]; exact hx0
      have HAl : Hid (0 < A.2.2.length) := by show _ < _; rw [HA.out]; rw [stE_send (by rw [stE_code]; exact hx0)]; decide
      have HBALL : Hid (∀ M, M = headM A.2.2 → (hcE y M).1 = 0) := fun M hM => by
        have px := sf_parts hx0
        rw [hM, HA.out, stE_ok hx0, hcE_code]
        show hcC y (helM x 1 x.2.2.1) = 0
        rw [hcC, if_pos hy0]
        exact (uhC_hel (s := x) (kind := 1) hx0 px.2.2.1 px.2.2.2.1 (.inl rfl)).1
      have x0 := (X.cell 0).trans (show _ = some _ from rfl)
      have x1 := (X.cell 1).trans (show _ = some _ from rfl)
      have x2 := (X.cell 2).trans (show _ = some _ from rfl)
      have x3 := (X.cell 3).trans (show _ = some _ from rfl)
      clear L X hx0 hy0
      go_wp2_with fail
      refine KSt.mono ?_
      rintro e w1 ⟨usa, fa, rfl, Ka, hb1⟩
      obtain ⟨pa1, qa1, pa2, qa2, pa3, qa3, pa4, qa4, pa5, qa5, pa6, qa6, pa7, qa7, pa8, qa8, pas, qas, rfl, -, -, -, -, -, -, -, -, -⟩ := endResult_rep (endResultC.toRep Ka)
      have hl1 := alloc_below w1 (.cells #[.int .i64 A.1, .int .i64 A.2.1.1.1, .slice pa1 A.2.1.1.2.1.length qa1, .int .i64 A.2.1.1.2.2.1, .slice pa2 A.2.1.1.2.2.2.length qa2, .int .i64 A.2.1.2.1, .int .i64 A.2.1.2.2.1, .slice pa3 A.2.1.2.2.2.1.length qa3, .slice pa4 A.2.1.2.2.2.2.1.length qa4, .slice pa5 A.2.1.2.2.2.2.2.1.length qa5, .slice pa6 A.2.1.2.2.2.2.2.2.1.length qa6, .slice pa7 A.2.1.2.2.2.2.2.2.2.1.length qa7, .slice pa8 A.2.1.2.2.2.2.2.2.2.2.length qa8, .slice pas A.2.2.length qas] 78)
      have Na := Arr.new w1 [.int .i64 A.1, .int .i64 A.2.1.1.1, .slice pa1 A.2.1.1.2.1.length qa1, .int .i64 A.2.1.1.2.2.1, .slice pa2 A.2.1.1.2.2.2.length qa2, .int .i64 A.2.1.2.1, .int .i64 A.2.1.2.2.1, .slice pa3 A.2.1.2.2.2.1.length qa3, .slice pa4 A.2.1.2.2.2.2.1.length qa4, .slice pa5 A.2.1.2.2.2.2.2.1.length qa5, .slice pa6 A.2.1.2.2.2.2.2.2.1.length qa6, .slice pa7 A.2.1.2.2.2.2.2.2.2.1.length qa7, .slice pa8 A.2.1.2.2.2.2.2.2.2.2.length qa8, .slice pas A.2.2.length qas] 78
      have hb2 := Below.step hb1 hl1
      replace Ka := endResultC.low (endResultC.stay Ka hl1) BW.size
      replace R := R.stay hb2
      replace Y := Y.stay hb2
      replace BW := Below.step BW hb2
      clear hb1 hb2 hl1 KSt x0 x1 x2 x3
      go_wp2_with fail
      generalize w1.alloc (.cells #[.int .i64 A.1, .int .i64 A.2.1.1.1, .slice pa1 A.2.1.1.2.1.length qa1, .int .i64 A.2.1.1.2.2.1, .slice pa2 A.2.1.1.2.2.2.length qa2, .int .i64 A.2.1.2.1, .int .i64 A.2.1.2.2.1, .slice pa3 A.2.1.2.2.2.1.length qa3, .slice pa4 A.2.1.2.2.2.2.1.length qa4, .slice pa5 A.2.1.2.2.2.2.2.1.length qa5, .slice pa6 A.2.1.2.2.2.2.2.2.1.length qa6, .slice pa7 A.2.1.2.2.2.2.2.2.2.1.length qa7, .slice pa8 A.2.1.2.2.2.2.2.2.2.2.length qa8, .slice pas A.2.2.length qas] 78) = V1 at *
      obtain ⟨fae, fad, KAe, KAd, -⟩ := endR_parts (us := [.int .i64 A.2.1.1.1, .slice pa1 A.2.1.1.2.1.length qa1, .int .i64 A.2.1.1.2.2.1, .slice pa2 A.2.1.1.2.2.2.length qa2, .int .i64 A.2.1.2.1, .int .i64 A.2.1.2.2.1, .slice pa3 A.2.1.2.2.2.1.length qa3, .slice pa4 A.2.1.2.2.2.2.1.length qa4, .slice pa5 A.2.1.2.2.2.2.2.1.length qa5, .slice pa6 A.2.1.2.2.2.2.2.2.1.length qa6, .slice pa7 A.2.1.2.2.2.2.2.2.2.1.length qa7, .slice pa8 A.2.1.2.2.2.2.2.2.2.2.length qa8]) Ka rfl
      obtain ⟨ga0, oa0, qa0, pm, qm, ea, hq1, hq2, m0, m1, RM⟩ := head_at KAd HAl.out
      cases ea
      obtain ⟨M, HM⟩ : ∃ M, Hid (M = headM A.2.2) := ⟨_, rfl⟩
      rw [← HM.out] at m0 m1 RM
      have HRM : Hid (Rd V1 pm qm M.2) := RM
      have hln : (0 : Int) < (A.2.2.length : Int) := by have := HAl.out; omega
      obtain ⟨B, HB⟩ : ∃ B, Hid (B = hcE y M) := ⟨_, rfl⟩
      have HB0 : Hid (B.1 = 0) := by show _ = _; rw [HB.out]; exact HBALL.out M HM.out
      have KHc : Hid (∀ W pm qm, Below w.heap.size w W → Rd W pm qm M.2 → Calls Tryz.prog 36 #[.agg #[.int .i64 y.1, .slice p3 y.2.1.length q3, .int .i64 y.2.2.1, .slice p4 y.2.2.2.length q4], .agg #[.int .i64 M.1, .slice pm M.2.length qm]] W fun e w' => ∃ us fp, e = .returned (.agg us.toArray) ∧ endResultC.own w' W.heap.size B us fp ∧ Below W.heap.size W w') := fun W pm qm hb hr => by
        have h := implHc_k y M _ _ W (sideC.keep HRY.out hb) (msg_mk (a := M) hr) (HT.out.keep hb)
        rw [← HB.out] at h
        exact h
      clear KAe KAd RM
      go_wp2_with fail
      apply share
      case h =>
        intro JN
        have BB := Below.refl V1.heap.size V1
        have hne := HW.some V1
        have y0 := HW.at ((Y.cell 0).trans (show _ = some _ from rfl))
        have y1 := HW.at ((Y.cell 1).trans (show _ = some _ from rfl))
        have y2 := HW.at ((Y.cell 2).trans (show _ = some _ from rfl))
        have y3 := HW.at ((Y.cell 3).trans (show _ = some _ from rfl))
        have s13 := HW.at ((Na.cell 13).trans (show _ = some _ from rfl))
        have z0 := HW.at (m0)
        have z1 := HW.at (m1)
        refine wp_region_pick [0, 1, 2, 3, 4] 7 2 1 rfl rfl rfl (by kernel_rfl) (by kernel_rfl) (by kernel_rfl) (by kernel_rfl) ?_
        simp only [opsAt, List.getElem?_toArray, List.getElem?_cons_zero, List.getElem?_cons_succ]
        repeat (go_big_quiet_step (fail))
        refine wpQuiet_nil ?_
        clear y0 y1 y2 y3 s13 z0 z1
        refine wpM_two (i := 5) (j := 6) (by kernel_rfl) ?_ ?_
        · skip
          refine mOp_call rfl (by go_simp) 36 _ #[.agg #[.int .i64 y.1, .slice p3 y.2.1.length q3, .int .i64 y.2.2.1, .slice p4 y.2.2.2.length q4], .agg #[.int .i64 M.1, .slice pm M.2.length qm]] (fun w => by go_simp) rfl ?_
          rintro _ ⟨sg, rfl⟩
          refine (KHc.out _ pm qm (Below.step BW (Below.step BB sg.h)) (HRM.out.keep (Below.step BB sg.h))).mono ?_
          rintro e wg1 ⟨usb, fb, rfl, kb, hbx⟩
          obtain ⟨pb1, qb1, pb2, qb2, pb3, qb3, pb4, qb4, pb5, qb5, pb6, qb6, pb7, qb7, pb8, qb8, pbs, qbs, rfl, -, -, -, -, -, -, -, -, -⟩ := endResult_rep (endResultC.toRep kb)
          have hbg := Below.step sg.h hbx
          refine ⟨_, rfl, ⟨⟨wg1, hbx⟩, rfl⟩, ?_⟩
          have Kb := endResultC.low kb ((Below.step BB sg.h)).size
          replace BB := Below.step BB hbg
          clear hbg hbx sg kb
          replace hne := HW.some wg1
          refine wpM_only (i := 6) (by kernel_rfl) ?_
          refine mOp_make rfl (by go_simp) ?_
          rintro _ ⟨sg, rfl⟩
          refine ⟨.pointer (some ⟨sg.w.heap.size, 0, none⟩), sg.w.alloc (.cells #[.int .i64 0, .int .i64 0, .slice none 0 0, .int .i64 0, .slice none 0 0, .int .i64 0, .int .i64 0, .slice none 0 0, .slice none 0 0, .slice none 0 0, .slice none 0 0, .slice none 0 0, .slice none 0 0, .slice none 0 0] 78), by go_simp, ⟨⟨_, alloc_below _ _⟩, rfl⟩, ?_⟩
          have hbg := Below.step sg.h (alloc_below sg.w (.cells #[.int .i64 0, .int .i64 0, .slice none 0 0, .int .i64 0, .slice none 0 0, .int .i64 0, .int .i64 0, .slice none 0 0, .slice none 0 0, .slice none 0 0, .slice none 0 0, .slice none 0 0, .slice none 0 0, .slice none 0 0] 78))
          have Ab := Arr.new sg.w [.int .i64 0, .int .i64 0, .slice none 0 0, .int .i64 0, .slice none 0 0, .int .i64 0, .int .i64 0, .slice none 0 0, .slice none 0 0, .slice none 0 0, .slice none 0 0, .slice none 0 0, .slice none 0 0, .slice none 0 0] 78
          have Gb := (show Hid (V1.heap.size ≤ sg.w.heap.size) from (Below.step BB sg.h).size)
          have NEb := (show ∀ k, k ∈ fb → k ≠ sg.w.heap.size from fun k h e => by have h1 := (endResultC.ins Kb k h).2; have h2 := sg.h.size; omega)
          replace Kb := endResultC.stay Kb hbg
          replace BB := Below.step BB hbg
          clear hbg
          replace hne := HW.some (sg.w.alloc (.cells #[.int .i64 0, .int .i64 0, .slice none 0 0, .int .i64 0, .slice none 0 0, .int .i64 0, .int .i64 0, .slice none 0 0, .slice none 0 0, .slice none 0 0, .slice none 0 0, .slice none 0 0, .slice none 0 0, .slice none 0 0] 78))
          generalize hW : (sg.w.alloc (.cells #[.int .i64 0, .int .i64 0, .slice none 0 0, .int .i64 0, .slice none 0 0, .int .i64 0, .int .i64 0, .slice none 0 0, .slice none 0 0, .slice none 0 0, .slice none 0 0, .slice none 0 0, .slice none 0 0, .slice none 0 0] 78)) = wg2 at *
          clear hW
          generalize sg.w.heap.size = gb at *
          clear sg
          refine wpM_end (by kernel_rfl) rfl (by kernel_rfl) (by decide) ?_
          rintro _ ⟨sz, rfl⟩
          simp only [List.drop_succ_cons, List.drop_zero]
          go_simp
          replace Kb := endResultC.stay Kb sz.h
          replace Ab := Ab.stay sz.h
          replace BB := Below.step BB sz.h
          clear hne
          generalize sz.w = Ub at *
          clear sz
          revert NEb
          revert Gb
          revert Ab
          revert Kb
          revert BB
          revert gb
          revert qbs
          revert pbs
          revert qb8
          revert pb8
          revert qb7
          revert pb7
          revert qb6
          revert pb6
          revert qb5
          revert pb5
          revert qb4
          revert pb4
          revert qb3
          revert pb3
          revert qb2
          revert pb2
          revert qb1
          revert pb1
          revert fb
          revert Ub
          exact JN.out
        · skip
          refine mOp_make rfl (by go_simp) ?_
          rintro _ ⟨sg, rfl⟩
          refine ⟨.pointer (some ⟨sg.w.heap.size, 0, none⟩), sg.w.alloc (.cells #[.int .i64 0, .int .i64 0, .slice none 0 0, .int .i64 0, .slice none 0 0, .int .i64 0, .int .i64 0, .slice none 0 0, .slice none 0 0, .slice none 0 0, .slice none 0 0, .slice none 0 0, .slice none 0 0, .slice none 0 0] 78), by go_simp, ⟨⟨_, alloc_below _ _⟩, rfl⟩, ?_⟩
          have hbg := Below.step sg.h (alloc_below sg.w (.cells #[.int .i64 0, .int .i64 0, .slice none 0 0, .int .i64 0, .slice none 0 0, .int .i64 0, .int .i64 0, .slice none 0 0, .slice none 0 0, .slice none 0 0, .slice none 0 0, .slice none 0 0, .slice none 0 0, .slice none 0 0] 78))
          have Ab := Arr.new sg.w [.int .i64 0, .int .i64 0, .slice none 0 0, .int .i64 0, .slice none 0 0, .int .i64 0, .int .i64 0, .slice none 0 0, .slice none 0 0, .slice none 0 0, .slice none 0 0, .slice none 0 0, .slice none 0 0, .slice none 0 0] 78
          have Gb := (show Hid (V1.heap.size ≤ sg.w.heap.size) from (Below.step BB sg.h).size)
          replace BB := Below.step BB hbg
          clear hbg
          replace hne := HW.some (sg.w.alloc (.cells #[.int .i64 0, .int .i64 0, .slice none 0 0, .int .i64 0, .slice none 0 0, .int .i64 0, .int .i64 0, .slice none 0 0, .slice none 0 0, .slice none 0 0, .slice none 0 0, .slice none 0 0, .slice none 0 0, .slice none 0 0] 78))
          generalize hW : (sg.w.alloc (.cells #[.int .i64 0, .int .i64 0, .slice none 0 0, .int .i64 0, .slice none 0 0, .int .i64 0, .int .i64 0, .slice none 0 0, .slice none 0 0, .slice none 0 0, .slice none 0 0, .slice none 0 0, .slice none 0 0, .slice none 0 0] 78)) = wg3 at *
          clear hW
          generalize sg.w.heap.size = gb at *
          clear sg
          refine wpM_only (i := 5) (by kernel_rfl) ?_
          refine mOp_call rfl (by go_simp) 36 _ #[.agg #[.int .i64 y.1, .slice p3 y.2.1.length q3, .int .i64 y.2.2.1, .slice p4 y.2.2.2.length q4], .agg #[.int .i64 M.1, .slice pm M.2.length qm]] (fun w => by go_simp) rfl ?_
          rintro _ ⟨sg, rfl⟩
          refine (KHc.out _ pm qm (Below.step BW (Below.step BB sg.h)) (HRM.out.keep (Below.step BB sg.h))).mono ?_
          rintro e wg4 ⟨usb, fb, rfl, kb, hbx⟩
          obtain ⟨pb1, qb1, pb2, qb2, pb3, qb3, pb4, qb4, pb5, qb5, pb6, qb6, pb7, qb7, pb8, qb8, pbs, qbs, rfl, -, -, -, -, -, -, -, -, -⟩ := endResult_rep (endResultC.toRep kb)
          have hbg := Below.step sg.h hbx
          refine ⟨_, rfl, ⟨⟨wg4, hbx⟩, rfl⟩, ?_⟩
          have Kb := endResultC.low kb ((Below.step BB sg.h)).size
          have NEb := (show ∀ k, k ∈ fb → k ≠ gb from fun k h e => by have h1 := (endResultC.ins kb k h).1; have h2 := Ab.lt; have h3 := sg.h.size; omega)
          replace Ab := Ab.stay hbg
          replace BB := Below.step BB hbg
          clear hbg hbx sg kb
          replace hne := HW.some wg4
          refine wpM_end (by kernel_rfl) rfl (by kernel_rfl) (by decide) ?_
          rintro _ ⟨sz, rfl⟩
          simp only [List.drop_succ_cons, List.drop_zero]
          go_simp
          replace Ab := Ab.stay sz.h
          replace Kb := endResultC.stay Kb sz.h
          replace BB := Below.step BB sz.h
          clear hne
          generalize sz.w = Ub at *
          clear sz
          revert NEb
          revert Gb
          revert Ab
          revert Kb
          revert BB
          revert gb
          revert qbs
          revert pbs
          revert qb8
          revert pb8
          revert qb7
          revert pb7
          revert qb6
          revert pb6
          revert qb5
          revert pb5
          revert qb4
          revert pb4
          revert qb3
          revert pb3
          revert qb2
          revert pb2
          revert qb1
          revert pb1
          revert fb
          revert Ub
          exact JN.out
      intro Ub fb pb1 qb1 pb2 qb2 pb3 qb3 pb4 qb4 pb5 qb5 pb6 qb6 pb7 qb7 pb8 qb8 pbs qbs gb BB Kb Ab Gb NEb
      refine wpList_store_row rfl 78 _ _ rfl gb #[.int .i64 B.1, .int .i64 B.2.1.1.1, .slice pb1 B.2.1.1.2.1.length qb1, .int .i64 B.2.1.1.2.2.1, .slice pb2 B.2.1.1.2.2.2.length qb2, .int .i64 B.2.1.2.1, .int .i64 B.2.1.2.2.1, .slice pb3 B.2.1.2.2.2.1.length qb3, .slice pb4 B.2.1.2.2.2.2.1.length qb4, .slice pb5 B.2.1.2.2.2.2.2.1.length qb5, .slice pb6 B.2.1.2.2.2.2.2.2.1.length qb6, .slice pb7 B.2.1.2.2.2.2.2.2.2.1.length qb7, .slice pb8 B.2.1.2.2.2.2.2.2.2.2.length qb8, .slice pbs B.2.2.length qbs] rfl rfl 78 #[.int .i64 0, .int .i64 0, .slice none 0 0, .int .i64 0, .slice none 0 0, .int .i64 0, .int .i64 0, .slice none 0 0, .slice none 0 0, .slice none 0 0, .slice none 0 0, .slice none 0 0, .slice none 0 0, .slice none 0 0] Ab hresE.out rfl (by simp [Value.oneCell']) ?_
      have hbb : Below V1.heap.size V1 (Ub.setRow gb #[.int .i64 B.1, .int .i64 B.2.1.1.1, .slice pb1 B.2.1.1.2.1.length qb1, .int .i64 B.2.1.1.2.2.1, .slice pb2 B.2.1.1.2.2.2.length qb2, .int .i64 B.2.1.2.1, .int .i64 B.2.1.2.2.1, .slice pb3 B.2.1.2.2.2.1.length qb3, .slice pb4 B.2.1.2.2.2.2.1.length qb4, .slice pb5 B.2.1.2.2.2.2.2.1.length qb5, .slice pb6 B.2.1.2.2.2.2.2.2.1.length qb6, .slice pb7 B.2.1.2.2.2.2.2.2.2.1.length qb7, .slice pb8 B.2.1.2.2.2.2.2.2.2.2.length qb8, .slice pbs B.2.2.length qbs]) := Below.row BB Gb.out _
      have Nb := Ab.row [.int .i64 B.1, .int .i64 B.2.1.1.1, .slice pb1 B.2.1.1.2.1.length qb1, .int .i64 B.2.1.1.2.2.1, .slice pb2 B.2.1.1.2.2.2.length qb2, .int .i64 B.2.1.2.1, .int .i64 B.2.1.2.2.1, .slice pb3 B.2.1.2.2.2.1.length qb3, .slice pb4 B.2.1.2.2.2.2.1.length qb4, .slice pb5 B.2.1.2.2.2.2.2.1.length qb5, .slice pb6 B.2.1.2.2.2.2.2.2.1.length qb6, .slice pb7 B.2.1.2.2.2.2.2.2.2.1.length qb7, .slice pb8 B.2.1.2.2.2.2.2.2.2.2.length qb8, .slice pbs B.2.2.length qbs]
      replace Kb := endResultC.row Kb NEb #[.int .i64 B.1, .int .i64 B.2.1.1.1, .slice pb1 B.2.1.1.2.1.length qb1, .int .i64 B.2.1.1.2.2.1, .slice pb2 B.2.1.1.2.2.2.length qb2, .int .i64 B.2.1.2.1, .int .i64 B.2.1.2.2.1, .slice pb3 B.2.1.2.2.2.1.length qb3, .slice pb4 B.2.1.2.2.2.2.1.length qb4, .slice pb5 B.2.1.2.2.2.2.2.1.length qb5, .slice pb6 B.2.1.2.2.2.2.2.2.1.length qb6, .slice pb7 B.2.1.2.2.2.2.2.2.2.1.length qb7, .slice pb8 B.2.1.2.2.2.2.2.2.2.2.length qb8, .slice pbs B.2.2.length qbs]
      clear BB Ab NEb Gb
      generalize Ub.setRow gb #[.int .i64 B.1, .int .i64 B.2.1.1.1, .slice pb1 B.2.1.1.2.1.length qb1, .int .i64 B.2.1.1.2.2.1, .slice pb2 B.2.1.1.2.2.2.length qb2, .int .i64 B.2.1.2.1, .int .i64 B.2.1.2.2.1, .slice pb3 B.2.1.2.2.2.1.length qb3, .slice pb4 B.2.1.2.2.2.2.1.length qb4, .slice pb5 B.2.1.2.2.2.2.2.1.length qb5, .slice pb6 B.2.1.2.2.2.2.2.2.1.length qb6, .slice pb7 B.2.1.2.2.2.2.2.2.2.1.length qb7, .slice pb8 B.2.1.2.2.2.2.2.2.2.2.length qb8, .slice pbs B.2.2.length qbs] = V2 at *
      go_simp
      replace R := R.stay hbb
      replace Y := Y.stay hbb
      replace Na := Na.stay hbb
      replace Ka := endResultC.stay Ka hbb
      replace BW := Below.step BW hbb
      clear hbb
      clear m0 m1 hln hq1 hq2 KHc HRM
      obtain ⟨C, HC⟩ : ∃ C, Hid (C = hvE A.2.1 B.2.2) := ⟨_, rfl⟩
      obtain ⟨fae, fad, KAe, -, -⟩ := endR_parts (us := [.int .i64 A.2.1.1.1, .slice pa1 A.2.1.1.2.1.length qa1, .int .i64 A.2.1.1.2.2.1, .slice pa2 A.2.1.1.2.2.2.length qa2, .int .i64 A.2.1.2.1, .int .i64 A.2.1.2.2.1, .slice pa3 A.2.1.2.2.2.1.length qa3, .slice pa4 A.2.1.2.2.2.2.1.length qa4, .slice pa5 A.2.1.2.2.2.2.2.1.length qa5, .slice pa6 A.2.1.2.2.2.2.2.2.1.length qa6, .slice pa7 A.2.1.2.2.2.2.2.2.2.1.length qa7, .slice pa8 A.2.1.2.2.2.2.2.2.2.2.length qa8]) Ka rfl
      obtain ⟨fbe, fbd, KBe, KBd, -⟩ := endR_parts (us := [.int .i64 B.2.1.1.1, .slice pb1 B.2.1.1.2.1.length qb1, .int .i64 B.2.1.1.2.2.1, .slice pb2 B.2.1.1.2.2.2.length qb2, .int .i64 B.2.1.2.1, .int .i64 B.2.1.2.2.1, .slice pb3 B.2.1.2.2.2.1.length qb3, .slice pb4 B.2.1.2.2.2.2.1.length qb4, .slice pb5 B.2.1.2.2.2.2.2.1.length qb5, .slice pb6 B.2.1.2.2.2.2.2.2.1.length qb6, .slice pb7 B.2.1.2.2.2.2.2.2.2.1.length qb7, .slice pb8 B.2.1.2.2.2.2.2.2.2.2.length qb8]) Kb rfl
      have KHv := implHv_k A.2.1 B.2.2 _ _ V2 (endC.toRep KAe) (msgsC.toRep KBd) (HT.out.keep BW)
      rw [← HC.out] at KHv
      have a1 := (Na.cell 1).trans (show _ = some _ from rfl)
      have a2 := (Na.cell 2).trans (show _ = some _ from rfl)
      have a3 := (Na.cell 3).trans (show _ = some _ from rfl)
      have a4 := (Na.cell 4).trans (show _ = some _ from rfl)
      have a5 := (Na.cell 5).trans (show _ = some _ from rfl)
      have a6 := (Na.cell 6).trans (show _ = some _ from rfl)
      have a7 := (Na.cell 7).trans (show _ = some _ from rfl)
      have a8 := (Na.cell 8).trans (show _ = some _ from rfl)
      have a9 := (Na.cell 9).trans (show _ = some _ from rfl)
      have a10 := (Na.cell 10).trans (show _ = some _ from rfl)
      have a11 := (Na.cell 11).trans (show _ = some _ from rfl)
      have a12 := (Na.cell 12).trans (show _ = some _ from rfl)
      have b13 := (Nb.cell 13).trans (show _ = some _ from rfl)
      clear KAe KBe KBd
      go_wp2_with fail
      refine KHv.mono ?_
      skip
      rintro e w3 ⟨usc, fc, rfl, Kc, hb3⟩
      obtain ⟨pc1, qc1, pc2, qc2, pc3, qc3, pc4, qc4, pc5, qc5, pc6, qc6, pc7, qc7, pc8, qc8, pcs, qcs, rfl, -, -, -, -, -, -, -, -, -⟩ := endResult_rep (endResultC.toRep Kc)
      have HCR : Hid (∀ k, k ∈ fc → w.heap.size + 1 + 1 < k) := fun k hk => by have h1 := (endResultC.ins Kc k hk).1; have h2 := R.lt; omega
      have hl3 := alloc_below w3 (.cells #[.int .i64 C.1, .int .i64 C.2.1.1.1, .slice pc1 C.2.1.1.2.1.length qc1, .int .i64 C.2.1.1.2.2.1, .slice pc2 C.2.1.1.2.2.2.length qc2, .int .i64 C.2.1.2.1, .int .i64 C.2.1.2.2.1, .slice pc3 C.2.1.2.2.2.1.length qc3, .slice pc4 C.2.1.2.2.2.2.1.length qc4, .slice pc5 C.2.1.2.2.2.2.2.1.length qc5, .slice pc6 C.2.1.2.2.2.2.2.2.1.length qc6, .slice pc7 C.2.1.2.2.2.2.2.2.2.1.length qc7, .slice pc8 C.2.1.2.2.2.2.2.2.2.2.length qc8, .slice pcs C.2.2.length qcs] 78)
      have Nc := Arr.new w3 [.int .i64 C.1, .int .i64 C.2.1.1.1, .slice pc1 C.2.1.1.2.1.length qc1, .int .i64 C.2.1.1.2.2.1, .slice pc2 C.2.1.1.2.2.2.length qc2, .int .i64 C.2.1.2.1, .int .i64 C.2.1.2.2.1, .slice pc3 C.2.1.2.2.2.1.length qc3, .slice pc4 C.2.1.2.2.2.2.1.length qc4, .slice pc5 C.2.1.2.2.2.2.2.1.length qc5, .slice pc6 C.2.1.2.2.2.2.2.2.1.length qc6, .slice pc7 C.2.1.2.2.2.2.2.2.2.1.length qc7, .slice pc8 C.2.1.2.2.2.2.2.2.2.2.length qc8, .slice pcs C.2.2.length qcs] 78
      have hb4 := Below.step hb3 hl3
      replace Kc := endResultC.low (endResultC.stay Kc hl3) BW.size
      clear hb3 hl3 KHv a1 a2 a3 a4 a5 a6 a7 a8 a9 a10 a11 a12 b13
      replace R := R.stay hb4
      replace Nb := Nb.stay hb4
      replace Kb := endResultC.stay Kb hb4
      replace BW := Below.step BW hb4
      clear hb4
      clear Na Ka Y
      have cc := (Nc.cell 0).trans (show _ = some _ from rfl)
      by_cases hC : C.1 = 0
      · have dC : (C.1 != 0) = false := by rw [bne_eq_false_iff_eq]; exact hC
        have HC0 : Hid (C.1 = 0) := hC
        have HCl : Hid (0 < C.2.2.length) := by show _ < _; rw [HC.out] at hC ⊢; rw [hvE_send hC]; decide
        clear hC
        go_wp2_with fail
        generalize w3.alloc (.cells #[.int .i64 C.1, .int .i64 C.2.1.1.1, .slice pc1 C.2.1.1.2.1.length qc1, .int .i64 C.2.1.1.2.2.1, .slice pc2 C.2.1.1.2.2.2.length qc2, .int .i64 C.2.1.2.1, .int .i64 C.2.1.2.2.1, .slice pc3 C.2.1.2.2.2.1.length qc3, .slice pc4 C.2.1.2.2.2.2.1.length qc4, .slice pc5 C.2.1.2.2.2.2.2.1.length qc5, .slice pc6 C.2.1.2.2.2.2.2.2.1.length qc6, .slice pc7 C.2.1.2.2.2.2.2.2.2.1.length qc7, .slice pc8 C.2.1.2.2.2.2.2.2.2.2.length qc8, .slice pcs C.2.2.length qcs] 78) = V3 at *
        clear cc
        obtain ⟨fce, fcd, KCe, KCd, -⟩ := endR_parts (us := [.int .i64 C.2.1.1.1, .slice pc1 C.2.1.1.2.1.length qc1, .int .i64 C.2.1.1.2.2.1, .slice pc2 C.2.1.1.2.2.2.length qc2, .int .i64 C.2.1.2.1, .int .i64 C.2.1.2.2.1, .slice pc3 C.2.1.2.2.2.1.length qc3, .slice pc4 C.2.1.2.2.2.2.1.length qc4, .slice pc5 C.2.1.2.2.2.2.2.1.length qc5, .slice pc6 C.2.1.2.2.2.2.2.2.1.length qc6, .slice pc7 C.2.1.2.2.2.2.2.2.2.1.length qc7, .slice pc8 C.2.1.2.2.2.2.2.2.2.2.length qc8]) Kc rfl
        obtain ⟨gc0, oc0, qc0, pm, qm, ec, hq1, hq2, m0, m1, RM⟩ := head_at KCd HCl.out
        cases ec
        obtain ⟨M2, HM2⟩ : ∃ M, Hid (M = headM C.2.2) := ⟨_, rfl⟩
        rw [← HM2.out] at m0 m1 RM
        have HRM : Hid (Rd V3 pm qm M2.2) := RM
        have hln : (0 : Int) < (C.2.2.length : Int) := by have := HCl.out; omega
        obtain ⟨fbe, fbd, KBe, -, -⟩ := endR_parts (us := [.int .i64 B.2.1.1.1, .slice pb1 B.2.1.1.2.1.length qb1, .int .i64 B.2.1.1.2.2.1, .slice pb2 B.2.1.1.2.2.2.length qb2, .int .i64 B.2.1.2.1, .int .i64 B.2.1.2.2.1, .slice pb3 B.2.1.2.2.2.1.length qb3, .slice pb4 B.2.1.2.2.2.2.1.length qb4, .slice pb5 B.2.1.2.2.2.2.2.1.length qb5, .slice pb6 B.2.1.2.2.2.2.2.2.1.length qb6, .slice pb7 B.2.1.2.2.2.2.2.2.2.1.length qb7, .slice pb8 B.2.1.2.2.2.2.2.2.2.2.length qb8]) Kb rfl
        have HBE : Hid (endC.rep V3 B.2.1 _) := endC.toRep KBe
        obtain ⟨D, HD⟩ : ∃ D, Hid (D = hnE B.2.1 M2) := ⟨_, rfl⟩
        have KHn : Hid (∀ W pm qm, Below V3.heap.size V3 W → Rd W pm qm M2.2 → Calls Tryz.prog 38 #[.agg #[.int .i64 B.2.1.1.1, .slice pb1 B.2.1.1.2.1.length qb1, .int .i64 B.2.1.1.2.2.1, .slice pb2 B.2.1.1.2.2.2.length qb2, .int .i64 B.2.1.2.1, .int .i64 B.2.1.2.2.1, .slice pb3 B.2.1.2.2.2.1.length qb3, .slice pb4 B.2.1.2.2.2.2.1.length qb4, .slice pb5 B.2.1.2.2.2.2.2.1.length qb5, .slice pb6 B.2.1.2.2.2.2.2.2.1.length qb6, .slice pb7 B.2.1.2.2.2.2.2.2.2.1.length qb7, .slice pb8 B.2.1.2.2.2.2.2.2.2.2.length qb8], .agg #[.int .i64 M2.1, .slice pm M2.2.length qm]] W fun e w' => ∃ us fp, e = .returned (.agg us.toArray) ∧ endResultC.own w' W.heap.size D us fp ∧ Below W.heap.size W w') := fun W pm qm hb hr => by
          have h := implHn_k B.2.1 M2 _ _ W (endC.keep HBE.out hb) (msg_mk (a := M2) hr) (HT.out.keep (Below.step BW hb))
          rw [← HD.out] at h
          exact h
        clear KCe KCd KBe RM
        have HCI : Hid (∀ k, k ∈ fc → k < V3.heap.size) := fun k hk => (endResultC.ins Kc k hk).2
        have HR3 : Hid (w.heap.size + 1 + 1 < V3.heap.size) := R.lt
        apply share
        case h =>
          intro JN
          have BB := Below.refl V3.heap.size V3
          have hne := HW.some V3
          have y1 := HW.at ((Nb.cell 1).trans (show _ = some _ from rfl))
          have y2 := HW.at ((Nb.cell 2).trans (show _ = some _ from rfl))
          have y3 := HW.at ((Nb.cell 3).trans (show _ = some _ from rfl))
          have y4 := HW.at ((Nb.cell 4).trans (show _ = some _ from rfl))
          have y5 := HW.at ((Nb.cell 5).trans (show _ = some _ from rfl))
          have y6 := HW.at ((Nb.cell 6).trans (show _ = some _ from rfl))
          have y7 := HW.at ((Nb.cell 7).trans (show _ = some _ from rfl))
          have y8 := HW.at ((Nb.cell 8).trans (show _ = some _ from rfl))
          have y9 := HW.at ((Nb.cell 9).trans (show _ = some _ from rfl))
          have y10 := HW.at ((Nb.cell 10).trans (show _ = some _ from rfl))
          have y11 := HW.at ((Nb.cell 11).trans (show _ = some _ from rfl))
          have y12 := HW.at ((Nb.cell 12).trans (show _ = some _ from rfl))
          have s13 := HW.at ((Nc.cell 13).trans (show _ = some _ from rfl))
          have z0 := HW.at (m0)
          have z1 := HW.at (m1)
          refine wp_region_pick [0, 1, 2, 3, 4, 5] 8 2 1 rfl rfl rfl (by kernel_rfl) (by kernel_rfl) (by kernel_rfl) (by kernel_rfl) ?_
          simp only [opsAt, List.getElem?_toArray, List.getElem?_cons_zero, List.getElem?_cons_succ]
          repeat (go_big_quiet_step (fail))
          refine wpQuiet_nil ?_
          clear y1 y2 y3 y4 y5 y6 y7 y8 y9 y10 y11 y12 s13 z0 z1
          refine wpM_two (i := 6) (j := 7) (by kernel_rfl) ?_ ?_
          · skip
            refine mOp_call rfl (by go_simp) 38 _ #[.agg #[.int .i64 B.2.1.1.1, .slice pb1 B.2.1.1.2.1.length qb1, .int .i64 B.2.1.1.2.2.1, .slice pb2 B.2.1.1.2.2.2.length qb2, .int .i64 B.2.1.2.1, .int .i64 B.2.1.2.2.1, .slice pb3 B.2.1.2.2.2.1.length qb3, .slice pb4 B.2.1.2.2.2.2.1.length qb4, .slice pb5 B.2.1.2.2.2.2.2.1.length qb5, .slice pb6 B.2.1.2.2.2.2.2.2.1.length qb6, .slice pb7 B.2.1.2.2.2.2.2.2.2.1.length qb7, .slice pb8 B.2.1.2.2.2.2.2.2.2.2.length qb8], .agg #[.int .i64 M2.1, .slice pm M2.2.length qm]] (fun w => by go_simp) rfl ?_
            rintro _ ⟨sg, rfl⟩
            refine (KHn.out _ pm qm (Below.step BB sg.h) (HRM.out.keep (Below.step BB sg.h))).mono ?_
            rintro e wg1 ⟨usd, fd, rfl, kd, hbx⟩
            obtain ⟨pd1, qd1, pd2, qd2, pd3, qd3, pd4, qd4, pd5, qd5, pd6, qd6, pd7, qd7, pd8, qd8, pds, qds, rfl, -, -, -, -, -, -, -, -, -⟩ := endResult_rep (endResultC.toRep kd)
            have hbg := Below.step sg.h hbx
            refine ⟨_, rfl, ⟨⟨wg1, hbx⟩, rfl⟩, ?_⟩
            have Kd := endResultC.low kd ((Below.step BB sg.h)).size
            replace BB := Below.step BB hbg
            clear hbg hbx sg kd
            replace hne := HW.some wg1
            refine wpM_only (i := 7) (by kernel_rfl) ?_
            refine mOp_make rfl (by go_simp) ?_
            rintro _ ⟨sg, rfl⟩
            refine ⟨.pointer (some ⟨sg.w.heap.size, 0, none⟩), sg.w.alloc (.cells #[.int .i64 0, .int .i64 0, .slice none 0 0, .int .i64 0, .slice none 0 0, .int .i64 0, .int .i64 0, .slice none 0 0, .slice none 0 0, .slice none 0 0, .slice none 0 0, .slice none 0 0, .slice none 0 0, .slice none 0 0] 78), by go_simp, ⟨⟨_, alloc_below _ _⟩, rfl⟩, ?_⟩
            have hbg := Below.step sg.h (alloc_below sg.w (.cells #[.int .i64 0, .int .i64 0, .slice none 0 0, .int .i64 0, .slice none 0 0, .int .i64 0, .int .i64 0, .slice none 0 0, .slice none 0 0, .slice none 0 0, .slice none 0 0, .slice none 0 0, .slice none 0 0, .slice none 0 0] 78))
            have Ad := Arr.new sg.w [.int .i64 0, .int .i64 0, .slice none 0 0, .int .i64 0, .slice none 0 0, .int .i64 0, .int .i64 0, .slice none 0 0, .slice none 0 0, .slice none 0 0, .slice none 0 0, .slice none 0 0, .slice none 0 0, .slice none 0 0] 78
            have Gd := (show Hid (V3.heap.size ≤ sg.w.heap.size) from (Below.step BB sg.h).size)
            have NEd := (show ∀ k, k ∈ fd → k ≠ sg.w.heap.size from fun k h e => by have h1 := (endResultC.ins Kd k h).2; have h2 := sg.h.size; omega)
            replace Kd := endResultC.stay Kd hbg
            replace BB := Below.step BB hbg
            clear hbg
            replace hne := HW.some (sg.w.alloc (.cells #[.int .i64 0, .int .i64 0, .slice none 0 0, .int .i64 0, .slice none 0 0, .int .i64 0, .int .i64 0, .slice none 0 0, .slice none 0 0, .slice none 0 0, .slice none 0 0, .slice none 0 0, .slice none 0 0, .slice none 0 0] 78))
            generalize hW : (sg.w.alloc (.cells #[.int .i64 0, .int .i64 0, .slice none 0 0, .int .i64 0, .slice none 0 0, .int .i64 0, .int .i64 0, .slice none 0 0, .slice none 0 0, .slice none 0 0, .slice none 0 0, .slice none 0 0, .slice none 0 0, .slice none 0 0] 78)) = wg2 at *
            clear hW
            generalize sg.w.heap.size = gd at *
            clear sg
            refine wpM_end (by kernel_rfl) rfl (by kernel_rfl) (by decide) ?_
            rintro _ ⟨sz, rfl⟩
            simp only [List.drop_succ_cons, List.drop_zero]
            go_simp
            replace Kd := endResultC.stay Kd sz.h
            replace Ad := Ad.stay sz.h
            replace BB := Below.step BB sz.h
            clear hne
            generalize sz.w = Ud at *
            clear sz
            revert NEd
            revert Gd
            revert Ad
            revert Kd
            revert BB
            revert gd
            revert qds
            revert pds
            revert qd8
            revert pd8
            revert qd7
            revert pd7
            revert qd6
            revert pd6
            revert qd5
            revert pd5
            revert qd4
            revert pd4
            revert qd3
            revert pd3
            revert qd2
            revert pd2
            revert qd1
            revert pd1
            revert fd
            revert Ud
            exact JN.out
          · skip
            refine mOp_make rfl (by go_simp) ?_
            rintro _ ⟨sg, rfl⟩
            refine ⟨.pointer (some ⟨sg.w.heap.size, 0, none⟩), sg.w.alloc (.cells #[.int .i64 0, .int .i64 0, .slice none 0 0, .int .i64 0, .slice none 0 0, .int .i64 0, .int .i64 0, .slice none 0 0, .slice none 0 0, .slice none 0 0, .slice none 0 0, .slice none 0 0, .slice none 0 0, .slice none 0 0] 78), by go_simp, ⟨⟨_, alloc_below _ _⟩, rfl⟩, ?_⟩
            have hbg := Below.step sg.h (alloc_below sg.w (.cells #[.int .i64 0, .int .i64 0, .slice none 0 0, .int .i64 0, .slice none 0 0, .int .i64 0, .int .i64 0, .slice none 0 0, .slice none 0 0, .slice none 0 0, .slice none 0 0, .slice none 0 0, .slice none 0 0, .slice none 0 0] 78))
            have Ad := Arr.new sg.w [.int .i64 0, .int .i64 0, .slice none 0 0, .int .i64 0, .slice none 0 0, .int .i64 0, .int .i64 0, .slice none 0 0, .slice none 0 0, .slice none 0 0, .slice none 0 0, .slice none 0 0, .slice none 0 0, .slice none 0 0] 78
            have Gd := (show Hid (V3.heap.size ≤ sg.w.heap.size) from (Below.step BB sg.h).size)
            replace BB := Below.step BB hbg
            clear hbg
            replace hne := HW.some (sg.w.alloc (.cells #[.int .i64 0, .int .i64 0, .slice none 0 0, .int .i64 0, .slice none 0 0, .int .i64 0, .int .i64 0, .slice none 0 0, .slice none 0 0, .slice none 0 0, .slice none 0 0, .slice none 0 0, .slice none 0 0, .slice none 0 0] 78))
            generalize hW : (sg.w.alloc (.cells #[.int .i64 0, .int .i64 0, .slice none 0 0, .int .i64 0, .slice none 0 0, .int .i64 0, .int .i64 0, .slice none 0 0, .slice none 0 0, .slice none 0 0, .slice none 0 0, .slice none 0 0, .slice none 0 0, .slice none 0 0] 78)) = wg3 at *
            clear hW
            generalize sg.w.heap.size = gd at *
            clear sg
            refine wpM_only (i := 6) (by kernel_rfl) ?_
            refine mOp_call rfl (by go_simp) 38 _ #[.agg #[.int .i64 B.2.1.1.1, .slice pb1 B.2.1.1.2.1.length qb1, .int .i64 B.2.1.1.2.2.1, .slice pb2 B.2.1.1.2.2.2.length qb2, .int .i64 B.2.1.2.1, .int .i64 B.2.1.2.2.1, .slice pb3 B.2.1.2.2.2.1.length qb3, .slice pb4 B.2.1.2.2.2.2.1.length qb4, .slice pb5 B.2.1.2.2.2.2.2.1.length qb5, .slice pb6 B.2.1.2.2.2.2.2.2.1.length qb6, .slice pb7 B.2.1.2.2.2.2.2.2.2.1.length qb7, .slice pb8 B.2.1.2.2.2.2.2.2.2.2.length qb8], .agg #[.int .i64 M2.1, .slice pm M2.2.length qm]] (fun w => by go_simp) rfl ?_
            rintro _ ⟨sg, rfl⟩
            refine (KHn.out _ pm qm (Below.step BB sg.h) (HRM.out.keep (Below.step BB sg.h))).mono ?_
            rintro e wg4 ⟨usd, fd, rfl, kd, hbx⟩
            obtain ⟨pd1, qd1, pd2, qd2, pd3, qd3, pd4, qd4, pd5, qd5, pd6, qd6, pd7, qd7, pd8, qd8, pds, qds, rfl, -, -, -, -, -, -, -, -, -⟩ := endResult_rep (endResultC.toRep kd)
            have hbg := Below.step sg.h hbx
            refine ⟨_, rfl, ⟨⟨wg4, hbx⟩, rfl⟩, ?_⟩
            have Kd := endResultC.low kd ((Below.step BB sg.h)).size
            have NEd := (show ∀ k, k ∈ fd → k ≠ gd from fun k h e => by have h1 := (endResultC.ins kd k h).1; have h2 := Ad.lt; have h3 := sg.h.size; omega)
            replace Ad := Ad.stay hbg
            replace BB := Below.step BB hbg
            clear hbg hbx sg kd
            replace hne := HW.some wg4
            refine wpM_end (by kernel_rfl) rfl (by kernel_rfl) (by decide) ?_
            rintro _ ⟨sz, rfl⟩
            simp only [List.drop_succ_cons, List.drop_zero]
            go_simp
            replace Ad := Ad.stay sz.h
            replace Kd := endResultC.stay Kd sz.h
            replace BB := Below.step BB sz.h
            clear hne
            generalize sz.w = Ud at *
            clear sz
            revert NEd
            revert Gd
            revert Ad
            revert Kd
            revert BB
            revert gd
            revert qds
            revert pds
            revert qd8
            revert pd8
            revert qd7
            revert pd7
            revert qd6
            revert pd6
            revert qd5
            revert pd5
            revert qd4
            revert pd4
            revert qd3
            revert pd3
            revert qd2
            revert pd2
            revert qd1
            revert pd1
            revert fd
            revert Ud
            exact JN.out
        intro Ud fd pd1 qd1 pd2 qd2 pd3 qd3 pd4 qd4 pd5 qd5 pd6 qd6 pd7 qd7 pd8 qd8 pds qds gd BB Kd Ad Gd NEd
        refine wpList_store_row rfl 78 _ _ rfl gd #[.int .i64 D.1, .int .i64 D.2.1.1.1, .slice pd1 D.2.1.1.2.1.length qd1, .int .i64 D.2.1.1.2.2.1, .slice pd2 D.2.1.1.2.2.2.length qd2, .int .i64 D.2.1.2.1, .int .i64 D.2.1.2.2.1, .slice pd3 D.2.1.2.2.2.1.length qd3, .slice pd4 D.2.1.2.2.2.2.1.length qd4, .slice pd5 D.2.1.2.2.2.2.2.1.length qd5, .slice pd6 D.2.1.2.2.2.2.2.2.1.length qd6, .slice pd7 D.2.1.2.2.2.2.2.2.2.1.length qd7, .slice pd8 D.2.1.2.2.2.2.2.2.2.2.length qd8, .slice pds D.2.2.length qds] rfl rfl 78 #[.int .i64 0, .int .i64 0, .slice none 0 0, .int .i64 0, .slice none 0 0, .int .i64 0, .int .i64 0, .slice none 0 0, .slice none 0 0, .slice none 0 0, .slice none 0 0, .slice none 0 0, .slice none 0 0, .slice none 0 0] Ad hresE.out rfl (by simp [Value.oneCell']) ?_
        have hbd : Below V3.heap.size V3 (Ud.setRow gd #[.int .i64 D.1, .int .i64 D.2.1.1.1, .slice pd1 D.2.1.1.2.1.length qd1, .int .i64 D.2.1.1.2.2.1, .slice pd2 D.2.1.1.2.2.2.length qd2, .int .i64 D.2.1.2.1, .int .i64 D.2.1.2.2.1, .slice pd3 D.2.1.2.2.2.1.length qd3, .slice pd4 D.2.1.2.2.2.2.1.length qd4, .slice pd5 D.2.1.2.2.2.2.2.1.length qd5, .slice pd6 D.2.1.2.2.2.2.2.2.1.length qd6, .slice pd7 D.2.1.2.2.2.2.2.2.2.1.length qd7, .slice pd8 D.2.1.2.2.2.2.2.2.2.2.length qd8, .slice pds D.2.2.length qds]) := Below.row BB Gd.out _
        have Nd := Ad.row [.int .i64 D.1, .int .i64 D.2.1.1.1, .slice pd1 D.2.1.1.2.1.length qd1, .int .i64 D.2.1.1.2.2.1, .slice pd2 D.2.1.1.2.2.2.length qd2, .int .i64 D.2.1.2.1, .int .i64 D.2.1.2.2.1, .slice pd3 D.2.1.2.2.2.1.length qd3, .slice pd4 D.2.1.2.2.2.2.1.length qd4, .slice pd5 D.2.1.2.2.2.2.2.1.length qd5, .slice pd6 D.2.1.2.2.2.2.2.2.1.length qd6, .slice pd7 D.2.1.2.2.2.2.2.2.2.1.length qd7, .slice pd8 D.2.1.2.2.2.2.2.2.2.2.length qd8, .slice pds D.2.2.length qds]
        replace Kd := endResultC.row Kd NEd #[.int .i64 D.1, .int .i64 D.2.1.1.1, .slice pd1 D.2.1.1.2.1.length qd1, .int .i64 D.2.1.1.2.2.1, .slice pd2 D.2.1.1.2.2.2.length qd2, .int .i64 D.2.1.2.1, .int .i64 D.2.1.2.2.1, .slice pd3 D.2.1.2.2.2.1.length qd3, .slice pd4 D.2.1.2.2.2.2.1.length qd4, .slice pd5 D.2.1.2.2.2.2.2.1.length qd5, .slice pd6 D.2.1.2.2.2.2.2.2.1.length qd6, .slice pd7 D.2.1.2.2.2.2.2.2.2.1.length qd7, .slice pd8 D.2.1.2.2.2.2.2.2.2.2.length qd8, .slice pds D.2.2.length qds]
        clear BB Ad NEd Gd
        generalize Ud.setRow gd #[.int .i64 D.1, .int .i64 D.2.1.1.1, .slice pd1 D.2.1.1.2.1.length qd1, .int .i64 D.2.1.1.2.2.1, .slice pd2 D.2.1.1.2.2.2.length qd2, .int .i64 D.2.1.2.1, .int .i64 D.2.1.2.2.1, .slice pd3 D.2.1.2.2.2.1.length qd3, .slice pd4 D.2.1.2.2.2.2.1.length qd4, .slice pd5 D.2.1.2.2.2.2.2.1.length qd5, .slice pd6 D.2.1.2.2.2.2.2.2.1.length qd6, .slice pd7 D.2.1.2.2.2.2.2.2.2.1.length qd7, .slice pd8 D.2.1.2.2.2.2.2.2.2.2.length qd8, .slice pds D.2.2.length qds] = V4 at *
        go_simp
        have HDI : Hid (∀ k, k ∈ fd → V3.heap.size ≤ k) := fun k hk => (endResultC.ins Kd k hk).1
        replace Kd := endResultC.low Kd BW.size
        replace R := R.stay hbd
        replace Nc := Nc.stay hbd
        replace Kc := endResultC.stay Kc hbd
        replace BW := Below.step BW hbd
        clear hbd
        clear m0 m1 hln hq1 hq2 KHn HRM Nb Kb HBE
        have cd := (Nd.cell 0).trans (show _ = some _ from rfl)
        by_cases hD : D.1 = 0
        · have dD : (D.1 != 0) = false := by rw [bne_eq_false_iff_eq]; exact hD
          have HP : Hid (paD x y = (0, C.2.1, D.2.1)) := by
            show _ = _
            rw [paD, ← HA.out, if_pos HA0.out, ← HM.out, paD2, ← HB.out, if_pos HB0.out, ← HC.out, paD3, if_pos HC0.out, ← HM2.out, ← HD.out, if_pos hD]
          clear hD
          obtain ⟨fce, fcd, KCe, -, hce⟩ := endR_parts (us := [.int .i64 C.2.1.1.1, .slice pc1 C.2.1.1.2.1.length qc1, .int .i64 C.2.1.1.2.2.1, .slice pc2 C.2.1.1.2.2.2.length qc2, .int .i64 C.2.1.2.1, .int .i64 C.2.1.2.2.1, .slice pc3 C.2.1.2.2.2.1.length qc3, .slice pc4 C.2.1.2.2.2.2.1.length qc4, .slice pc5 C.2.1.2.2.2.2.2.1.length qc5, .slice pc6 C.2.1.2.2.2.2.2.2.1.length qc6, .slice pc7 C.2.1.2.2.2.2.2.2.2.1.length qc7, .slice pc8 C.2.1.2.2.2.2.2.2.2.2.length qc8]) Kc rfl
          obtain ⟨fde, fdd, KDe, -, hde⟩ := endR_parts (us := [.int .i64 D.2.1.1.1, .slice pd1 D.2.1.1.2.1.length qd1, .int .i64 D.2.1.1.2.2.1, .slice pd2 D.2.1.1.2.2.2.length qd2, .int .i64 D.2.1.2.1, .int .i64 D.2.1.2.2.1, .slice pd3 D.2.1.2.2.2.1.length qd3, .slice pd4 D.2.1.2.2.2.2.1.length qd4, .slice pd5 D.2.1.2.2.2.2.2.1.length qd5, .slice pd6 D.2.1.2.2.2.2.2.2.1.length qd6, .slice pd7 D.2.1.2.2.2.2.2.2.2.1.length qd7, .slice pd8 D.2.1.2.2.2.2.2.2.2.2.length qd8]) Kd rfl
          
          have a1 := (Nc.cell 1).trans (show _ = some _ from rfl)
          have a2 := (Nc.cell 2).trans (show _ = some _ from rfl)
          have a3 := (Nc.cell 3).trans (show _ = some _ from rfl)
          have a4 := (Nc.cell 4).trans (show _ = some _ from rfl)
          have a5 := (Nc.cell 5).trans (show _ = some _ from rfl)
          have a6 := (Nc.cell 6).trans (show _ = some _ from rfl)
          have a7 := (Nc.cell 7).trans (show _ = some _ from rfl)
          have a8 := (Nc.cell 8).trans (show _ = some _ from rfl)
          have a9 := (Nc.cell 9).trans (show _ = some _ from rfl)
          have a10 := (Nc.cell 10).trans (show _ = some _ from rfl)
          have a11 := (Nc.cell 11).trans (show _ = some _ from rfl)
          have a12 := (Nc.cell 12).trans (show _ = some _ from rfl)
          have b1 := (Nd.cell 1).trans (show _ = some _ from rfl)
          have b2 := (Nd.cell 2).trans (show _ = some _ from rfl)
          have b3 := (Nd.cell 3).trans (show _ = some _ from rfl)
          have b4 := (Nd.cell 4).trans (show _ = some _ from rfl)
          have b5 := (Nd.cell 5).trans (show _ = some _ from rfl)
          have b6 := (Nd.cell 6).trans (show _ = some _ from rfl)
          have b7 := (Nd.cell 7).trans (show _ = some _ from rfl)
          have b8 := (Nd.cell 8).trans (show _ = some _ from rfl)
          have b9 := (Nd.cell 9).trans (show _ = some _ from rfl)
          have b10 := (Nd.cell 10).trans (show _ = some _ from rfl)
          have b11 := (Nd.cell 11).trans (show _ = some _ from rfl)
          have b12 := (Nd.cell 12).trans (show _ = some _ from rfl)
          go_wp2_with (refine wpList_store_row rfl 33 _ _ rfl (w.heap.size + 1 + 1) #[.int .i64 0, .int .i64 C.2.1.1.1, .slice pc1 C.2.1.1.2.1.length qc1, .int .i64 C.2.1.1.2.2.1, .slice pc2 C.2.1.1.2.2.2.length qc2, .int .i64 C.2.1.2.1, .int .i64 C.2.1.2.2.1, .slice pc3 C.2.1.2.2.2.1.length qc3, .slice pc4 C.2.1.2.2.2.2.1.length qc4, .slice pc5 C.2.1.2.2.2.2.2.1.length qc5, .slice pc6 C.2.1.2.2.2.2.2.2.1.length qc6, .slice pc7 C.2.1.2.2.2.2.2.2.2.1.length qc7, .slice pc8 C.2.1.2.2.2.2.2.2.2.2.length qc8, .int .i64 D.2.1.1.1, .slice pd1 D.2.1.1.2.1.length qd1, .int .i64 D.2.1.1.2.2.1, .slice pd2 D.2.1.1.2.2.2.length qd2, .int .i64 D.2.1.2.1, .int .i64 D.2.1.2.2.1, .slice pd3 D.2.1.2.2.2.1.length qd3, .slice pd4 D.2.1.2.2.2.2.1.length qd4, .slice pd5 D.2.1.2.2.2.2.2.1.length qd5, .slice pd6 D.2.1.2.2.2.2.2.2.1.length qd6, .slice pd7 D.2.1.2.2.2.2.2.2.2.1.length qd7, .slice pd8 D.2.1.2.2.2.2.2.2.2.2.length qd8] rfl rfl 33 #[.int .i64 0, .int .i64 0, .slice none 0 0, .int .i64 0, .slice none 0 0, .int .i64 0, .int .i64 0, .slice none 0 0, .slice none 0 0, .slice none 0 0, .slice none 0 0, .slice none 0 0, .slice none 0 0, .int .i64 0, .slice none 0 0, .int .i64 0, .slice none 0 0, .int .i64 0, .int .i64 0, .slice none 0 0, .slice none 0 0, .slice none 0 0, .slice none 0 0, .slice none 0 0, .slice none 0 0] R hres.out rfl (by simp [Value.oneCell']) ?_)
          have HRl : w.heap.size + 1 + 1 < V3.heap.size := HR3.out
          exact bodyPost_ret (v := .agg #[.int .i64 0, .int .i64 C.2.1.1.1, .slice pc1 C.2.1.1.2.1.length qc1, .int .i64 C.2.1.1.2.2.1, .slice pc2 C.2.1.1.2.2.2.length qc2, .int .i64 C.2.1.2.1, .int .i64 C.2.1.2.2.1, .slice pc3 C.2.1.2.2.2.1.length qc3, .slice pc4 C.2.1.2.2.2.2.1.length qc4, .slice pc5 C.2.1.2.2.2.2.2.1.length qc5, .slice pc6 C.2.1.2.2.2.2.2.2.1.length qc6, .slice pc7 C.2.1.2.2.2.2.2.2.2.1.length qc7, .slice pc8 C.2.1.2.2.2.2.2.2.2.2.length qc8, .int .i64 D.2.1.1.1, .slice pd1 D.2.1.1.2.1.length qd1, .int .i64 D.2.1.1.2.2.1, .slice pd2 D.2.1.1.2.2.2.length qd2, .int .i64 D.2.1.2.1, .int .i64 D.2.1.2.2.1, .slice pd3 D.2.1.2.2.2.1.length qd3, .slice pd4 D.2.1.2.2.2.2.1.length qd4, .slice pd5 D.2.1.2.2.2.2.2.1.length qd5, .slice pd6 D.2.1.2.2.2.2.2.2.1.length qd6, .slice pd7 D.2.1.2.2.2.2.2.2.2.1.length qd7, .slice pd8 D.2.1.2.2.2.2.2.2.2.2.length qd8]) (results_cell_row Tryz.results9 _ _ (w.heap.size + 1 + 1) 33 _ (0, 0) _ rfl (R.row [.int .i64 0, .int .i64 C.2.1.1.1, .slice pc1 C.2.1.1.2.1.length qc1, .int .i64 C.2.1.1.2.2.1, .slice pc2 C.2.1.1.2.2.2.length qc2, .int .i64 C.2.1.2.1, .int .i64 C.2.1.2.2.1, .slice pc3 C.2.1.2.2.2.1.length qc3, .slice pc4 C.2.1.2.2.2.2.1.length qc4, .slice pc5 C.2.1.2.2.2.2.2.1.length qc5, .slice pc6 C.2.1.2.2.2.2.2.2.1.length qc6, .slice pc7 C.2.1.2.2.2.2.2.2.2.1.length qc7, .slice pc8 C.2.1.2.2.2.2.2.2.2.2.length qc8, .int .i64 D.2.1.1.1, .slice pd1 D.2.1.1.2.1.length qd1, .int .i64 D.2.1.1.2.2.1, .slice pd2 D.2.1.1.2.2.2.length qd2, .int .i64 D.2.1.2.1, .int .i64 D.2.1.2.2.1, .slice pd3 D.2.1.2.2.2.1.length qd3, .slice pd4 D.2.1.2.2.2.2.1.length qd4, .slice pd5 D.2.1.2.2.2.2.2.1.length qd5, .slice pd6 D.2.1.2.2.2.2.2.2.1.length qd6, .slice pd7 D.2.1.2.2.2.2.2.2.2.1.length qd7, .slice pd8 D.2.1.2.2.2.2.2.2.2.2.length qd8]) Tryz.underlying33 rfl hres.out) rfl (HQ.out _ _ ⟨[.int .i64 0, .int .i64 C.2.1.1.1, .slice pc1 C.2.1.1.2.1.length qc1, .int .i64 C.2.1.1.2.2.1, .slice pc2 C.2.1.1.2.2.2.length qc2, .int .i64 C.2.1.2.1, .int .i64 C.2.1.2.2.1, .slice pc3 C.2.1.2.2.2.1.length qc3, .slice pc4 C.2.1.2.2.2.2.1.length qc4, .slice pc5 C.2.1.2.2.2.2.2.1.length qc5, .slice pc6 C.2.1.2.2.2.2.2.2.1.length qc6, .slice pc7 C.2.1.2.2.2.2.2.2.2.1.length qc7, .slice pc8 C.2.1.2.2.2.2.2.2.2.2.length qc8, .int .i64 D.2.1.1.1, .slice pd1 D.2.1.1.2.1.length qd1, .int .i64 D.2.1.1.2.2.1, .slice pd2 D.2.1.1.2.2.2.length qd2, .int .i64 D.2.1.2.1, .int .i64 D.2.1.2.2.1, .slice pd3 D.2.1.2.2.2.1.length qd3, .slice pd4 D.2.1.2.2.2.2.1.length qd4, .slice pd5 D.2.1.2.2.2.2.2.1.length qd5, .slice pd6 D.2.1.2.2.2.2.2.2.1.length qd6, .slice pd7 D.2.1.2.2.2.2.2.2.2.1.length qd7, .slice pd8 D.2.1.2.2.2.2.2.2.2.2.length qd8], _, rfl, by rw [HP.out]; exact pairR_of (r := (0, C.2.1, D.2.1)) (us := [.int .i64 C.2.1.1.1, .slice pc1 C.2.1.1.2.1.length qc1, .int .i64 C.2.1.1.2.2.1, .slice pc2 C.2.1.1.2.2.2.length qc2, .int .i64 C.2.1.2.1, .int .i64 C.2.1.2.2.1, .slice pc3 C.2.1.2.2.2.1.length qc3, .slice pc4 C.2.1.2.2.2.2.1.length qc4, .slice pc5 C.2.1.2.2.2.2.2.1.length qc5, .slice pc6 C.2.1.2.2.2.2.2.2.1.length qc6, .slice pc7 C.2.1.2.2.2.2.2.2.2.1.length qc7, .slice pc8 C.2.1.2.2.2.2.2.2.2.2.length qc8]) (endC.row KCe (fun k hk => by have := HCR.out k (hce k hk); omega) _) (endC.row KDe (fun k hk => by have := HDI.out k (hde k hk); omega) _) (fun k h1 h2 => by have := HCI.out k (hce k h1); have := HDI.out k (hde k h2); omega), Below.row BW (by omega) _⟩)
        · have dD : (D.1 != 0) = true := by rw [bne_iff_ne]; exact hD
          have HP : Hid (paD x y = badP D.1) := by
            show _ = _
            rw [paD, ← HA.out, if_pos HA0.out, ← HM.out, paD2, ← HB.out, if_pos HB0.out, ← HC.out, paD3, if_pos HC0.out, ← HM2.out, ← HD.out, if_neg hD]
          clear hD
          go_wp2_with (refine wpList_store_row rfl 33 _ _ rfl (w.heap.size + 1 + 1) #[.int .i64 D.1, .int .i64 0, .slice none 0 0, .int .i64 0, .slice none 0 0, .int .i64 0, .int .i64 0, .slice none 0 0, .slice none 0 0, .slice none 0 0, .slice none 0 0, .slice none 0 0, .slice none 0 0, .int .i64 0, .slice none 0 0, .int .i64 0, .slice none 0 0, .int .i64 0, .int .i64 0, .slice none 0 0, .slice none 0 0, .slice none 0 0, .slice none 0 0, .slice none 0 0, .slice none 0 0] rfl rfl 33 #[.int .i64 0, .int .i64 0, .slice none 0 0, .int .i64 0, .slice none 0 0, .int .i64 0, .int .i64 0, .slice none 0 0, .slice none 0 0, .slice none 0 0, .slice none 0 0, .slice none 0 0, .slice none 0 0, .int .i64 0, .slice none 0 0, .int .i64 0, .slice none 0 0, .int .i64 0, .int .i64 0, .slice none 0 0, .slice none 0 0, .slice none 0 0, .slice none 0 0, .slice none 0 0, .slice none 0 0] R hres.out rfl (by simp [Value.oneCell']) ?_)
          exact bodyPost_ret (v := .agg #[.int .i64 D.1, .int .i64 0, .slice none 0 0, .int .i64 0, .slice none 0 0, .int .i64 0, .int .i64 0, .slice none 0 0, .slice none 0 0, .slice none 0 0, .slice none 0 0, .slice none 0 0, .slice none 0 0, .int .i64 0, .slice none 0 0, .int .i64 0, .slice none 0 0, .int .i64 0, .int .i64 0, .slice none 0 0, .slice none 0 0, .slice none 0 0, .slice none 0 0, .slice none 0 0, .slice none 0 0]) (results_cell_row Tryz.results9 _ _ (w.heap.size + 1 + 1) 33 _ (0, 0) _ rfl (R.row [.int .i64 D.1, .int .i64 0, .slice none 0 0, .int .i64 0, .slice none 0 0, .int .i64 0, .int .i64 0, .slice none 0 0, .slice none 0 0, .slice none 0 0, .slice none 0 0, .slice none 0 0, .slice none 0 0, .int .i64 0, .slice none 0 0, .int .i64 0, .slice none 0 0, .int .i64 0, .int .i64 0, .slice none 0 0, .slice none 0 0, .slice none 0 0, .slice none 0 0, .slice none 0 0, .slice none 0 0]) Tryz.underlying33 rfl hres.out) rfl (HQ.out _ _ ⟨[.int .i64 D.1, .int .i64 0, .slice none 0 0, .int .i64 0, .slice none 0 0, .int .i64 0, .int .i64 0, .slice none 0 0, .slice none 0 0, .slice none 0 0, .slice none 0 0, .slice none 0 0, .slice none 0 0, .int .i64 0, .slice none 0 0, .int .i64 0, .slice none 0 0, .int .i64 0, .int .i64 0, .slice none 0 0, .slice none 0 0, .slice none 0 0, .slice none 0 0, .slice none 0 0, .slice none 0 0], _, rfl, by rw [HP.out]; exact badP_own _ _ _, Below.row BW (by omega) _⟩)
      · have dC : (C.1 != 0) = true := by rw [bne_iff_ne]; exact hC
        have HP : Hid (paD x y = badP C.1) := by
          show _ = _
          rw [paD, ← HA.out, if_pos HA0.out, ← HM.out, paD2, ← HB.out, if_pos HB0.out, ← HC.out, paD3, if_neg hC]
        clear hC
        go_wp2_with (refine wpList_store_row rfl 33 _ _ rfl (w.heap.size + 1 + 1) #[.int .i64 C.1, .int .i64 0, .slice none 0 0, .int .i64 0, .slice none 0 0, .int .i64 0, .int .i64 0, .slice none 0 0, .slice none 0 0, .slice none 0 0, .slice none 0 0, .slice none 0 0, .slice none 0 0, .int .i64 0, .slice none 0 0, .int .i64 0, .slice none 0 0, .int .i64 0, .int .i64 0, .slice none 0 0, .slice none 0 0, .slice none 0 0, .slice none 0 0, .slice none 0 0, .slice none 0 0] rfl rfl 33 #[.int .i64 0, .int .i64 0, .slice none 0 0, .int .i64 0, .slice none 0 0, .int .i64 0, .int .i64 0, .slice none 0 0, .slice none 0 0, .slice none 0 0, .slice none 0 0, .slice none 0 0, .slice none 0 0, .int .i64 0, .slice none 0 0, .int .i64 0, .slice none 0 0, .int .i64 0, .int .i64 0, .slice none 0 0, .slice none 0 0, .slice none 0 0, .slice none 0 0, .slice none 0 0, .slice none 0 0] R hres.out rfl (by simp [Value.oneCell']) ?_)
        exact bodyPost_ret (v := .agg #[.int .i64 C.1, .int .i64 0, .slice none 0 0, .int .i64 0, .slice none 0 0, .int .i64 0, .int .i64 0, .slice none 0 0, .slice none 0 0, .slice none 0 0, .slice none 0 0, .slice none 0 0, .slice none 0 0, .int .i64 0, .slice none 0 0, .int .i64 0, .slice none 0 0, .int .i64 0, .int .i64 0, .slice none 0 0, .slice none 0 0, .slice none 0 0, .slice none 0 0, .slice none 0 0, .slice none 0 0]) (results_cell_row Tryz.results9 _ _ (w.heap.size + 1 + 1) 33 _ (0, 0) _ rfl (R.row [.int .i64 C.1, .int .i64 0, .slice none 0 0, .int .i64 0, .slice none 0 0, .int .i64 0, .int .i64 0, .slice none 0 0, .slice none 0 0, .slice none 0 0, .slice none 0 0, .slice none 0 0, .slice none 0 0, .int .i64 0, .slice none 0 0, .int .i64 0, .slice none 0 0, .int .i64 0, .int .i64 0, .slice none 0 0, .slice none 0 0, .slice none 0 0, .slice none 0 0, .slice none 0 0, .slice none 0 0]) Tryz.underlying33 rfl hres.out) rfl (HQ.out _ _ ⟨[.int .i64 C.1, .int .i64 0, .slice none 0 0, .int .i64 0, .slice none 0 0, .int .i64 0, .int .i64 0, .slice none 0 0, .slice none 0 0, .slice none 0 0, .slice none 0 0, .slice none 0 0, .slice none 0 0, .int .i64 0, .slice none 0 0, .int .i64 0, .slice none 0 0, .int .i64 0, .int .i64 0, .slice none 0 0, .slice none 0 0, .slice none 0 0, .slice none 0 0, .slice none 0 0, .slice none 0 0], _, rfl, by rw [HP.out]; exact badP_own _ _ _, Below.row BW (by omega) _⟩)
end Go.Proofs.YtdbpnibcblelbaaGreatDoor
