/- The walk of FnKeeps, where the two tables and the library's handle are as the program's text lays them (written by tools/walk_keeps.py). -/
import Derived.Test.YtdbpnibcblelbaaGreatDoorPairI
import Derived.Test.YtdbpnibcblelbaaGreatDoorJoint28
import Derived.Test.YtdbpnibcblelbaaGreatDoorJoint34
import Derived.Test.YtdbpnibcblelbaaGreatDoorJoint31
import Derived.Test.YtdbpnibcblelbaaGreatDoorJoint35
import Derived.Test.YtdbpnibcblelbaaGreatDoorJoint36
import Derived.Test.YtdbpnibcblelbaaGreatDoorJoint9
import Derived.Test.YtdbpnibcblelbaaGreatDoorJoint8
import Derived.Test.YtdbpnibcblelbaaGreatDoorJoint6
import Derived.Test.YtdbpnibcblelbaaGreatDoorJoint1
import Derived.Test.YtdbpnibcblelbaaGreatDoorJoint7
namespace Go.Proofs.YtdbpnibcblelbaaGreatDoor
open Go.ChangeShapes Go.WideShapes Go.ChangeAt Go.RowKit
theorem side_ok {s : Int} {r : List UInt8} (h1 : 1 ≤ s) (h2 : s ≤ 65519) (hl : r.length = 8) : sfC ((s, r, 0, []) : SideD) = 0 := by
  show (if inB s 1 65519 && inB 0 0 9 then (if r.length = 8 ∧ ([] : List UInt8).length = keyW 0 then (0 : Int) else 1) else 3) = 0
  rw [inB_true h1 h2]
  show (if r.length = 8 ∧ ([] : List UInt8).length = keyW 0 then (0 : Int) else 1) = 0
  rw [if_pos ⟨hl, rfl⟩]
theorem srC_ok {s pl : List UInt8} {kind pad : Int} (hs : s.length = 32) (hk : kindB kind = true) (h1 : 0 ≤ pad) (h2 : pad ≤ 16) (hp : pl.length ≤ 200) : srC (s, 0, 0) kind pl pad = 0 := by
  have ha : askC (s, 0, 0) = 0 := by
    show (if (if is32 s then (if inB 0 0 200 && inB 0 0 99 then (0 : Int) else 3) else 1) = 0 then (if (200 : Int) ≤ 0 then (10 : Int) else 0) else _) = 0
    rw [show is32 s = true by simp [is32, hs]]
    rfl
  unfold srC
  rw [if_pos ha, hk, inB_true h1 h2]
  show (if pl.length ≤ 200 then (0 : Int) else 2) = 0
  rw [if_pos hp]
def KeepsR (w : World) (s1 s2 s3 : List UInt8) (p1 p2 p3 p4 p5 p6 : Option Addr) (q1 q2 q3 q4 q5 q6 : Nat) (us : List Value) : Prop :=
  us.length = 25 ∧ (∀ u ∈ us, u.oneCell' = true) ∧ us[0]? = some (.int .i64 0) ∧ us[9]? = some (.slice p1 s1.length q1) ∧ us[10]? = some (.slice p2 s2.length q2) ∧ us[11]? = some (.slice p3 s3.length q3) ∧ us[21]? = some (.slice p4 s1.length q4) ∧ us[22]? = some (.slice p5 s2.length q5) ∧ us[23]? = some (.slice p6 s3.length q6) ∧ Rd w p1 q1 s1 ∧ Rd w p2 q2 s2 ∧ Rd w p3 q3 s3 ∧ Rd w p4 q4 s1 ∧ Rd w p5 q5 s2 ∧ Rd w p6 q6 s3 ∧ s1.length = 32 ∧ s2.length = 32 ∧ s3.length = 32
theorem keepsPa_c (x y : SideD) (us vs : List Value) (w : World) (hx : sfC x = 0) (hy : sfC y = 0) (hk : x.2.2.2 = y.2.2.2) (h1 : sideC.rep w x us) (h2 : sideC.rep w y vs) (hT : Tabs w) :
    Calls Tryz.prog 9 #[.agg us.toArray, .agg vs.toArray] w fun e w' => ∃ s1 s2 s3 p1 p2 p3 p4 p5 p6 q1 q2 q3 q4 q5 q6 usp, e = .returned (.agg usp.toArray) ∧ KeepsR w' s1 s2 s3 p1 p2 p3 p4 p5 p6 q1 q2 q3 q4 q5 q6 usp ∧ Below w.heap.size w w' := by
  obtain ⟨l, base, hp, -, -⟩ := paD_good hx hy (fun _ => hk)
  have h := implPa_k x y us vs w h1 h2 hT
  rw [hp] at h
  refine h.mono ?_
  rintro e w' ⟨usp, fp, rfl, ko, hb⟩
  have hr := pairResultC.toRep ko
  have hl := pairResultC.len hr
  have ho := pairResultC.one hr
  obtain ⟨_, _, _, _, _, _, _, _, c1, d1, c2, d2, c3, d3, _, _, _, _, _, _, _, _, _, _, c4, d4, c5, d5, c6, d6, _, _, eU, -, -, -, -, r1, r2, r3, -, -, -, -, -, r4, r5, r6, -⟩ := pairResult_rep hr
  refine ⟨_, _, _, c1, c2, c3, c4, c5, c6, d1, d2, d3, d4, d5, d6, usp, rfl, ⟨hl, ho, ?_, ?_, ?_, ?_, ?_, ?_, ?_, r1, r2, r3, r4, r5, r6, trafN_len _ _ _, trafN_len _ _ _, trafN_len _ _ _⟩, hb⟩ <;> (rw [eU]; rfl)
set_option maxRecDepth 4000 in
set_option maxHeartbeats 8000000 in
theorem fnKeeps_walk (a : Option Addr) (cap : Nat) (bs0 : List UInt8) (w : World) (r0 : Rd w a cap bs0) (hT : Tabs w) (hH : Hnd w) :
    Calls Tryz.prog 3 #[.slice a bs0.length cap] w fun e w' => e = .returned (.bool true) ∧ Below w.heap.size w w' := by
  by_cases hl0 : 1048576 < bs0.length
  · go_enter Tryz.func3, Tryz.ntmps3
    go_wp2_with fail
    refine (lwBig_yes _ _ _ _ hl0).mono ?_
    rintro e w1 ⟨rfl, rfl⟩
    go_wp2
    go_ret
    exact ⟨rfl, Below.refl _ _⟩
  replace hl0 : bs0.length ≤ 1048576 := by omega
  obtain ⟨i0, hi, hz0, hz1, hz2⟩ := info_parts info8
  have HR0 : Hid (Rd w a cap bs0) := r0
  have HL0 : Hid (bs0.length ≤ 1048576) := hl0
  have HT : Hid (Tabs w) := hT
  have HH : Hid (Hnd w) := hH
  clear r0 hT hH hl0
  go_enter Tryz.func3, Tryz.ntmps3
  go_wp2_with fail
  refine (lwBig_no _ _ _ _ HL0.out).mono ?_
  rintro e w1 ⟨rfl, hw1⟩
  rw [hw1]
  clear hw1 w1
  have BW := Below.refl w.heap.size w
  go_wp2_with fail
  skip
  have hresS : Hid ((Tryz.prog.info? 26).map (·.size) = some 4) := by show _ = _; kernel_rfl
  apply share
  case h =>
    intro JN
    have BB := Below.refl w.heap.size w
    have hne := HW.some w
    refine wp_region_pick [0] 6 5 1 rfl rfl rfl (by kernel_rfl) (by kernel_rfl) (by kernel_rfl) (by kernel_rfl) ?_
    simp only [opsAt, List.getElem?_toArray, List.getElem?_cons_zero]
    repeat (go_big_quiet_step (fail))
    refine wpQuiet_nil ?_
    refine wpM_three (i := 1) (j := 3) (k := 5) (by kernel_rfl) ?_ ?_ ?_
    · skip
      refine mOp_call rfl (by go_simp) 8 _ #[.slice a bs0.length cap, .int .i64 0, .int .i64 60000] (fun w => by go_simp) rfl ?_
      rintro _ ⟨sg, rfl⟩
      refine (lwAt_c a cap bs0 0 60000 _ ((HR0.out.keep BW).keep (Below.step BB sg.h)) HL0.out (by decide) (by decide)).mono ?_
      rintro e wg1 ⟨ma, rfl, hma, hbx⟩
      have hbg := Below.step sg.h hbx
      refine ⟨_, rfl, ⟨⟨wg1, hbx⟩, rfl⟩, ?_⟩
      have BMa := (show (ma : Int) ≤ 60000 by rcases hma with h | h <;> omega)
      replace BB := Below.step BB hbg
      clear hbg hbx sg hma
      replace hne := HW.some wg1
      refine wpM_more [2] 4 3 rfl (by kernel_rfl) (by kernel_rfl) (by kernel_rfl) (by kernel_rfl) ?_
      simp only [opsAt, List.getElem?_toArray, List.getElem?_cons_zero, List.getElem?_cons_succ]
      go_simp
      repeat (go_big_quiet_step (fail))
      refine wpQuiet_nil ?_
      refine wpM_two (i := 3) (j := 5) (by kernel_rfl) ?_ ?_
      · skip
        refine mOp_mk rfl (by go_simp) (by kernel_rfl) ?_
        rintro _ ⟨sg, rfl⟩
        refine wpList_make_full _ rfl (.const (.int .i64 8)) (.const (.int .i64 8)) 22 rfl sg.w.heap.size 5 i0 (.int .u8 0) 1 Tryz.underlying22 hi hz0 hz1 .i64 .i64 _ _ 8 rfl rfl rfl rfl (by rw [hz2]; decide) (by unfold maxLen; decide) (Nat.le_refl _) ?_
        intro wg2 hown hgrow
        have hbx : Below sg.w.heap.size sg.w wg2 := (Below.refl _ _).grown hgrow (Nat.le_refl _) (fun k hk => by simp at hk)
        replace hown := made_zeros hown
        refine wpList_nil_of ⟨rfl, hbx, ?_⟩
        have hbg := Below.step sg.h hbx
        have ORa := (hown.lower (Below.step BB sg.h).size : Own _ w.heap.size _ _)
        replace BB := Below.step BB hbg
        clear hbg hbx hown hgrow
        replace hne := HW.some wg2
        generalize sg.w.heap.size = gra at *
        clear sg
        refine wpM_more [4] 2 1 rfl (by kernel_rfl) (by kernel_rfl) (by kernel_rfl) (by kernel_rfl) ?_
        simp only [opsAt, List.getElem?_toArray, List.getElem?_cons_zero, List.getElem?_cons_succ]
        go_simp
        repeat (go_big_quiet_step (fail))
        refine wpQuiet_nil ?_
        refine wpM_only (i := 5) (by kernel_rfl) ?_
        refine mOp_make rfl (by go_simp) ?_
        rintro _ ⟨sg, rfl⟩
        refine ⟨.pointer (some ⟨sg.w.heap.size, 0, none⟩), sg.w.alloc (.cells #[.int .i64 0, .slice none 0 0, .int .i64 0, .slice none 0 0] 26), by go_simp, ⟨⟨_, alloc_below _ _⟩, rfl⟩, ?_⟩
        have hbg := Below.step sg.h (alloc_below sg.w (.cells #[.int .i64 0, .slice none 0 0, .int .i64 0, .slice none 0 0] 26))
        have AZa := Arr.new sg.w [.int .i64 0, .slice none 0 0, .int .i64 0, .slice none 0 0] 26
        have GZa := (show Hid (w.heap.size ≤ sg.w.heap.size) from (Below.step BB sg.h).size)
        have NEa := (show gra ≠ sg.w.heap.size from fun h => by have h1 := ORa.lt gra rfl; have h2 := sg.h.size; omega)
        replace ORa := ORa.stay hbg
        replace BB := Below.step BB hbg
        clear hbg
        replace hne := HW.some (sg.w.alloc (.cells #[.int .i64 0, .slice none 0 0, .int .i64 0, .slice none 0 0] 26))
        generalize hW : (sg.w.alloc (.cells #[.int .i64 0, .slice none 0 0, .int .i64 0, .slice none 0 0] 26)) = wg3 at *
        clear hW
        generalize sg.w.heap.size = gza at *
        clear sg
        refine wpM_end (by kernel_rfl) rfl (by kernel_rfl) (by decide) ?_
        rintro _ ⟨sz, rfl⟩
        simp only [List.drop_succ_cons, List.drop_zero]
        go_simp
        replace ORa := ORa.stay sz.h
        replace AZa := AZa.stay sz.h
        replace BB := Below.step BB sz.h
        clear hne
        generalize sz.w = Ua at *
        clear sz
        revert NEa
        revert GZa
        revert AZa
        revert ORa
        revert BMa
        revert BB
        revert gza
        revert gra
        revert ma
        revert Ua
        exact JN.out
      · skip
        refine mOp_make rfl (by go_simp) ?_
        rintro _ ⟨sg, rfl⟩
        refine ⟨.pointer (some ⟨sg.w.heap.size, 0, none⟩), sg.w.alloc (.cells #[.int .i64 0, .slice none 0 0, .int .i64 0, .slice none 0 0] 26), by go_simp, ⟨⟨_, alloc_below _ _⟩, rfl⟩, ?_⟩
        have hbg := Below.step sg.h (alloc_below sg.w (.cells #[.int .i64 0, .slice none 0 0, .int .i64 0, .slice none 0 0] 26))
        have AZa := Arr.new sg.w [.int .i64 0, .slice none 0 0, .int .i64 0, .slice none 0 0] 26
        have GZa := (show Hid (w.heap.size ≤ sg.w.heap.size) from (Below.step BB sg.h).size)
        replace BB := Below.step BB hbg
        clear hbg
        replace hne := HW.some (sg.w.alloc (.cells #[.int .i64 0, .slice none 0 0, .int .i64 0, .slice none 0 0] 26))
        generalize hW : (sg.w.alloc (.cells #[.int .i64 0, .slice none 0 0, .int .i64 0, .slice none 0 0] 26)) = wg4 at *
        clear hW
        generalize sg.w.heap.size = gza at *
        clear sg
        refine wpM_only (i := 3) (by kernel_rfl) ?_
        refine mOp_mk rfl (by go_simp) (by kernel_rfl) ?_
        rintro _ ⟨sg, rfl⟩
        refine wpList_make_full _ rfl (.const (.int .i64 8)) (.const (.int .i64 8)) 22 rfl sg.w.heap.size 5 i0 (.int .u8 0) 1 Tryz.underlying22 hi hz0 hz1 .i64 .i64 _ _ 8 rfl rfl rfl rfl (by rw [hz2]; decide) (by unfold maxLen; decide) (Nat.le_refl _) ?_
        intro wg5 hown hgrow
        have hbx : Below sg.w.heap.size sg.w wg5 := (Below.refl _ _).grown hgrow (Nat.le_refl _) (fun k hk => by simp at hk)
        replace hown := made_zeros hown
        refine wpList_nil_of ⟨rfl, hbx, ?_⟩
        have hbg := Below.step sg.h hbx
        have ORa := (hown.lower (Below.step BB sg.h).size : Own _ w.heap.size _ _)
        have NEa := (show sg.w.heap.size ≠ gza from fun h => by have h1 := AZa.lt; have h2 := sg.h.size; omega)
        replace AZa := AZa.stay hbg
        replace BB := Below.step BB hbg
        clear hbg hbx hown hgrow
        replace hne := HW.some wg5
        generalize sg.w.heap.size = gra at *
        clear sg
        refine wpM_more [4] 1 0 rfl (by kernel_rfl) (by kernel_rfl) (by kernel_rfl) (by kernel_rfl) ?_
        simp only [opsAt, List.getElem?_toArray, List.getElem?_cons_zero, List.getElem?_cons_succ]
        go_simp
        repeat (go_big_quiet_step (fail))
        refine wpQuiet_nil ?_
        refine wpM_end (by kernel_rfl) rfl (by kernel_rfl) (by decide) ?_
        rintro _ ⟨sz, rfl⟩
        simp only [List.drop_succ_cons, List.drop_zero]
        go_simp
        replace AZa := AZa.stay sz.h
        replace ORa := ORa.stay sz.h
        replace BB := Below.step BB sz.h
        clear hne
        generalize sz.w = Ua at *
        clear sz
        revert NEa
        revert GZa
        revert AZa
        revert ORa
        revert BMa
        revert BB
        revert gza
        revert gra
        revert ma
        revert Ua
        exact JN.out
    · skip
      refine mOp_mk rfl (by go_simp) (by kernel_rfl) ?_
      rintro _ ⟨sg, rfl⟩
      refine wpList_make_full _ rfl (.const (.int .i64 8)) (.const (.int .i64 8)) 22 rfl sg.w.heap.size 5 i0 (.int .u8 0) 1 Tryz.underlying22 hi hz0 hz1 .i64 .i64 _ _ 8 rfl rfl rfl rfl (by rw [hz2]; decide) (by unfold maxLen; decide) (Nat.le_refl _) ?_
      intro wg6 hown hgrow
      have hbx : Below sg.w.heap.size sg.w wg6 := (Below.refl _ _).grown hgrow (Nat.le_refl _) (fun k hk => by simp at hk)
      replace hown := made_zeros hown
      refine wpList_nil_of ⟨rfl, hbx, ?_⟩
      have hbg := Below.step sg.h hbx
      have ORa := (hown.lower (Below.step BB sg.h).size : Own _ w.heap.size _ _)
      replace BB := Below.step BB hbg
      clear hbg hbx hown hgrow
      replace hne := HW.some wg6
      generalize sg.w.heap.size = gra at *
      clear sg
      refine wpM_two (i := 1) (j := 5) (by kernel_rfl) ?_ ?_
      · skip
        refine mOp_call rfl (by go_simp) 8 _ #[.slice a bs0.length cap, .int .i64 0, .int .i64 60000] (fun w => by go_simp) rfl ?_
        rintro _ ⟨sg, rfl⟩
        refine (lwAt_c a cap bs0 0 60000 _ ((HR0.out.keep BW).keep (Below.step BB sg.h)) HL0.out (by decide) (by decide)).mono ?_
        rintro e wg7 ⟨ma, rfl, hma, hbx⟩
        have hbg := Below.step sg.h hbx
        refine ⟨_, rfl, ⟨⟨wg7, hbx⟩, rfl⟩, ?_⟩
        have BMa := (show (ma : Int) ≤ 60000 by rcases hma with h | h <;> omega)
        replace ORa := ORa.stay hbg
        replace BB := Below.step BB hbg
        clear hbg hbx sg hma
        replace hne := HW.some wg7
        refine wpM_more [2] 3 2 rfl (by kernel_rfl) (by kernel_rfl) (by kernel_rfl) (by kernel_rfl) ?_
        simp only [opsAt, List.getElem?_toArray, List.getElem?_cons_zero, List.getElem?_cons_succ]
        go_simp
        repeat (go_big_quiet_step (fail))
        refine wpQuiet_nil ?_
        refine wpM_more [4] 2 1 rfl (by kernel_rfl) (by kernel_rfl) (by kernel_rfl) (by kernel_rfl) ?_
        simp only [opsAt, List.getElem?_toArray, List.getElem?_cons_zero, List.getElem?_cons_succ]
        go_simp
        repeat (go_big_quiet_step (fail))
        refine wpQuiet_nil ?_
        refine wpM_only (i := 5) (by kernel_rfl) ?_
        refine mOp_make rfl (by go_simp) ?_
        rintro _ ⟨sg, rfl⟩
        refine ⟨.pointer (some ⟨sg.w.heap.size, 0, none⟩), sg.w.alloc (.cells #[.int .i64 0, .slice none 0 0, .int .i64 0, .slice none 0 0] 26), by go_simp, ⟨⟨_, alloc_below _ _⟩, rfl⟩, ?_⟩
        have hbg := Below.step sg.h (alloc_below sg.w (.cells #[.int .i64 0, .slice none 0 0, .int .i64 0, .slice none 0 0] 26))
        have AZa := Arr.new sg.w [.int .i64 0, .slice none 0 0, .int .i64 0, .slice none 0 0] 26
        have GZa := (show Hid (w.heap.size ≤ sg.w.heap.size) from (Below.step BB sg.h).size)
        have NEa := (show gra ≠ sg.w.heap.size from fun h => by have h1 := ORa.lt gra rfl; have h2 := sg.h.size; omega)
        replace ORa := ORa.stay hbg
        replace BB := Below.step BB hbg
        clear hbg
        replace hne := HW.some (sg.w.alloc (.cells #[.int .i64 0, .slice none 0 0, .int .i64 0, .slice none 0 0] 26))
        generalize hW : (sg.w.alloc (.cells #[.int .i64 0, .slice none 0 0, .int .i64 0, .slice none 0 0] 26)) = wg8 at *
        clear hW
        generalize sg.w.heap.size = gza at *
        clear sg
        refine wpM_end (by kernel_rfl) rfl (by kernel_rfl) (by decide) ?_
        rintro _ ⟨sz, rfl⟩
        simp only [List.drop_succ_cons, List.drop_zero]
        go_simp
        replace ORa := ORa.stay sz.h
        replace AZa := AZa.stay sz.h
        replace BB := Below.step BB sz.h
        clear hne
        generalize sz.w = Ua at *
        clear sz
        revert NEa
        revert GZa
        revert AZa
        revert ORa
        revert BMa
        revert BB
        revert gza
        revert gra
        revert ma
        revert Ua
        exact JN.out
      · skip
        refine mOp_make rfl (by go_simp) ?_
        rintro _ ⟨sg, rfl⟩
        refine ⟨.pointer (some ⟨sg.w.heap.size, 0, none⟩), sg.w.alloc (.cells #[.int .i64 0, .slice none 0 0, .int .i64 0, .slice none 0 0] 26), by go_simp, ⟨⟨_, alloc_below _ _⟩, rfl⟩, ?_⟩
        have hbg := Below.step sg.h (alloc_below sg.w (.cells #[.int .i64 0, .slice none 0 0, .int .i64 0, .slice none 0 0] 26))
        have AZa := Arr.new sg.w [.int .i64 0, .slice none 0 0, .int .i64 0, .slice none 0 0] 26
        have GZa := (show Hid (w.heap.size ≤ sg.w.heap.size) from (Below.step BB sg.h).size)
        have NEa := (show gra ≠ sg.w.heap.size from fun h => by have h1 := ORa.lt gra rfl; have h2 := sg.h.size; omega)
        replace ORa := ORa.stay hbg
        replace BB := Below.step BB hbg
        clear hbg
        replace hne := HW.some (sg.w.alloc (.cells #[.int .i64 0, .slice none 0 0, .int .i64 0, .slice none 0 0] 26))
        generalize hW : (sg.w.alloc (.cells #[.int .i64 0, .slice none 0 0, .int .i64 0, .slice none 0 0] 26)) = wg9 at *
        clear hW
        generalize sg.w.heap.size = gza at *
        clear sg
        refine wpM_only (i := 1) (by kernel_rfl) ?_
        refine mOp_call rfl (by go_simp) 8 _ #[.slice a bs0.length cap, .int .i64 0, .int .i64 60000] (fun w => by go_simp) rfl ?_
        rintro _ ⟨sg, rfl⟩
        refine (lwAt_c a cap bs0 0 60000 _ ((HR0.out.keep BW).keep (Below.step BB sg.h)) HL0.out (by decide) (by decide)).mono ?_
        rintro e wg10 ⟨ma, rfl, hma, hbx⟩
        have hbg := Below.step sg.h hbx
        refine ⟨_, rfl, ⟨⟨wg10, hbx⟩, rfl⟩, ?_⟩
        have BMa := (show (ma : Int) ≤ 60000 by rcases hma with h | h <;> omega)
        replace ORa := ORa.stay hbg
        replace AZa := AZa.stay hbg
        replace BB := Below.step BB hbg
        clear hbg hbx sg hma
        replace hne := HW.some wg10
        refine wpM_more [2] 2 1 rfl (by kernel_rfl) (by kernel_rfl) (by kernel_rfl) (by kernel_rfl) ?_
        simp only [opsAt, List.getElem?_toArray, List.getElem?_cons_zero, List.getElem?_cons_succ]
        go_simp
        repeat (go_big_quiet_step (fail))
        refine wpQuiet_nil ?_
        refine wpM_more [4] 1 0 rfl (by kernel_rfl) (by kernel_rfl) (by kernel_rfl) (by kernel_rfl) ?_
        simp only [opsAt, List.getElem?_toArray, List.getElem?_cons_zero, List.getElem?_cons_succ]
        go_simp
        repeat (go_big_quiet_step (fail))
        refine wpQuiet_nil ?_
        refine wpM_end (by kernel_rfl) rfl (by kernel_rfl) (by decide) ?_
        rintro _ ⟨sz, rfl⟩
        simp only [List.drop_succ_cons, List.drop_zero]
        go_simp
        replace ORa := ORa.stay sz.h
        replace AZa := AZa.stay sz.h
        replace BB := Below.step BB sz.h
        clear hne
        generalize sz.w = Ua at *
        clear sz
        revert NEa
        revert GZa
        revert AZa
        revert ORa
        revert BMa
        revert BB
        revert gza
        revert gra
        revert ma
        revert Ua
        exact JN.out
    · skip
      refine mOp_make rfl (by go_simp) ?_
      rintro _ ⟨sg, rfl⟩
      refine ⟨.pointer (some ⟨sg.w.heap.size, 0, none⟩), sg.w.alloc (.cells #[.int .i64 0, .slice none 0 0, .int .i64 0, .slice none 0 0] 26), by go_simp, ⟨⟨_, alloc_below _ _⟩, rfl⟩, ?_⟩
      have hbg := Below.step sg.h (alloc_below sg.w (.cells #[.int .i64 0, .slice none 0 0, .int .i64 0, .slice none 0 0] 26))
      have AZa := Arr.new sg.w [.int .i64 0, .slice none 0 0, .int .i64 0, .slice none 0 0] 26
      have GZa := (show Hid (w.heap.size ≤ sg.w.heap.size) from (Below.step BB sg.h).size)
      replace BB := Below.step BB hbg
      clear hbg
      replace hne := HW.some (sg.w.alloc (.cells #[.int .i64 0, .slice none 0 0, .int .i64 0, .slice none 0 0] 26))
      generalize hW : (sg.w.alloc (.cells #[.int .i64 0, .slice none 0 0, .int .i64 0, .slice none 0 0] 26)) = wg11 at *
      clear hW
      generalize sg.w.heap.size = gza at *
      clear sg
      refine wpM_two (i := 1) (j := 3) (by kernel_rfl) ?_ ?_
      · skip
        refine mOp_call rfl (by go_simp) 8 _ #[.slice a bs0.length cap, .int .i64 0, .int .i64 60000] (fun w => by go_simp) rfl ?_
        rintro _ ⟨sg, rfl⟩
        refine (lwAt_c a cap bs0 0 60000 _ ((HR0.out.keep BW).keep (Below.step BB sg.h)) HL0.out (by decide) (by decide)).mono ?_
        rintro e wg12 ⟨ma, rfl, hma, hbx⟩
        have hbg := Below.step sg.h hbx
        refine ⟨_, rfl, ⟨⟨wg12, hbx⟩, rfl⟩, ?_⟩
        have BMa := (show (ma : Int) ≤ 60000 by rcases hma with h | h <;> omega)
        replace AZa := AZa.stay hbg
        replace BB := Below.step BB hbg
        clear hbg hbx sg hma
        replace hne := HW.some wg12
        refine wpM_more [2] 3 2 rfl (by kernel_rfl) (by kernel_rfl) (by kernel_rfl) (by kernel_rfl) ?_
        simp only [opsAt, List.getElem?_toArray, List.getElem?_cons_zero, List.getElem?_cons_succ]
        go_simp
        repeat (go_big_quiet_step (fail))
        refine wpQuiet_nil ?_
        refine wpM_only (i := 3) (by kernel_rfl) ?_
        refine mOp_mk rfl (by go_simp) (by kernel_rfl) ?_
        rintro _ ⟨sg, rfl⟩
        refine wpList_make_full _ rfl (.const (.int .i64 8)) (.const (.int .i64 8)) 22 rfl sg.w.heap.size 5 i0 (.int .u8 0) 1 Tryz.underlying22 hi hz0 hz1 .i64 .i64 _ _ 8 rfl rfl rfl rfl (by rw [hz2]; decide) (by unfold maxLen; decide) (Nat.le_refl _) ?_
        intro wg13 hown hgrow
        have hbx : Below sg.w.heap.size sg.w wg13 := (Below.refl _ _).grown hgrow (Nat.le_refl _) (fun k hk => by simp at hk)
        replace hown := made_zeros hown
        refine wpList_nil_of ⟨rfl, hbx, ?_⟩
        have hbg := Below.step sg.h hbx
        have ORa := (hown.lower (Below.step BB sg.h).size : Own _ w.heap.size _ _)
        have NEa := (show sg.w.heap.size ≠ gza from fun h => by have h1 := AZa.lt; have h2 := sg.h.size; omega)
        replace AZa := AZa.stay hbg
        replace BB := Below.step BB hbg
        clear hbg hbx hown hgrow
        replace hne := HW.some wg13
        generalize sg.w.heap.size = gra at *
        clear sg
        refine wpM_more [4] 1 0 rfl (by kernel_rfl) (by kernel_rfl) (by kernel_rfl) (by kernel_rfl) ?_
        simp only [opsAt, List.getElem?_toArray, List.getElem?_cons_zero, List.getElem?_cons_succ]
        go_simp
        repeat (go_big_quiet_step (fail))
        refine wpQuiet_nil ?_
        refine wpM_end (by kernel_rfl) rfl (by kernel_rfl) (by decide) ?_
        rintro _ ⟨sz, rfl⟩
        simp only [List.drop_succ_cons, List.drop_zero]
        go_simp
        replace AZa := AZa.stay sz.h
        replace ORa := ORa.stay sz.h
        replace BB := Below.step BB sz.h
        clear hne
        generalize sz.w = Ua at *
        clear sz
        revert NEa
        revert GZa
        revert AZa
        revert ORa
        revert BMa
        revert BB
        revert gza
        revert gra
        revert ma
        revert Ua
        exact JN.out
      · skip
        refine mOp_mk rfl (by go_simp) (by kernel_rfl) ?_
        rintro _ ⟨sg, rfl⟩
        refine wpList_make_full _ rfl (.const (.int .i64 8)) (.const (.int .i64 8)) 22 rfl sg.w.heap.size 5 i0 (.int .u8 0) 1 Tryz.underlying22 hi hz0 hz1 .i64 .i64 _ _ 8 rfl rfl rfl rfl (by rw [hz2]; decide) (by unfold maxLen; decide) (Nat.le_refl _) ?_
        intro wg14 hown hgrow
        have hbx : Below sg.w.heap.size sg.w wg14 := (Below.refl _ _).grown hgrow (Nat.le_refl _) (fun k hk => by simp at hk)
        replace hown := made_zeros hown
        refine wpList_nil_of ⟨rfl, hbx, ?_⟩
        have hbg := Below.step sg.h hbx
        have ORa := (hown.lower (Below.step BB sg.h).size : Own _ w.heap.size _ _)
        have NEa := (show sg.w.heap.size ≠ gza from fun h => by have h1 := AZa.lt; have h2 := sg.h.size; omega)
        replace AZa := AZa.stay hbg
        replace BB := Below.step BB hbg
        clear hbg hbx hown hgrow
        replace hne := HW.some wg14
        generalize sg.w.heap.size = gra at *
        clear sg
        refine wpM_only (i := 1) (by kernel_rfl) ?_
        refine mOp_call rfl (by go_simp) 8 _ #[.slice a bs0.length cap, .int .i64 0, .int .i64 60000] (fun w => by go_simp) rfl ?_
        rintro _ ⟨sg, rfl⟩
        refine (lwAt_c a cap bs0 0 60000 _ ((HR0.out.keep BW).keep (Below.step BB sg.h)) HL0.out (by decide) (by decide)).mono ?_
        rintro e wg15 ⟨ma, rfl, hma, hbx⟩
        have hbg := Below.step sg.h hbx
        refine ⟨_, rfl, ⟨⟨wg15, hbx⟩, rfl⟩, ?_⟩
        have BMa := (show (ma : Int) ≤ 60000 by rcases hma with h | h <;> omega)
        replace AZa := AZa.stay hbg
        replace ORa := ORa.stay hbg
        replace BB := Below.step BB hbg
        clear hbg hbx sg hma
        replace hne := HW.some wg15
        refine wpM_more [2] 2 1 rfl (by kernel_rfl) (by kernel_rfl) (by kernel_rfl) (by kernel_rfl) ?_
        simp only [opsAt, List.getElem?_toArray, List.getElem?_cons_zero, List.getElem?_cons_succ]
        go_simp
        repeat (go_big_quiet_step (fail))
        refine wpQuiet_nil ?_
        refine wpM_more [4] 1 0 rfl (by kernel_rfl) (by kernel_rfl) (by kernel_rfl) (by kernel_rfl) ?_
        simp only [opsAt, List.getElem?_toArray, List.getElem?_cons_zero, List.getElem?_cons_succ]
        go_simp
        repeat (go_big_quiet_step (fail))
        refine wpQuiet_nil ?_
        refine wpM_end (by kernel_rfl) rfl (by kernel_rfl) (by decide) ?_
        rintro _ ⟨sz, rfl⟩
        simp only [List.drop_succ_cons, List.drop_zero]
        go_simp
        replace AZa := AZa.stay sz.h
        replace ORa := ORa.stay sz.h
        replace BB := Below.step BB sz.h
        clear hne
        generalize sz.w = Ua at *
        clear sz
        revert NEa
        revert GZa
        revert AZa
        revert ORa
        revert BMa
        revert BB
        revert gza
        revert gra
        revert ma
        revert Ua
        exact JN.out
  intro Ua ma gra gza BB BMa ORa AZa GZa NEa
  refine wpList_store_row rfl 26 _ _ rfl gza #[.int .i64 (1 + (ma : Int)), .slice (some ⟨gra, 0, none⟩) 8 8, .int .i64 0, .slice none 0 0] rfl rfl 26 #[.int .i64 0, .slice none 0 0, .int .i64 0, .slice none 0 0] AZa hresS.out rfl (by simp [Value.oneCell']) ?_
  have hb : Below w.heap.size w (Ua.setRow gza #[.int .i64 (1 + (ma : Int)), .slice (some ⟨gra, 0, none⟩) 8 8, .int .i64 0, .slice none 0 0]) := Below.row BB GZa.out _
  have Sa := AZa.row [.int .i64 (1 + (ma : Int)), .slice (some ⟨gra, 0, none⟩) 8 8, .int .i64 0, .slice none 0 0]
  replace ORa := ORa.row (fun k hk h => by simp [Value.ownBlock] at hk; exact NEa (hk.trans h)) #[.int .i64 (1 + (ma : Int)), .slice (some ⟨gra, 0, none⟩) 8 8, .int .i64 0, .slice none 0 0]
  replace BW := Below.step BW hb
  have NXa0 : Hid (gza ≠ gra) := fun h => NEa h.symm
  have NX1 : Hid (gra < (Ua.setRow gza #[.int .i64 (1 + (ma : Int)), .slice (some ⟨gra, 0, none⟩) 8 8, .int .i64 0, .slice none 0 0]).heap.size) := ORa.lt gra rfl
  clear BB hb AZa NEa
  generalize Ua.setRow gza #[.int .i64 (1 + (ma : Int)), .slice (some ⟨gra, 0, none⟩) 8 8, .int .i64 0, .slice none 0 0] = V1 at *
  go_simp
  go_wp2_with fail
  apply share
  case h =>
    intro JN
    have BB := Below.refl V1.heap.size V1
    have hne := HW.some V1
    refine wp_region_pick [0] 6 5 1 rfl rfl rfl (by kernel_rfl) (by kernel_rfl) (by kernel_rfl) (by kernel_rfl) ?_
    simp only [opsAt, List.getElem?_toArray, List.getElem?_cons_zero]
    repeat (go_big_quiet_step (fail))
    refine wpQuiet_nil ?_
    refine wpM_three (i := 1) (j := 3) (k := 5) (by kernel_rfl) ?_ ?_ ?_
    · skip
      refine mOp_call rfl (by go_simp) 8 _ #[.slice a bs0.length cap, .int .i64 2, .int .i64 60000] (fun w => by go_simp) rfl ?_
      rintro _ ⟨sg, rfl⟩
      refine (lwAt_c a cap bs0 2 60000 _ ((HR0.out.keep BW).keep (Below.step BB sg.h)) HL0.out (by decide) (by decide)).mono ?_
      rintro e wg1 ⟨mb, rfl, hmb, hbx⟩
      have hbg := Below.step sg.h hbx
      refine ⟨_, rfl, ⟨⟨wg1, hbx⟩, rfl⟩, ?_⟩
      have BMb := (show (mb : Int) ≤ 60000 by rcases hmb with h | h <;> omega)
      replace BB := Below.step BB hbg
      clear hbg hbx sg hmb
      replace hne := HW.some wg1
      refine wpM_more [2] 4 3 rfl (by kernel_rfl) (by kernel_rfl) (by kernel_rfl) (by kernel_rfl) ?_
      simp only [opsAt, List.getElem?_toArray, List.getElem?_cons_zero, List.getElem?_cons_succ]
      go_simp
      repeat (go_big_quiet_step (fail))
      refine wpQuiet_nil ?_
      refine wpM_two (i := 3) (j := 5) (by kernel_rfl) ?_ ?_
      · skip
        refine mOp_mk rfl (by go_simp) (by kernel_rfl) ?_
        rintro _ ⟨sg, rfl⟩
        refine wpList_make_full _ rfl (.const (.int .i64 8)) (.const (.int .i64 8)) 22 rfl sg.w.heap.size 5 i0 (.int .u8 0) 1 Tryz.underlying22 hi hz0 hz1 .i64 .i64 _ _ 8 rfl rfl rfl rfl (by rw [hz2]; decide) (by unfold maxLen; decide) (Nat.le_refl _) ?_
        intro wg2 hown hgrow
        have hbx : Below sg.w.heap.size sg.w wg2 := (Below.refl _ _).grown hgrow (Nat.le_refl _) (fun k hk => by simp at hk)
        replace hown := made_zeros hown
        refine wpList_nil_of ⟨rfl, hbx, ?_⟩
        have hbg := Below.step sg.h hbx
        have ORb := (hown.lower (Below.step BB sg.h).size : Own _ V1.heap.size _ _)
        replace BB := Below.step BB hbg
        clear hbg hbx hown hgrow
        replace hne := HW.some wg2
        generalize sg.w.heap.size = grb at *
        clear sg
        refine wpM_more [4] 2 1 rfl (by kernel_rfl) (by kernel_rfl) (by kernel_rfl) (by kernel_rfl) ?_
        simp only [opsAt, List.getElem?_toArray, List.getElem?_cons_zero, List.getElem?_cons_succ]
        go_simp
        repeat (go_big_quiet_step (fail))
        refine wpQuiet_nil ?_
        refine wpM_only (i := 5) (by kernel_rfl) ?_
        refine mOp_make rfl (by go_simp) ?_
        rintro _ ⟨sg, rfl⟩
        refine ⟨.pointer (some ⟨sg.w.heap.size, 0, none⟩), sg.w.alloc (.cells #[.int .i64 0, .slice none 0 0, .int .i64 0, .slice none 0 0] 26), by go_simp, ⟨⟨_, alloc_below _ _⟩, rfl⟩, ?_⟩
        have hbg := Below.step sg.h (alloc_below sg.w (.cells #[.int .i64 0, .slice none 0 0, .int .i64 0, .slice none 0 0] 26))
        have AZb := Arr.new sg.w [.int .i64 0, .slice none 0 0, .int .i64 0, .slice none 0 0] 26
        have GZb := (show Hid (V1.heap.size ≤ sg.w.heap.size) from (Below.step BB sg.h).size)
        have NEb := (show grb ≠ sg.w.heap.size from fun h => by have h1 := ORb.lt grb rfl; have h2 := sg.h.size; omega)
        replace ORb := ORb.stay hbg
        replace BB := Below.step BB hbg
        clear hbg
        replace hne := HW.some (sg.w.alloc (.cells #[.int .i64 0, .slice none 0 0, .int .i64 0, .slice none 0 0] 26))
        generalize hW : (sg.w.alloc (.cells #[.int .i64 0, .slice none 0 0, .int .i64 0, .slice none 0 0] 26)) = wg3 at *
        clear hW
        generalize sg.w.heap.size = gzb at *
        clear sg
        refine wpM_end (by kernel_rfl) rfl (by kernel_rfl) (by decide) ?_
        rintro _ ⟨sz, rfl⟩
        simp only [List.drop_succ_cons, List.drop_zero]
        go_simp
        replace ORb := ORb.stay sz.h
        replace AZb := AZb.stay sz.h
        replace BB := Below.step BB sz.h
        clear hne
        generalize sz.w = Ub at *
        clear sz
        revert NEb
        revert GZb
        revert AZb
        revert ORb
        revert BMb
        revert BB
        revert gzb
        revert grb
        revert mb
        revert Ub
        exact JN.out
      · skip
        refine mOp_make rfl (by go_simp) ?_
        rintro _ ⟨sg, rfl⟩
        refine ⟨.pointer (some ⟨sg.w.heap.size, 0, none⟩), sg.w.alloc (.cells #[.int .i64 0, .slice none 0 0, .int .i64 0, .slice none 0 0] 26), by go_simp, ⟨⟨_, alloc_below _ _⟩, rfl⟩, ?_⟩
        have hbg := Below.step sg.h (alloc_below sg.w (.cells #[.int .i64 0, .slice none 0 0, .int .i64 0, .slice none 0 0] 26))
        have AZb := Arr.new sg.w [.int .i64 0, .slice none 0 0, .int .i64 0, .slice none 0 0] 26
        have GZb := (show Hid (V1.heap.size ≤ sg.w.heap.size) from (Below.step BB sg.h).size)
        replace BB := Below.step BB hbg
        clear hbg
        replace hne := HW.some (sg.w.alloc (.cells #[.int .i64 0, .slice none 0 0, .int .i64 0, .slice none 0 0] 26))
        generalize hW : (sg.w.alloc (.cells #[.int .i64 0, .slice none 0 0, .int .i64 0, .slice none 0 0] 26)) = wg4 at *
        clear hW
        generalize sg.w.heap.size = gzb at *
        clear sg
        refine wpM_only (i := 3) (by kernel_rfl) ?_
        refine mOp_mk rfl (by go_simp) (by kernel_rfl) ?_
        rintro _ ⟨sg, rfl⟩
        refine wpList_make_full _ rfl (.const (.int .i64 8)) (.const (.int .i64 8)) 22 rfl sg.w.heap.size 5 i0 (.int .u8 0) 1 Tryz.underlying22 hi hz0 hz1 .i64 .i64 _ _ 8 rfl rfl rfl rfl (by rw [hz2]; decide) (by unfold maxLen; decide) (Nat.le_refl _) ?_
        intro wg5 hown hgrow
        have hbx : Below sg.w.heap.size sg.w wg5 := (Below.refl _ _).grown hgrow (Nat.le_refl _) (fun k hk => by simp at hk)
        replace hown := made_zeros hown
        refine wpList_nil_of ⟨rfl, hbx, ?_⟩
        have hbg := Below.step sg.h hbx
        have ORb := (hown.lower (Below.step BB sg.h).size : Own _ V1.heap.size _ _)
        have NEb := (show sg.w.heap.size ≠ gzb from fun h => by have h1 := AZb.lt; have h2 := sg.h.size; omega)
        replace AZb := AZb.stay hbg
        replace BB := Below.step BB hbg
        clear hbg hbx hown hgrow
        replace hne := HW.some wg5
        generalize sg.w.heap.size = grb at *
        clear sg
        refine wpM_more [4] 1 0 rfl (by kernel_rfl) (by kernel_rfl) (by kernel_rfl) (by kernel_rfl) ?_
        simp only [opsAt, List.getElem?_toArray, List.getElem?_cons_zero, List.getElem?_cons_succ]
        go_simp
        repeat (go_big_quiet_step (fail))
        refine wpQuiet_nil ?_
        refine wpM_end (by kernel_rfl) rfl (by kernel_rfl) (by decide) ?_
        rintro _ ⟨sz, rfl⟩
        simp only [List.drop_succ_cons, List.drop_zero]
        go_simp
        replace AZb := AZb.stay sz.h
        replace ORb := ORb.stay sz.h
        replace BB := Below.step BB sz.h
        clear hne
        generalize sz.w = Ub at *
        clear sz
        revert NEb
        revert GZb
        revert AZb
        revert ORb
        revert BMb
        revert BB
        revert gzb
        revert grb
        revert mb
        revert Ub
        exact JN.out
    · skip
      refine mOp_mk rfl (by go_simp) (by kernel_rfl) ?_
      rintro _ ⟨sg, rfl⟩
      refine wpList_make_full _ rfl (.const (.int .i64 8)) (.const (.int .i64 8)) 22 rfl sg.w.heap.size 5 i0 (.int .u8 0) 1 Tryz.underlying22 hi hz0 hz1 .i64 .i64 _ _ 8 rfl rfl rfl rfl (by rw [hz2]; decide) (by unfold maxLen; decide) (Nat.le_refl _) ?_
      intro wg6 hown hgrow
      have hbx : Below sg.w.heap.size sg.w wg6 := (Below.refl _ _).grown hgrow (Nat.le_refl _) (fun k hk => by simp at hk)
      replace hown := made_zeros hown
      refine wpList_nil_of ⟨rfl, hbx, ?_⟩
      have hbg := Below.step sg.h hbx
      have ORb := (hown.lower (Below.step BB sg.h).size : Own _ V1.heap.size _ _)
      replace BB := Below.step BB hbg
      clear hbg hbx hown hgrow
      replace hne := HW.some wg6
      generalize sg.w.heap.size = grb at *
      clear sg
      refine wpM_two (i := 1) (j := 5) (by kernel_rfl) ?_ ?_
      · skip
        refine mOp_call rfl (by go_simp) 8 _ #[.slice a bs0.length cap, .int .i64 2, .int .i64 60000] (fun w => by go_simp) rfl ?_
        rintro _ ⟨sg, rfl⟩
        refine (lwAt_c a cap bs0 2 60000 _ ((HR0.out.keep BW).keep (Below.step BB sg.h)) HL0.out (by decide) (by decide)).mono ?_
        rintro e wg7 ⟨mb, rfl, hmb, hbx⟩
        have hbg := Below.step sg.h hbx
        refine ⟨_, rfl, ⟨⟨wg7, hbx⟩, rfl⟩, ?_⟩
        have BMb := (show (mb : Int) ≤ 60000 by rcases hmb with h | h <;> omega)
        replace ORb := ORb.stay hbg
        replace BB := Below.step BB hbg
        clear hbg hbx sg hmb
        replace hne := HW.some wg7
        refine wpM_more [2] 3 2 rfl (by kernel_rfl) (by kernel_rfl) (by kernel_rfl) (by kernel_rfl) ?_
        simp only [opsAt, List.getElem?_toArray, List.getElem?_cons_zero, List.getElem?_cons_succ]
        go_simp
        repeat (go_big_quiet_step (fail))
        refine wpQuiet_nil ?_
        refine wpM_more [4] 2 1 rfl (by kernel_rfl) (by kernel_rfl) (by kernel_rfl) (by kernel_rfl) ?_
        simp only [opsAt, List.getElem?_toArray, List.getElem?_cons_zero, List.getElem?_cons_succ]
        go_simp
        repeat (go_big_quiet_step (fail))
        refine wpQuiet_nil ?_
        refine wpM_only (i := 5) (by kernel_rfl) ?_
        refine mOp_make rfl (by go_simp) ?_
        rintro _ ⟨sg, rfl⟩
        refine ⟨.pointer (some ⟨sg.w.heap.size, 0, none⟩), sg.w.alloc (.cells #[.int .i64 0, .slice none 0 0, .int .i64 0, .slice none 0 0] 26), by go_simp, ⟨⟨_, alloc_below _ _⟩, rfl⟩, ?_⟩
        have hbg := Below.step sg.h (alloc_below sg.w (.cells #[.int .i64 0, .slice none 0 0, .int .i64 0, .slice none 0 0] 26))
        have AZb := Arr.new sg.w [.int .i64 0, .slice none 0 0, .int .i64 0, .slice none 0 0] 26
        have GZb := (show Hid (V1.heap.size ≤ sg.w.heap.size) from (Below.step BB sg.h).size)
        have NEb := (show grb ≠ sg.w.heap.size from fun h => by have h1 := ORb.lt grb rfl; have h2 := sg.h.size; omega)
        replace ORb := ORb.stay hbg
        replace BB := Below.step BB hbg
        clear hbg
        replace hne := HW.some (sg.w.alloc (.cells #[.int .i64 0, .slice none 0 0, .int .i64 0, .slice none 0 0] 26))
        generalize hW : (sg.w.alloc (.cells #[.int .i64 0, .slice none 0 0, .int .i64 0, .slice none 0 0] 26)) = wg8 at *
        clear hW
        generalize sg.w.heap.size = gzb at *
        clear sg
        refine wpM_end (by kernel_rfl) rfl (by kernel_rfl) (by decide) ?_
        rintro _ ⟨sz, rfl⟩
        simp only [List.drop_succ_cons, List.drop_zero]
        go_simp
        replace ORb := ORb.stay sz.h
        replace AZb := AZb.stay sz.h
        replace BB := Below.step BB sz.h
        clear hne
        generalize sz.w = Ub at *
        clear sz
        revert NEb
        revert GZb
        revert AZb
        revert ORb
        revert BMb
        revert BB
        revert gzb
        revert grb
        revert mb
        revert Ub
        exact JN.out
      · skip
        refine mOp_make rfl (by go_simp) ?_
        rintro _ ⟨sg, rfl⟩
        refine ⟨.pointer (some ⟨sg.w.heap.size, 0, none⟩), sg.w.alloc (.cells #[.int .i64 0, .slice none 0 0, .int .i64 0, .slice none 0 0] 26), by go_simp, ⟨⟨_, alloc_below _ _⟩, rfl⟩, ?_⟩
        have hbg := Below.step sg.h (alloc_below sg.w (.cells #[.int .i64 0, .slice none 0 0, .int .i64 0, .slice none 0 0] 26))
        have AZb := Arr.new sg.w [.int .i64 0, .slice none 0 0, .int .i64 0, .slice none 0 0] 26
        have GZb := (show Hid (V1.heap.size ≤ sg.w.heap.size) from (Below.step BB sg.h).size)
        have NEb := (show grb ≠ sg.w.heap.size from fun h => by have h1 := ORb.lt grb rfl; have h2 := sg.h.size; omega)
        replace ORb := ORb.stay hbg
        replace BB := Below.step BB hbg
        clear hbg
        replace hne := HW.some (sg.w.alloc (.cells #[.int .i64 0, .slice none 0 0, .int .i64 0, .slice none 0 0] 26))
        generalize hW : (sg.w.alloc (.cells #[.int .i64 0, .slice none 0 0, .int .i64 0, .slice none 0 0] 26)) = wg9 at *
        clear hW
        generalize sg.w.heap.size = gzb at *
        clear sg
        refine wpM_only (i := 1) (by kernel_rfl) ?_
        refine mOp_call rfl (by go_simp) 8 _ #[.slice a bs0.length cap, .int .i64 2, .int .i64 60000] (fun w => by go_simp) rfl ?_
        rintro _ ⟨sg, rfl⟩
        refine (lwAt_c a cap bs0 2 60000 _ ((HR0.out.keep BW).keep (Below.step BB sg.h)) HL0.out (by decide) (by decide)).mono ?_
        rintro e wg10 ⟨mb, rfl, hmb, hbx⟩
        have hbg := Below.step sg.h hbx
        refine ⟨_, rfl, ⟨⟨wg10, hbx⟩, rfl⟩, ?_⟩
        have BMb := (show (mb : Int) ≤ 60000 by rcases hmb with h | h <;> omega)
        replace ORb := ORb.stay hbg
        replace AZb := AZb.stay hbg
        replace BB := Below.step BB hbg
        clear hbg hbx sg hmb
        replace hne := HW.some wg10
        refine wpM_more [2] 2 1 rfl (by kernel_rfl) (by kernel_rfl) (by kernel_rfl) (by kernel_rfl) ?_
        simp only [opsAt, List.getElem?_toArray, List.getElem?_cons_zero, List.getElem?_cons_succ]
        go_simp
        repeat (go_big_quiet_step (fail))
        refine wpQuiet_nil ?_
        refine wpM_more [4] 1 0 rfl (by kernel_rfl) (by kernel_rfl) (by kernel_rfl) (by kernel_rfl) ?_
        simp only [opsAt, List.getElem?_toArray, List.getElem?_cons_zero, List.getElem?_cons_succ]
        go_simp
        repeat (go_big_quiet_step (fail))
        refine wpQuiet_nil ?_
        refine wpM_end (by kernel_rfl) rfl (by kernel_rfl) (by decide) ?_
        rintro _ ⟨sz, rfl⟩
        simp only [List.drop_succ_cons, List.drop_zero]
        go_simp
        replace ORb := ORb.stay sz.h
        replace AZb := AZb.stay sz.h
        replace BB := Below.step BB sz.h
        clear hne
        generalize sz.w = Ub at *
        clear sz
        revert NEb
        revert GZb
        revert AZb
        revert ORb
        revert BMb
        revert BB
        revert gzb
        revert grb
        revert mb
        revert Ub
        exact JN.out
    · skip
      refine mOp_make rfl (by go_simp) ?_
      rintro _ ⟨sg, rfl⟩
      refine ⟨.pointer (some ⟨sg.w.heap.size, 0, none⟩), sg.w.alloc (.cells #[.int .i64 0, .slice none 0 0, .int .i64 0, .slice none 0 0] 26), by go_simp, ⟨⟨_, alloc_below _ _⟩, rfl⟩, ?_⟩
      have hbg := Below.step sg.h (alloc_below sg.w (.cells #[.int .i64 0, .slice none 0 0, .int .i64 0, .slice none 0 0] 26))
      have AZb := Arr.new sg.w [.int .i64 0, .slice none 0 0, .int .i64 0, .slice none 0 0] 26
      have GZb := (show Hid (V1.heap.size ≤ sg.w.heap.size) from (Below.step BB sg.h).size)
      replace BB := Below.step BB hbg
      clear hbg
      replace hne := HW.some (sg.w.alloc (.cells #[.int .i64 0, .slice none 0 0, .int .i64 0, .slice none 0 0] 26))
      generalize hW : (sg.w.alloc (.cells #[.int .i64 0, .slice none 0 0, .int .i64 0, .slice none 0 0] 26)) = wg11 at *
      clear hW
      generalize sg.w.heap.size = gzb at *
      clear sg
      refine wpM_two (i := 1) (j := 3) (by kernel_rfl) ?_ ?_
      · skip
        refine mOp_call rfl (by go_simp) 8 _ #[.slice a bs0.length cap, .int .i64 2, .int .i64 60000] (fun w => by go_simp) rfl ?_
        rintro _ ⟨sg, rfl⟩
        refine (lwAt_c a cap bs0 2 60000 _ ((HR0.out.keep BW).keep (Below.step BB sg.h)) HL0.out (by decide) (by decide)).mono ?_
        rintro e wg12 ⟨mb, rfl, hmb, hbx⟩
        have hbg := Below.step sg.h hbx
        refine ⟨_, rfl, ⟨⟨wg12, hbx⟩, rfl⟩, ?_⟩
        have BMb := (show (mb : Int) ≤ 60000 by rcases hmb with h | h <;> omega)
        replace AZb := AZb.stay hbg
        replace BB := Below.step BB hbg
        clear hbg hbx sg hmb
        replace hne := HW.some wg12
        refine wpM_more [2] 3 2 rfl (by kernel_rfl) (by kernel_rfl) (by kernel_rfl) (by kernel_rfl) ?_
        simp only [opsAt, List.getElem?_toArray, List.getElem?_cons_zero, List.getElem?_cons_succ]
        go_simp
        repeat (go_big_quiet_step (fail))
        refine wpQuiet_nil ?_
        refine wpM_only (i := 3) (by kernel_rfl) ?_
        refine mOp_mk rfl (by go_simp) (by kernel_rfl) ?_
        rintro _ ⟨sg, rfl⟩
        refine wpList_make_full _ rfl (.const (.int .i64 8)) (.const (.int .i64 8)) 22 rfl sg.w.heap.size 5 i0 (.int .u8 0) 1 Tryz.underlying22 hi hz0 hz1 .i64 .i64 _ _ 8 rfl rfl rfl rfl (by rw [hz2]; decide) (by unfold maxLen; decide) (Nat.le_refl _) ?_
        intro wg13 hown hgrow
        have hbx : Below sg.w.heap.size sg.w wg13 := (Below.refl _ _).grown hgrow (Nat.le_refl _) (fun k hk => by simp at hk)
        replace hown := made_zeros hown
        refine wpList_nil_of ⟨rfl, hbx, ?_⟩
        have hbg := Below.step sg.h hbx
        have ORb := (hown.lower (Below.step BB sg.h).size : Own _ V1.heap.size _ _)
        have NEb := (show sg.w.heap.size ≠ gzb from fun h => by have h1 := AZb.lt; have h2 := sg.h.size; omega)
        replace AZb := AZb.stay hbg
        replace BB := Below.step BB hbg
        clear hbg hbx hown hgrow
        replace hne := HW.some wg13
        generalize sg.w.heap.size = grb at *
        clear sg
        refine wpM_more [4] 1 0 rfl (by kernel_rfl) (by kernel_rfl) (by kernel_rfl) (by kernel_rfl) ?_
        simp only [opsAt, List.getElem?_toArray, List.getElem?_cons_zero, List.getElem?_cons_succ]
        go_simp
        repeat (go_big_quiet_step (fail))
        refine wpQuiet_nil ?_
        refine wpM_end (by kernel_rfl) rfl (by kernel_rfl) (by decide) ?_
        rintro _ ⟨sz, rfl⟩
        simp only [List.drop_succ_cons, List.drop_zero]
        go_simp
        replace AZb := AZb.stay sz.h
        replace ORb := ORb.stay sz.h
        replace BB := Below.step BB sz.h
        clear hne
        generalize sz.w = Ub at *
        clear sz
        revert NEb
        revert GZb
        revert AZb
        revert ORb
        revert BMb
        revert BB
        revert gzb
        revert grb
        revert mb
        revert Ub
        exact JN.out
      · skip
        refine mOp_mk rfl (by go_simp) (by kernel_rfl) ?_
        rintro _ ⟨sg, rfl⟩
        refine wpList_make_full _ rfl (.const (.int .i64 8)) (.const (.int .i64 8)) 22 rfl sg.w.heap.size 5 i0 (.int .u8 0) 1 Tryz.underlying22 hi hz0 hz1 .i64 .i64 _ _ 8 rfl rfl rfl rfl (by rw [hz2]; decide) (by unfold maxLen; decide) (Nat.le_refl _) ?_
        intro wg14 hown hgrow
        have hbx : Below sg.w.heap.size sg.w wg14 := (Below.refl _ _).grown hgrow (Nat.le_refl _) (fun k hk => by simp at hk)
        replace hown := made_zeros hown
        refine wpList_nil_of ⟨rfl, hbx, ?_⟩
        have hbg := Below.step sg.h hbx
        have ORb := (hown.lower (Below.step BB sg.h).size : Own _ V1.heap.size _ _)
        have NEb := (show sg.w.heap.size ≠ gzb from fun h => by have h1 := AZb.lt; have h2 := sg.h.size; omega)
        replace AZb := AZb.stay hbg
        replace BB := Below.step BB hbg
        clear hbg hbx hown hgrow
        replace hne := HW.some wg14
        generalize sg.w.heap.size = grb at *
        clear sg
        refine wpM_only (i := 1) (by kernel_rfl) ?_
        refine mOp_call rfl (by go_simp) 8 _ #[.slice a bs0.length cap, .int .i64 2, .int .i64 60000] (fun w => by go_simp) rfl ?_
        rintro _ ⟨sg, rfl⟩
        refine (lwAt_c a cap bs0 2 60000 _ ((HR0.out.keep BW).keep (Below.step BB sg.h)) HL0.out (by decide) (by decide)).mono ?_
        rintro e wg15 ⟨mb, rfl, hmb, hbx⟩
        have hbg := Below.step sg.h hbx
        refine ⟨_, rfl, ⟨⟨wg15, hbx⟩, rfl⟩, ?_⟩
        have BMb := (show (mb : Int) ≤ 60000 by rcases hmb with h | h <;> omega)
        replace AZb := AZb.stay hbg
        replace ORb := ORb.stay hbg
        replace BB := Below.step BB hbg
        clear hbg hbx sg hmb
        replace hne := HW.some wg15
        refine wpM_more [2] 2 1 rfl (by kernel_rfl) (by kernel_rfl) (by kernel_rfl) (by kernel_rfl) ?_
        simp only [opsAt, List.getElem?_toArray, List.getElem?_cons_zero, List.getElem?_cons_succ]
        go_simp
        repeat (go_big_quiet_step (fail))
        refine wpQuiet_nil ?_
        refine wpM_more [4] 1 0 rfl (by kernel_rfl) (by kernel_rfl) (by kernel_rfl) (by kernel_rfl) ?_
        simp only [opsAt, List.getElem?_toArray, List.getElem?_cons_zero, List.getElem?_cons_succ]
        go_simp
        repeat (go_big_quiet_step (fail))
        refine wpQuiet_nil ?_
        refine wpM_end (by kernel_rfl) rfl (by kernel_rfl) (by decide) ?_
        rintro _ ⟨sz, rfl⟩
        simp only [List.drop_succ_cons, List.drop_zero]
        go_simp
        replace AZb := AZb.stay sz.h
        replace ORb := ORb.stay sz.h
        replace BB := Below.step BB sz.h
        clear hne
        generalize sz.w = Ub at *
        clear sz
        revert NEb
        revert GZb
        revert AZb
        revert ORb
        revert BMb
        revert BB
        revert gzb
        revert grb
        revert mb
        revert Ub
        exact JN.out
  intro Ub mb grb gzb BB BMb ORb AZb GZb NEb
  refine wpList_store_row rfl 26 _ _ rfl gzb #[.int .i64 (1 + (mb : Int)), .slice (some ⟨grb, 0, none⟩) 8 8, .int .i64 0, .slice none 0 0] rfl rfl 26 #[.int .i64 0, .slice none 0 0, .int .i64 0, .slice none 0 0] AZb hresS.out rfl (by simp [Value.oneCell']) ?_
  have hb : Below V1.heap.size V1 (Ub.setRow gzb #[.int .i64 (1 + (mb : Int)), .slice (some ⟨grb, 0, none⟩) 8 8, .int .i64 0, .slice none 0 0]) := Below.row BB GZb.out _
  have Sb := AZb.row [.int .i64 (1 + (mb : Int)), .slice (some ⟨grb, 0, none⟩) 8 8, .int .i64 0, .slice none 0 0]
  replace ORb := ORb.row (fun k hk h => by simp [Value.ownBlock] at hk; exact NEb (hk.trans h)) #[.int .i64 (1 + (mb : Int)), .slice (some ⟨grb, 0, none⟩) 8 8, .int .i64 0, .slice none 0 0]
  replace BW := Below.step BW hb
  replace Sa := Sa.stay hb
  replace ORa := ORa.stay hb
  have NXc : Hid (gra < V1.heap.size) := NX1.out
  have NXb : Hid (gzb ≠ gra) := fun h => by have h1 := NXc.out; have h2 := GZb.out; omega
  have NXa : Hid (gza ≠ gra) := NXa0.out
  clear BB hb AZb NEb NX1 NXa0
  generalize Ub.setRow gzb #[.int .i64 (1 + (mb : Int)), .slice (some ⟨grb, 0, none⟩) 8 8, .int .i64 0, .slice none 0 0] = V2 at *
  go_simp
  have sa1 := (Sa.cell 1).trans (show _ = some _ from rfl)
  go_wp2_with fail
  apply share
  case h =>
    intro JN
    have BB := Below.refl V2.heap.size V2
    have hne := HW.some V2
    have g1 := HW.at (sa1)
    refine wp_region_pick [0, 1, 2] 6 3 1 rfl rfl rfl (by kernel_rfl) (by kernel_rfl) (by kernel_rfl) (by kernel_rfl) ?_
    simp only [opsAt, List.getElem?_toArray, List.getElem?_cons_zero, List.getElem?_cons_succ]
    repeat (go_big_quiet_step (fail))
    refine wpQuiet_nil ?_
    clear g1
    refine wpM_only (i := 3) (by kernel_rfl) ?_
    refine mOp_call rfl (by go_simp) 8 _ #[.slice a bs0.length cap, .int .i64 4, .int .i64 256] (fun w => by go_simp) rfl ?_
    rintro _ ⟨sg, rfl⟩
    refine (lwAt_c a cap bs0 4 256 _ ((HR0.out.keep BW).keep (Below.step BB sg.h)) HL0.out (by decide) (by decide)).mono ?_
    rintro e wg1 ⟨mc, rfl, hmc, hbx⟩
    have hbg := Below.step sg.h hbx
    refine ⟨_, rfl, ⟨⟨wg1, hbx⟩, rfl⟩, ?_⟩
    have BMc := (show (mc : Int) ≤ 255 by rcases hmc with h | h <;> omega)
    replace BB := Below.step BB hbg
    clear hbg hbx sg hmc
    replace hne := HW.some wg1
    refine wpM_more [4, 5] 2 0 rfl (by kernel_rfl) (by kernel_rfl) (by kernel_rfl) (by kernel_rfl) ?_
    simp only [opsAt, List.getElem?_toArray, List.getElem?_cons_zero, List.getElem?_cons_succ]
    go_simp
    repeat (go_big_quiet_step (fail))
    refine wpQuiet_nil ?_
    refine wpM_end (by kernel_rfl) rfl (by kernel_rfl) (by decide) ?_
    rintro _ ⟨sz, rfl⟩
    simp only [List.drop_succ_cons, List.drop_zero]
    go_simp
    replace BB := Below.step BB sz.h
    clear hne
    generalize sz.w = U3 at *
    clear sz
    revert BMc
    revert BB
    revert mc
    revert U3
    exact JN.out
  intro U3 mc BB BMc
  replace BW := Below.step BW BB
  replace Sa := Sa.stay BB
  replace Sb := Sb.stay BB
  replace ORa := ORa.stay BB
  replace ORb := ORb.stay BB
  clear BB sa1
  obtain ⟨cb, HCB⟩ : ∃ cb, Hid (UInt8.ofNat mc = cb) := ⟨_, rfl⟩
  have HCV : Hid (.int .u8 (mc : Int) = u8v cb) := by show _ = _; rw [← HCB.out]; exact (u8_of mc (by omega)).symm
  have cx := (World.ownsRow.cellAt ORa 0 (by show 0 < 8 * 1; decide)).trans (show _ = some (.int .u8 0) from rfl)
  have fx := World.ownsRow.frozenAt ORa 0
  have R1 := (World.ownsRow.stored ORa 0 (.int .u8 (mc : Int))).1
  have OX : Own (U3.setCell ⟨gra, 0, none⟩ (.int .u8 (mc : Int))) w.heap.size (.slice (some ⟨gra, 0, none⟩) 8 8) ((zs 8).set 0 cb) := by unfold Own; rw [List.length_set, List.map_set, ← HCV.out]; exact R1
  have hbA : Below w.heap.size w (U3.setCell ⟨gra, 0, none⟩ (.int .u8 (mc : Int))) := BW.setCell (ORa.ge gra rfl) _
  replace Sa := Sa.setOther (a := ⟨gra, 0, none⟩) (fun h => NXa.out h) (.int .u8 (mc : Int))
  replace Sb := Sb.setOther (a := ⟨gra, 0, none⟩) (fun h => NXb.out h) (.int .u8 (mc : Int))
  have OY : Own (U3.setCell ⟨gra, 0, none⟩ (.int .u8 (mc : Int))) V1.heap.size (.slice (some ⟨grb, 0, none⟩) 8 8) (zs 8) := ORb.set (a := ⟨gra, 0, none⟩) NXc.out (.int .u8 (mc : Int))
  clear R1 ORa ORb BW HCV HCB
  have a0 := (Sa.cell 0).trans (show _ = some _ from rfl)
  have a1 := (Sa.cell 1).trans (show _ = some _ from rfl)
  have a2 := (Sa.cell 2).trans (show _ = some _ from rfl)
  have a3 := (Sa.cell 3).trans (show _ = some _ from rfl)
  have b0 := (Sb.cell 0).trans (show _ = some _ from rfl)
  have b1 := (Sb.cell 1).trans (show _ = some _ from rfl)
  have b2 := (Sb.cell 2).trans (show _ = some _ from rfl)
  have b3 := (Sb.cell 3).trans (show _ = some _ from rfl)
  clear Sa Sb
  go_wp2_with fail
  generalize U3.setCell ⟨gra, 0, none⟩ (.int .u8 (mc : Int)) = V3 at *
  clear a0 a1 a2 a3 b0 b1 b2 b3 cx fx BMc
  have RX : sideC.rep V3 ((1 + (ma : Int), (zs 8).set 0 cb, 0, []) : SideD) [.int .i64 (1 + (ma : Int)), .slice (some ⟨gra, 0, none⟩) 8 8, .int .i64 0, .slice none 0 0] := side_mk (a := ((1 + (ma : Int), (zs 8).set 0 cb, 0, []) : SideD)) (Rd.own OX) (rd_nil _)
  have RY : sideC.rep V3 ((1 + (mb : Int), zs 8, 0, []) : SideD) [.int .i64 (1 + (mb : Int)), .slice (some ⟨grb, 0, none⟩) 8 8, .int .i64 0, .slice none 0 0] := side_mk (a := ((1 + (mb : Int), zs 8, 0, []) : SideD)) (Rd.own OY) (rd_nil _)
  have KP := keepsPa_c (1 + (ma : Int), (zs 8).set 0 cb, 0, []) (1 + (mb : Int), zs 8, 0, []) _ _ V3 (side_ok (by omega) (by omega) (by rw [List.length_set]; rfl)) (side_ok (by omega) (by omega) rfl) rfl RX RY (HT.out.keep hbA)
  clear RX RY OX OY BMa BMb NXa NXb NXc GZa GZb
  refine KP.mono ?_
  rintro e w2 ⟨s1, s2, s3, p1, p2, p3, p4, p5, p6, q1, q2, q3, q4, q5, q6, usp, rfl, HK, hb2⟩
  obtain ⟨h25, hone, u0, u9, u10, u11, u21, u22, u23, r1, r2, r3, r4, r5, r6, n1, n2, n3⟩ := HK
  have AZ := Arr.new w2 [.int .i64 0, .int .i64 0, .slice none 0 0, .int .i64 0, .slice none 0 0, .int .i64 0, .int .i64 0, .slice none 0 0, .slice none 0 0, .slice none 0 0, .slice none 0 0, .slice none 0 0, .slice none 0 0, .int .i64 0, .slice none 0 0, .int .i64 0, .slice none 0 0, .int .i64 0, .int .i64 0, .slice none 0 0, .slice none 0 0, .slice none 0 0, .slice none 0 0, .slice none 0 0, .slice none 0 0] 33
  have hbn : Below w2.heap.size w2 ((w2.alloc (.cells #[.int .i64 0, .int .i64 0, .slice none 0 0, .int .i64 0, .slice none 0 0, .int .i64 0, .int .i64 0, .slice none 0 0, .slice none 0 0, .slice none 0 0, .slice none 0 0, .slice none 0 0, .slice none 0 0, .int .i64 0, .slice none 0 0, .int .i64 0, .slice none 0 0, .int .i64 0, .int .i64 0, .slice none 0 0, .slice none 0 0, .slice none 0 0, .slice none 0 0, .slice none 0 0, .slice none 0 0] 33)).setRow w2.heap.size usp.toArray) := Below.row (alloc_below w2 _) (Nat.le_refl _) _
  have N := AZ.row usp
  have hresP : Hid ((Tryz.prog.info? 33).map (·.size) = some usp.toArray.size) := by show _ = _; rw [List.size_toArray, h25]; kernel_rfl
  have H25 : Hid (usp.length = 25) := h25
  have HN1 : Hid (s1.length = 32) := n1
  have HN2 : Hid (s2.length = 32) := n2
  have HN3 : Hid (s3.length = 32) := n3
  have dn1 : ((s1.length : Int) != 32) = false := by rw [bne_eq_false_iff_eq]; omega
  have BW := Below.step (Below.step hbA hb2) hbn
  replace r1 := r1.keep hbn
  replace r2 := r2.keep hbn
  replace r3 := r3.keep hbn
  replace r4 := r4.keep hbn
  replace r5 := r5.keep hbn
  replace r6 := r6.keep hbn
  clear KP hbA hb2 hbn h25 n1 n2 n3
  have c0 := (N.cell 0).trans u0
  have c9 := (N.cell 9).trans u9
  go_wp2_with (refine wpList_store_row rfl 33 _ _ rfl w2.heap.size usp.toArray rfl rfl 33 #[.int .i64 0, .int .i64 0, .slice none 0 0, .int .i64 0, .slice none 0 0, .int .i64 0, .int .i64 0, .slice none 0 0, .slice none 0 0, .slice none 0 0, .slice none 0 0, .slice none 0 0, .slice none 0 0, .int .i64 0, .slice none 0 0, .int .i64 0, .slice none 0 0, .int .i64 0, .int .i64 0, .slice none 0 0, .slice none 0 0, .slice none 0 0, .slice none 0 0, .slice none 0 0, .slice none 0 0] AZ hresP.out (by have h := H25.out; simp [h]) (by simpa using hone) ?_)
  generalize ((w2.alloc (.cells #[.int .i64 0, .int .i64 0, .slice none 0 0, .int .i64 0, .slice none 0 0, .int .i64 0, .int .i64 0, .slice none 0 0, .slice none 0 0, .slice none 0 0, .slice none 0 0, .slice none 0 0, .slice none 0 0, .int .i64 0, .slice none 0 0, .int .i64 0, .slice none 0 0, .int .i64 0, .int .i64 0, .slice none 0 0, .slice none 0 0, .slice none 0 0, .slice none 0 0, .slice none 0 0, .slice none 0 0] 33)).setRow w2.heap.size usp.toArray) = V4 at *
  generalize w2.heap.size = gp at *
  clear AZ hone hresP H25 dn1 c0 c9
  refine (lwAt_c a cap bs0 5 256 V4 (HR0.out.keep BW) HL0.out (by decide) (by decide)).mono ?_
  rintro e w3 ⟨md, rfl, hmd, hb3⟩
  have bmd : (md : Int) ≤ 255 := by rcases hmd with h | h <;> omega
  replace N := N.stay hb3
  replace BW := Below.step BW hb3
  replace r1 := r1.keep hb3
  replace r2 := r2.keep hb3
  replace r3 := r3.keep hb3
  replace r4 := r4.keep hb3
  replace r5 := r5.keep hb3
  replace r6 := r6.keep hb3
  clear hb3 hmd
  obtain ⟨pl, HPL⟩ : ∃ pl : List UInt8, Hid (pl = [UInt8.ofNat md, 7, 0]) := ⟨_, rfl⟩
  have rp := rd_new w3 [.int .u8 (md : Int), .int .u8 7, .int .u8 0] pl 5 3 (by rw [HPL.out]; simp only [List.map_cons, List.map_nil]; rw [u8_of md (by omega)]; rfl) (by rw [HPL.out]; rfl) (by decide)
  have HPN : Hid (pl.length = 3) := by show _ = _; rw [HPL.out]; rfl
  have hb3 := alloc_below w3 (.cells #[.int .u8 (md : Int), .int .u8 7, .int .u8 0] 5)
  replace N := N.stay hb3
  replace BW := Below.step BW hb3
  replace r1 := r1.keep hb3
  replace r2 := r2.keep hb3
  replace r3 := r3.keep hb3
  replace r4 := r4.keep hb3
  replace r5 := r5.keep hb3
  replace r6 := r6.keep hb3
  clear hb3
  obtain ⟨R1, HR1⟩ : ∃ R1, Hid (recN (s1, 0, 0) (innerN 23 pl 2) = R1) := ⟨_, rfl⟩
  obtain ⟨R2, HR2⟩ : ∃ R2, Hid (recN (s2, 0, 0) (innerN 21 pl 0) = R2) := ⟨_, rfl⟩
  have S1 : Hid (srD (s1, 0, 0) 23 pl 2 = (0, 23, R1, (s1, 1, 0))) := by show _ = _; rw [← HR1.out, srD, if_pos (srC_ok HN1.out (by decide) (by decide) (by decide) (by have := HPN.out; omega))]; rfl
  have S2 : Hid (srD (s2, 0, 0) 21 pl 0 = (0, 21, R2, (s2, 1, 0))) := by show _ = _; rw [← HR2.out, srD, if_pos (srC_ok HN2.out (by decide) (by decide) (by decide) (by have := HPN.out; omega))]; rfl
  have H1 : Hid (hrD (s1, 0, 0) R1 = (0, 23, pl, (s1, 1, 0))) := by show _ = _; rw [← HR1.out, sent_heard (srC_ok HN1.out (by decide) (by decide) (by decide) (by have := HPN.out; omega))]; rfl
  have H2 : Hid (hrD (s2, 0, 0) R2 = (0, 21, pl, (s2, 1, 0))) := by show _ = _; rw [← HR2.out, sent_heard (srC_ok HN2.out (by decide) (by decide) (by decide) (by have := HPN.out; omega))]; rfl
  have L1 : Hid (R1.length ≤ 1048576) := by have h := srD_small (s1, 0, 0) 23 pl 2; rw [S1.out] at h; exact Nat.le_trans (Nat.le_add_right _ _) h
  have L2 : Hid (R2.length ≤ 1048576) := by have h := srD_small (s2, 0, 0) 21 pl 0; rw [S2.out] at h; exact Nat.le_trans (Nat.le_add_right _ _) h
  have KS1 : Hid (∀ (W : World) (p : Option Addr) (q : Nat) (pp : Option Addr), Below w.heap.size w W → Rd W p q s1 → Rd W pp 3 pl → Calls Tryz.prog 10 #[.agg #[.slice p s1.length q, .int .i64 0, .int .i64 0], .int .i64 23, .slice pp 3 3, .int .i64 2] W fun e w' => ∃ us fp, e = .returned (.agg us.toArray) ∧ recordResultC.own w' W.heap.size ((0, 23, R1, (s1, 1, 0)) : RecordResultD) us fp ∧ Below W.heap.size W w') := fun W p q pp hb h1 h2 => by
    have h := implSr_k (s1, 0, 0) _ 23 pl _ 2 W (stream_mk (a := (s1, 0, 0)) h1) ⟨_, _, rfl, h2⟩ (HT.out.keep hb)
    rw [S1.out, HPN.out] at h
    exact h
  have KS2 : Hid (∀ (W : World) (p : Option Addr) (q : Nat) (pp : Option Addr), Below w.heap.size w W → Rd W p q s2 → Rd W pp 3 pl → Calls Tryz.prog 10 #[.agg #[.slice p s2.length q, .int .i64 0, .int .i64 0], .int .i64 21, .slice pp 3 3, .int .i64 0] W fun e w' => ∃ us fp, e = .returned (.agg us.toArray) ∧ recordResultC.own w' W.heap.size ((0, 21, R2, (s2, 1, 0)) : RecordResultD) us fp ∧ Below W.heap.size W w') := fun W p q pp hb h1 h2 => by
    have h := implSr_k (s2, 0, 0) _ 21 pl _ 0 W (stream_mk (a := (s2, 0, 0)) h1) ⟨_, _, rfl, h2⟩ (HT.out.keep hb)
    rw [S2.out, HPN.out] at h
    exact h
  have KH1 : Hid (∀ (W : World) (p : Option Addr) (q : Nat) (pp : Option Addr) (qq : Nat), Below w.heap.size w W → Rd W p q s1 → Rd W pp qq R1 → Calls Tryz.prog 11 #[.agg #[.slice p s1.length q, .int .i64 0, .int .i64 0], .slice pp R1.length qq] W fun e w' => ∃ us fp, e = .returned (.agg us.toArray) ∧ recordResultC.own w' W.heap.size ((0, 23, pl, (s1, 1, 0)) : RecordResultD) us fp ∧ Below W.heap.size W w') := fun W p q pp qq hb h1 h2 => by
    have h := implHr_k (s1, 0, 0) _ R1 _ W (stream_mk (a := (s1, 0, 0)) h1) ⟨_, _, rfl, h2⟩ L1.out (HT.out.keep hb) (HH.out.keep hb)
    rw [H1.out] at h
    exact h
  have KH2 : Hid (∀ (W : World) (p : Option Addr) (q : Nat) (pp : Option Addr) (qq : Nat), Below w.heap.size w W → Rd W p q s2 → Rd W pp qq R2 → Calls Tryz.prog 11 #[.agg #[.slice p s2.length q, .int .i64 0, .int .i64 0], .slice pp R2.length qq] W fun e w' => ∃ us fp, e = .returned (.agg us.toArray) ∧ recordResultC.own w' W.heap.size ((0, 21, pl, (s2, 1, 0)) : RecordResultD) us fp ∧ Below W.heap.size W w') := fun W p q pp qq hb h1 h2 => by
    have h := implHr_k (s2, 0, 0) _ R2 _ W (stream_mk (a := (s2, 0, 0)) h1) ⟨_, _, rfl, h2⟩ L2.out (HT.out.keep hb) (HH.out.keep hb)
    rw [H2.out] at h
    exact h
  clear HR1 HR2 S1 S2 H1 H2 L1 L2 HPL
  have c9 := (N.cell 9).trans u9
  have KR := KS1.out _ _ _ _ BW r1 rp
  go_wp2_with fail
  generalize w3.heap.size = gpl at *
  generalize w3.alloc (.cells #[.int .u8 (md : Int), .int .u8 7, .int .u8 0] 5) = V5 at *
  refine KR.mono ?_
  rintro e ws ⟨uss, fps, rfl, kos, hbs⟩
  obtain ⟨pbs, qbs, pts, qts, rfl, rbs, -⟩ := recordResult_rep (recordResultC.toRep kos)
  have hls := alloc_below ws (.cells #[.int .i64 0, .int .i64 23, .slice pbs R1.length qbs, .slice pts s1.length qts, .int .i64 1, .int .i64 0] 38)
  have Rs := Arr.new ws [.int .i64 0, .int .i64 23, .slice pbs R1.length qbs, .slice pts s1.length qts, .int .i64 1, .int .i64 0] 38
  have hbx := Below.step hbs hls
  replace N := N.stay hbx
  replace BW := Below.step BW hbx
  replace r1 := r1.keep hbx
  replace r2 := r2.keep hbx
  replace r3 := r3.keep hbx
  replace r4 := r4.keep hbx
  replace r5 := r5.keep hbx
  replace r6 := r6.keep hbx
  replace rp := rp.keep hbx
  replace rbs := rbs.keep hls
  clear KR hbs hls hbx kos c9
  have c21 := (N.cell 21).trans u21
  have ks2 := (Rs.cell 2).trans (show _ = some _ from rfl)
  have KR := KH1.out _ _ _ _ _ BW r4 rbs
  go_wp2_with fail
  refine KR.mono ?_
  rintro e wh ⟨ush, fph, rfl, koh, hbh⟩
  obtain ⟨pbh, qbh, pth, qth, rfl, rbh, -⟩ := recordResult_rep (recordResultC.toRep koh)
  have hlh := alloc_below wh (.cells #[.int .i64 0, .int .i64 23, .slice pbh pl.length qbh, .slice pth s1.length qth, .int .i64 1, .int .i64 0] 38)
  have Rh := Arr.new wh [.int .i64 0, .int .i64 23, .slice pbh pl.length qbh, .slice pth s1.length qth, .int .i64 1, .int .i64 0] 38
  have hbx := Below.step hbh hlh
  replace N := N.stay hbx
  replace Rs := Rs.stay hbx
  replace BW := Below.step BW hbx
  replace r1 := r1.keep hbx
  replace r2 := r2.keep hbx
  replace r3 := r3.keep hbx
  replace r4 := r4.keep hbx
  replace r5 := r5.keep hbx
  replace r6 := r6.keep hbx
  replace rp := rp.keep hbx
  replace rbs := rbs.keep hbx
  replace rbh := rbh.keep hlh
  clear KR hbh hlh hbx koh c21 ks2
  have c22 := (N.cell 22).trans u22
  have KR := KS2.out _ _ _ _ BW r5 rp
  go_wp2_with fail
  refine KR.mono ?_
  rintro e wt ⟨ust, fpt, rfl, kot, hbt⟩
  obtain ⟨pbt, qbt, ptt, qtt, rfl, rbt, -⟩ := recordResult_rep (recordResultC.toRep kot)
  have hlt := alloc_below wt (.cells #[.int .i64 0, .int .i64 21, .slice pbt R2.length qbt, .slice ptt s2.length qtt, .int .i64 1, .int .i64 0] 38)
  have Rt := Arr.new wt [.int .i64 0, .int .i64 21, .slice pbt R2.length qbt, .slice ptt s2.length qtt, .int .i64 1, .int .i64 0] 38
  have hbx := Below.step hbt hlt
  replace N := N.stay hbx
  replace Rs := Rs.stay hbx
  replace Rh := Rh.stay hbx
  replace BW := Below.step BW hbx
  replace r1 := r1.keep hbx
  replace r2 := r2.keep hbx
  replace r3 := r3.keep hbx
  replace r4 := r4.keep hbx
  replace r5 := r5.keep hbx
  replace r6 := r6.keep hbx
  replace rp := rp.keep hbx
  replace rbs := rbs.keep hbx
  replace rbh := rbh.keep hbx
  replace rbt := rbt.keep hlt
  clear KR hbt hlt hbx kot c22
  have c10 := (N.cell 10).trans u10
  have kt2 := (Rt.cell 2).trans (show _ = some _ from rfl)
  have KR := KH2.out _ _ _ _ _ BW r2 rbt
  go_wp2_with fail
  refine KR.mono ?_
  rintro e wu ⟨usu, fpu, rfl, kou, hbu⟩
  obtain ⟨pbu, qbu, ptu, qtu, rfl, rbu, -⟩ := recordResult_rep (recordResultC.toRep kou)
  have hlu := alloc_below wu (.cells #[.int .i64 0, .int .i64 21, .slice pbu pl.length qbu, .slice ptu s2.length qtu, .int .i64 1, .int .i64 0] 38)
  have Ru := Arr.new wu [.int .i64 0, .int .i64 21, .slice pbu pl.length qbu, .slice ptu s2.length qtu, .int .i64 1, .int .i64 0] 38
  have hbx := Below.step hbu hlu
  replace N := N.stay hbx
  replace Rs := Rs.stay hbx
  replace Rh := Rh.stay hbx
  replace Rt := Rt.stay hbx
  replace BW := Below.step BW hbx
  replace r1 := r1.keep hbx
  replace r2 := r2.keep hbx
  replace r3 := r3.keep hbx
  replace r4 := r4.keep hbx
  replace r5 := r5.keep hbx
  replace r6 := r6.keep hbx
  replace rp := rp.keep hbx
  replace rbs := rbs.keep hbx
  replace rbh := rbh.keep hbx
  replace rbt := rbt.keep hbx
  replace rbu := rbu.keep hlu
  clear KR hbu hlu hbx kou c10 kt2
  have n11 := (N.cell 11).trans u11
  have n23 := (N.cell 23).trans u23
  have ks0 := (Rs.cell 0).trans (show _ = some _ from rfl)
  have kh0 := (Rh.cell 0).trans (show _ = some _ from rfl)
  have kh2 := (Rh.cell 2).trans (show _ = some _ from rfl)
  have kt0 := (Rt.cell 0).trans (show _ = some _ from rfl)
  have ku0 := (Ru.cell 0).trans (show _ = some _ from rfl)
  have ku1 := (Ru.cell 1).trans (show _ = some _ from rfl)
  have ku2 := (Ru.cell 2).trans (show _ = some _ from rfl)
  clear N Rs Rh Rt Ru u0 u9 u10 u11 u21 u22 u23 KS1 KS2 KH1 KH2 rbs rbt r1 r2 r4 r5
  have KB : Hid (∀ (W : World) (p : Option Addr) (q : Nat), Below w.heap.size w W → Rd W p q s3 → Calls Tryz.prog 13 #[.slice p s3.length q] W fun e w' => ∃ u, e = .returned (.agg #[.int .i64 0, u]) ∧ Own w' W.heap.size u (biN s3) ∧ Below W.heap.size W w') := fun W p q hb hr => by
    have h := implBi_c p q s3 W hr (HT.out.keep hb)
    rw [show biD s3 = (0, biN s3) by rw [biD, show is32 s3 = true by simp [is32, HN3.out]]; rfl] at h
    exact h
  obtain ⟨bi, HBI⟩ : ∃ bi, Hid (biN s3 = bi) := ⟨_, rfl⟩
  rw [HBI.out] at KB
  clear HBI
  go_wp2_with fail
  generalize (wu.alloc (.cells #[.int .i64 0, .int .i64 21, .slice pbu pl.length qbu, .slice ptu s2.length qtu, .int .i64 1, .int .i64 0] 38)) = VF at *
  have hne := HW.some VF
  have F1 := bytes_f1
  have gn11 := HW.at n11
  have gn23 := HW.at n23
  have gks0 := HW.at ks0
  have gkh0 := HW.at kh0
  have gkh2 := HW.at kh2
  have gkt0 := HW.at kt0
  have gku0 := HW.at ku0
  have gku1 := HW.at ku1
  have gku2 := HW.at ku2
  clear n11 n23 ks0 kh0 kh2 kt0 ku0 ku1 ku2
  refine wp_region_pick [0, 1, 2, 3, 4, 5, 6, 7, 8, 9, 10, 11] 50 38 1 rfl rfl rfl (by kernel_rfl) (by kernel_rfl) (by kernel_rfl) (by kernel_rfl) ?_
  simp only [opsAt, List.getElem?_toArray, List.getElem?_cons_zero, List.getElem?_cons_succ]
  repeat (go_big_quiet_step (fail))
  refine wpQuiet_nil ?_
  refine wpM_only (i := 12) (by kernel_rfl) ?_
  refine mOp_call rfl (by go_simp) 12 _ #[.slice pbh pl.length qbh, .slice (some ⟨gpl, 0, none⟩) 3 3] (fun w => by go_simp) rfl ?_
  rintro _ ⟨sg0, rfl⟩
  refine (lwSame_yes _ _ _ _ _ _ pl _ rfl HPN.out (rbh.keep sg0.h) (rp.keep sg0.h)).mono ?_
  rintro e wg0 ⟨rfl, hwg⟩
  subst hwg
  refine ⟨_, rfl, ⟨⟨sg0.w, Below.refl _ _⟩, rfl⟩, ?_⟩
  have hbg : Below _ _ sg0.w := sg0.h
  replace gn11 := HW.down gn11 hbg
  replace gn23 := HW.down gn23 hbg
  replace gks0 := HW.down gks0 hbg
  replace gkh0 := HW.down gkh0 hbg
  replace gkh2 := HW.down gkh2 hbg
  replace gkt0 := HW.down gkt0 hbg
  replace gku0 := HW.down gku0 hbg
  replace gku1 := HW.down gku1 hbg
  replace gku2 := HW.down gku2 hbg
  replace rp := rp.keep hbg
  replace rbh := rbh.keep hbg
  replace rbu := rbu.keep hbg
  replace r3 := r3.keep hbg
  replace r6 := r6.keep hbg
  replace BW := Below.step BW hbg
  replace hne := HW.some sg0.w
  clear hbg
  generalize sg0.w = wg0 at *
  clear sg0
  refine wpM_more [13, 14, 15, 16, 17, 18, 19, 20, 21, 22, 23, 24, 25, 26, 27, 28, 29, 30, 31, 32] 37 17 rfl (by kernel_rfl) (by kernel_rfl) (by kernel_rfl) (by kernel_rfl) ?_
  simp only [opsAt, List.getElem?_toArray, List.getElem?_cons_zero, List.getElem?_cons_succ]
  go_simp
  repeat (go_big_quiet_step (fail))
  refine wpQuiet_nil ?_
  refine wpM_only (i := 33) (by kernel_rfl) ?_
  refine mOp_call rfl (by go_simp) 12 _ #[.slice pbu pl.length qbu, .slice (some ⟨gpl, 0, none⟩) 3 3] (fun w => by go_simp) rfl ?_
  rintro _ ⟨sg2, rfl⟩
  refine (lwSame_yes _ _ _ _ _ _ pl _ rfl HPN.out (rbu.keep sg2.h) (rp.keep sg2.h)).mono ?_
  rintro e wg2 ⟨rfl, hwg⟩
  subst hwg
  refine ⟨_, rfl, ⟨⟨sg2.w, Below.refl _ _⟩, rfl⟩, ?_⟩
  have hbg : Below _ _ sg2.w := sg2.h
  replace gn11 := HW.down gn11 hbg
  replace gn23 := HW.down gn23 hbg
  replace gks0 := HW.down gks0 hbg
  replace gkh0 := HW.down gkh0 hbg
  replace gkh2 := HW.down gkh2 hbg
  replace gkt0 := HW.down gkt0 hbg
  replace gku0 := HW.down gku0 hbg
  replace gku1 := HW.down gku1 hbg
  replace gku2 := HW.down gku2 hbg
  replace rp := rp.keep hbg
  replace rbh := rbh.keep hbg
  replace rbu := rbu.keep hbg
  replace r3 := r3.keep hbg
  replace r6 := r6.keep hbg
  replace BW := Below.step BW hbg
  replace hne := HW.some sg2.w
  clear hbg
  generalize sg2.w = wg2 at *
  clear sg2
  refine wpM_more [34, 35, 36, 37, 38, 39, 42, 43, 44, 45] 16 6 rfl (by kernel_rfl) (by kernel_rfl) (by kernel_rfl) (by kernel_rfl) ?_
  simp only [opsAt, List.getElem?_toArray, List.getElem?_cons_zero, List.getElem?_cons_succ]
  go_simp
  repeat (go_big_quiet_step (fail))
  refine wpQuiet_nil ?_
  refine wpM_only (i := 40) (by kernel_rfl) ?_
  refine mOp_call rfl (by go_simp) 13 _ #[.slice p3 s3.length q3] (fun w => by go_simp) rfl ?_
  rintro _ ⟨sg4, rfl⟩
  refine (KB.out _ _ _ (Below.step BW sg4.h) (r3.keep sg4.h)).mono ?_
  rintro e wg4 ⟨ug, rfl, kg, hbx⟩
  obtain ⟨pz1, qz1, rfl, rz1⟩ := kg.rd
  have hbg := Below.step sg4.h hbx
  refine ⟨_, rfl, ⟨⟨wg4, hbx⟩, rfl⟩, ?_⟩
  replace gn11 := HW.down gn11 hbg
  replace gn23 := HW.down gn23 hbg
  replace gks0 := HW.down gks0 hbg
  replace gkh0 := HW.down gkh0 hbg
  replace gkh2 := HW.down gkh2 hbg
  replace gkt0 := HW.down gkt0 hbg
  replace gku0 := HW.down gku0 hbg
  replace gku1 := HW.down gku1 hbg
  replace gku2 := HW.down gku2 hbg
  replace rp := rp.keep hbg
  replace rbh := rbh.keep hbg
  replace rbu := rbu.keep hbg
  replace r3 := r3.keep hbg
  replace r6 := r6.keep hbg
  replace BW := Below.step BW hbg
  replace hne := HW.some wg4
  clear hbg kg hbx
  refine wpM_more [41] 5 4 rfl (by kernel_rfl) (by kernel_rfl) (by kernel_rfl) (by kernel_rfl) ?_
  simp only [opsAt, List.getElem?_toArray, List.getElem?_cons_zero, List.getElem?_cons_succ]
  go_simp
  repeat (go_big_quiet_step (fail))
  refine wpQuiet_nil ?_
  refine wpM_only (i := 46) (by kernel_rfl) ?_
  refine mOp_call rfl (by go_simp) 13 _ #[.slice p6 s3.length q6] (fun w => by go_simp) rfl ?_
  rintro _ ⟨sg6, rfl⟩
  refine (KB.out _ _ _ (Below.step BW sg6.h) (r6.keep sg6.h)).mono ?_
  rintro e wg6 ⟨ug, rfl, kg, hbx⟩
  obtain ⟨pz2, qz2, rfl, rz2⟩ := kg.rd
  have hbg := Below.step sg6.h hbx
  refine ⟨_, rfl, ⟨⟨wg6, hbx⟩, rfl⟩, ?_⟩
  replace gn11 := HW.down gn11 hbg
  replace gn23 := HW.down gn23 hbg
  replace gks0 := HW.down gks0 hbg
  replace gkh0 := HW.down gkh0 hbg
  replace gkh2 := HW.down gkh2 hbg
  replace gkt0 := HW.down gkt0 hbg
  replace gku0 := HW.down gku0 hbg
  replace gku1 := HW.down gku1 hbg
  replace gku2 := HW.down gku2 hbg
  replace rp := rp.keep hbg
  replace rbh := rbh.keep hbg
  replace rbu := rbu.keep hbg
  replace r3 := r3.keep hbg
  replace r6 := r6.keep hbg
  replace rz1 := rz1.keep hbg
  replace BW := Below.step BW hbg
  replace hne := HW.some wg6
  clear hbg kg hbx
  refine wpM_more [47] 3 2 rfl (by kernel_rfl) (by kernel_rfl) (by kernel_rfl) (by kernel_rfl) ?_
  simp only [opsAt, List.getElem?_toArray, List.getElem?_cons_zero, List.getElem?_cons_succ]
  go_simp
  repeat (go_big_quiet_step (fail))
  refine wpQuiet_nil ?_
  refine wpM_only (i := 48) (by kernel_rfl) ?_
  refine mOp_call rfl (by go_simp) 12 _ #[.slice pz1 bi.length qz1, .slice pz2 bi.length qz2] (fun w => by go_simp) rfl ?_
  rintro _ ⟨sg8, rfl⟩
  refine (lwSame_yes _ _ _ _ _ _ bi _ rfl rfl (rz1.keep sg8.h) (rz2.keep sg8.h)).mono ?_
  rintro e wg8 ⟨rfl, hwg⟩
  subst hwg
  refine ⟨_, rfl, ⟨⟨sg8.w, Below.refl _ _⟩, rfl⟩, ?_⟩
  have hbg : Below _ _ sg8.w := sg8.h
  replace gn11 := HW.down gn11 hbg
  replace gn23 := HW.down gn23 hbg
  replace gks0 := HW.down gks0 hbg
  replace gkh0 := HW.down gkh0 hbg
  replace gkh2 := HW.down gkh2 hbg
  replace gkt0 := HW.down gkt0 hbg
  replace gku0 := HW.down gku0 hbg
  replace gku1 := HW.down gku1 hbg
  replace gku2 := HW.down gku2 hbg
  replace rp := rp.keep hbg
  replace rbh := rbh.keep hbg
  replace rbu := rbu.keep hbg
  replace r3 := r3.keep hbg
  replace r6 := r6.keep hbg
  replace rz1 := rz1.keep hbg
  replace rz2 := rz2.keep hbg
  replace BW := Below.step BW hbg
  replace hne := HW.some sg8.w
  clear hbg
  generalize sg8.w = wg8 at *
  clear sg8
  refine wpM_more [49] 1 0 rfl (by kernel_rfl) (by kernel_rfl) (by kernel_rfl) (by kernel_rfl) ?_
  simp only [opsAt, List.getElem?_toArray, List.getElem?_cons_zero, List.getElem?_cons_succ]
  go_simp
  repeat (go_big_quiet_step (fail))
  refine wpQuiet_nil ?_
  refine wpM_end (by kernel_rfl) rfl (by kernel_rfl) (by decide) ?_
  rintro _ ⟨sgz, rfl⟩
  simp only [List.drop_succ_cons, List.drop_zero]
  go_wp2
  go_ret
  exact ⟨rfl, Below.step BW sgz.h⟩
end Go.Proofs.YtdbpnibcblelbaaGreatDoor
