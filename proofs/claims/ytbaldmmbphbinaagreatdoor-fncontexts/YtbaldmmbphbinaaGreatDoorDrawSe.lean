/- The draws of chapter 14: sessions that are right (written by tools/draw_se.py). What comes out can be read; its bounds, no more. -/
import Derived.Test.YtbaldmmbphbinaaGreatDoorSesL
import Derived.Test.YtbaldmmbphbinaaGreatDoorJoint7
namespace Go.Proofs.YtbaldmmbphbinaaGreatDoor
open Go.ChangeShapes Go.WideShapes Go.ChangeAt Go.RowKit

/-- A session that was drawn, right; its bounds, no more. -/
def RightS (w : World) (b : Nat) (p : Option Addr) (q : Nat) (cs : List UInt8) (t : Int) (e : Ending) (w' : World) : Prop := ∃ (x : SesD) (vs : List Value) (fp : List Nat) (t' : Int), e = .returned (.agg vs.toArray) ∧ sessionC.own w' w.heap.size x vs fp ∧ x.1.length = 32 ∧ x.2.2.1.length ≤ 3 ∧ (∀ c ∈ x.2.2.1, c.length ≤ 3) ∧ x.2.2.2.1.length ≤ 2 ∧ (∀ c ∈ x.2.2.2.1, c.length ≤ 4) ∧ x.2.2.2.2.length ≤ 100 ∧ Rise x.2.2.2.2 ∧ (∀ h ∈ x.2.2.2.2, okH h = true) ∧ t ≤ t' ∧ t' ≤ t + 100 ∧ Src w' b p q cs t' ∧ w.grownBy w' (some b)
set_option maxRecDepth 4000 in
set_option maxHeartbeats 4000000 in
theorem l14Right_c (b : Nat) (p : Option Addr) (q : Nat) (cs : List UInt8) (t : Int) (w : World) (hs : Src w b p q cs t) (ht : 0 ≤ t) (ht2 : t ≤ 600000000) :
    Calls Tryz.prog 47 #[.pointer (some ⟨b, 0, none⟩)] w fun e w' => RightS w b p q cs t e w' := by
  obtain ⟨i0, hi, hz0, hz1, hz2⟩ := info_parts info8
  have hbw : Hid (b < w.heap.size) := hs.lt
  have R := Arr.new w [.slice none 0 0, .int .i64 0, .slice none 0 0, .slice none 0 0, .slice none 0 0] 27
  have GW := World.grownBy_alloc w (.cells #[.slice none 0 0, .int .i64 0, .slice none 0 0, .slice none 0 0, .slice none 0 0] 27) (some b)
  have HS := hs.keep (alloc_below w (.cells #[.slice none 0 0, .int .i64 0, .slice none 0 0, .slice none 0 0, .slice none 0 0] 27))
  have hz : Hid ((w.alloc (.cells #[.slice none 0 0, .int .i64 0, .slice none 0 0, .slice none 0 0, .slice none 0 0] 27)).heap.size = w.heap.size + 1) := size_alloc _ _
  have hres : Hid ((Tryz.prog.info? 27).map (·.size) = some 5) := by show _ = _; kernel_rfl
  clear hs
  go_enter Tryz.func47, Tryz.ntmps47
  go_wp2_with fail
  generalize hV : w.alloc (.cells #[.slice none 0 0, .int .i64 0, .slice none 0 0, .slice none 0 0, .slice none 0 0] 27) = V at *
  have hzV : Hid (V.heap.size = w.heap.size + 1) := hz.out
  clear hV hz
  apply share
  case h =>
    intro JN
    have GB := World.grownBy.refl V (some b)
    have hne := Gen.But.some b V
    refine Gen.wp_region_pick (Gen.But.pre b) [1] 6 5 1 rfl rfl rfl (by kernel_rfl) (by kernel_rfl) (by kernel_rfl) (by kernel_rfl) ?_
    simp only [opsAt, List.getElem?_toArray, List.getElem?_cons_zero, List.getElem?_cons_succ]
    repeat (go_big_quiet_step (fail))
    refine wpQuiet_nil ?_
    refine Gen.wpM_three (i := 0) (j := 2) (k := 5) (by kernel_rfl) ?_ ?_ ?_
    · skip
      refine Gen.mOp_mk rfl (by go_simp) (by kernel_rfl) ?_
      rintro _ ⟨n9, rfl⟩
      have D9 : Below V.heap.size V (V.drewN n9) := ⟨rfl, rfl, rfl, Nat.le_refl _, fun _ _ => rfl⟩
      have G9 := grownBy_drewN V n9 (some b)
      generalize V.drewN n9 = sv1 at *
      replace HS := HS.keep D9
      replace GB := grownBy_trans GB G9
      clear D9 G9
      refine wpList_make_full _ rfl (.const (.int .i64 32)) (.const (.int .i64 32)) 22 rfl sv1.heap.size 5 i0 (.int .u8 0) 1 Tryz.underlying22 hi hz0 hz1 .i64 .i64 _ _ 32 rfl rfl rfl rfl (by rw [hz2]; decide) (by unfold maxLen; decide) (Nat.le_refl _) ?_
      intro wg1 hown hgrow
      have hD : Below sv1.heap.size sv1 wg1 := (Below.refl _ _).grown hgrow (Nat.le_refl _) (fun k hk => by simp at hk)
      replace hown := made_zeros hown
      refine ⟨rfl, Gen.grown_any hgrow _, ?_⟩
      have OE := (hown.lower (show V.heap.size ≤ sv1.heap.size from GB.size) : Own _ V.heap.size _ _)
      have GE := (show Hid (V.heap.size ≤ sv1.heap.size) from GB.size)
      replace HS := HS.keep hD
      replace GB := grownBy_trans GB (Gen.grown_any hgrow _)
      clear hown hgrow hD
      replace hne := Gen.But.some b wg1
      generalize sv1.heap.size = ge at *
      refine Gen.wpM_two (i := 2) (j := 5) (by kernel_rfl) ?_ ?_
      · skip
        refine Gen.mOp_call rfl (by go_simp) 32 _ #[.pointer (some ⟨b, 0, none⟩), .int .i64 2] (fun w => by go_simp) rfl ?_
        rintro _ ⟨n9, rfl⟩
        have D9 : Below wg1.heap.size wg1 (wg1.drewN n9) := ⟨rfl, rfl, rfl, Nat.le_refl _, fun _ _ => rfl⟩
        have G9 := grownBy_drewN wg1 n9 (some b)
        generalize wg1.drewN n9 = sv2 at *
        replace HS := HS.keep D9
        replace OE := OE.stay D9
        replace GB := grownBy_trans GB G9
        clear D9 G9
        refine (l1Next_c b p q cs t 2 _ HS (by omega) (by omega) (by omega) (by omega)).mono ?_
        rintro e wg2 ⟨r, rfl, hr1, hr2, hs2, hg⟩
        refine ⟨_, rfl, ⟨⟨wg2, hg⟩, rfl⟩, ?_⟩
        have HR := (show Hid (0 ≤ r ∧ r < 2) from ⟨hr1, hr2⟩)
        replace HS := hs2
        replace OE := OE.other hg (fun k hk e => by have h3 := OE.ge k hk; have h1 := hbw.out; have h2 := hzV.out; simp at e; omega)
        replace GB := grownBy_trans GB hg
        clear hg hr1 hr2
        replace hne := Gen.But.some b wg2
        refine Gen.wpM_more (Gen.But.pre b) [3] 3 2 rfl (by kernel_rfl) (by kernel_rfl) (by kernel_rfl) (by kernel_rfl) ?_
        simp only [opsAt, List.getElem?_toArray, List.getElem?_cons_zero, List.getElem?_cons_succ]
        go_simp
        repeat (go_big_quiet_step (fail))
        refine wpQuiet_nil ?_
        refine Gen.wpM_more (Gen.But.pre b) [4] 2 1 rfl (by kernel_rfl) (by kernel_rfl) (by kernel_rfl) (by kernel_rfl) ?_
        simp only [opsAt, List.getElem?_toArray, List.getElem?_cons_zero, List.getElem?_cons_succ]
        go_simp
        repeat (go_big_quiet_step (fail))
        refine wpQuiet_nil ?_
        refine Gen.wpM_only (i := 5) (by kernel_rfl) ?_
        refine Gen.mOp_make rfl (by go_simp) ?_
        rintro _ ⟨n9, rfl⟩
        have D9 : Below wg2.heap.size wg2 (wg2.drewN n9) := ⟨rfl, rfl, rfl, Nat.le_refl _, fun _ _ => rfl⟩
        have G9 := grownBy_drewN wg2 n9 (some b)
        generalize wg2.drewN n9 = sv3 at *
        replace HS := HS.keep D9
        replace OE := OE.stay D9
        replace GB := grownBy_trans GB G9
        clear D9 G9
        refine ⟨.pointer (some ⟨sv3.heap.size, 0, none⟩), sv3.alloc (.cells #[.slice none 0 0, .int .i64 0, .slice none 0 0, .slice none 0 0, .slice none 0 0] 27), by go_simp, ⟨⟨_, World.grownBy_alloc _ _ _⟩, rfl⟩, ?_⟩
        have hD := alloc_below sv3 (.cells #[.slice none 0 0, .int .i64 0, .slice none 0 0, .slice none 0 0, .slice none 0 0] 27)
        have AZ := Arr.new sv3 [.slice none 0 0, .int .i64 0, .slice none 0 0, .slice none 0 0, .slice none 0 0] 27
        have GZ := (show Hid (V.heap.size ≤ sv3.heap.size) from GB.size)
        have NE := (show Hid (ge ≠ sv3.heap.size) from fun e => by have h1 := World.ownsRow.lt OE ge rfl; omega)
        replace HS := HS.keep hD
        replace OE := OE.stay hD
        replace GB := grownBy_trans GB (World.grownBy_alloc sv3 (.cells #[.slice none 0 0, .int .i64 0, .slice none 0 0, .slice none 0 0, .slice none 0 0] 27) (some b))
        clear hD
        replace hne := Gen.But.some b (sv3.alloc (.cells #[.slice none 0 0, .int .i64 0, .slice none 0 0, .slice none 0 0, .slice none 0 0] 27))
        generalize hW : (sv3.alloc (.cells #[.slice none 0 0, .int .i64 0, .slice none 0 0, .slice none 0 0, .slice none 0 0] 27)) = wg3 at *
        clear hW
        generalize sv3.heap.size = gz at *
        refine Gen.wpM_end (by kernel_rfl) rfl (by kernel_rfl) (by decide) ?_
        rintro _ ⟨n9, rfl⟩
        have D9 : Below wg3.heap.size wg3 (wg3.drewN n9) := ⟨rfl, rfl, rfl, Nat.le_refl _, fun _ _ => rfl⟩
        have G9 := grownBy_drewN wg3 n9 (some b)
        generalize wg3.drewN n9 = W at *
        simp only [List.drop_succ_cons, List.drop_zero]
        go_simp
        replace HS := HS.keep D9
        replace OE := OE.stay D9
        replace AZ := AZ.stay D9
        replace GB := grownBy_trans GB G9
        clear hne D9 G9
        revert NE
        revert GZ
        revert AZ
        revert HR
        revert GE
        revert OE
        revert HS
        revert GB
        revert gz
        revert r
        revert ge
        revert W
        exact JN.out
      · skip
        refine Gen.mOp_make rfl (by go_simp) ?_
        rintro _ ⟨n9, rfl⟩
        have D9 : Below wg1.heap.size wg1 (wg1.drewN n9) := ⟨rfl, rfl, rfl, Nat.le_refl _, fun _ _ => rfl⟩
        have G9 := grownBy_drewN wg1 n9 (some b)
        generalize wg1.drewN n9 = sv4 at *
        replace HS := HS.keep D9
        replace OE := OE.stay D9
        replace GB := grownBy_trans GB G9
        clear D9 G9
        refine ⟨.pointer (some ⟨sv4.heap.size, 0, none⟩), sv4.alloc (.cells #[.slice none 0 0, .int .i64 0, .slice none 0 0, .slice none 0 0, .slice none 0 0] 27), by go_simp, ⟨⟨_, World.grownBy_alloc _ _ _⟩, rfl⟩, ?_⟩
        have hD := alloc_below sv4 (.cells #[.slice none 0 0, .int .i64 0, .slice none 0 0, .slice none 0 0, .slice none 0 0] 27)
        have AZ := Arr.new sv4 [.slice none 0 0, .int .i64 0, .slice none 0 0, .slice none 0 0, .slice none 0 0] 27
        have GZ := (show Hid (V.heap.size ≤ sv4.heap.size) from GB.size)
        have NE := (show Hid (ge ≠ sv4.heap.size) from fun e => by have h1 := World.ownsRow.lt OE ge rfl; omega)
        replace HS := HS.keep hD
        replace OE := OE.stay hD
        replace GB := grownBy_trans GB (World.grownBy_alloc sv4 (.cells #[.slice none 0 0, .int .i64 0, .slice none 0 0, .slice none 0 0, .slice none 0 0] 27) (some b))
        clear hD
        replace hne := Gen.But.some b (sv4.alloc (.cells #[.slice none 0 0, .int .i64 0, .slice none 0 0, .slice none 0 0, .slice none 0 0] 27))
        generalize hW : (sv4.alloc (.cells #[.slice none 0 0, .int .i64 0, .slice none 0 0, .slice none 0 0, .slice none 0 0] 27)) = wg4 at *
        clear hW
        generalize sv4.heap.size = gz at *
        refine Gen.wpM_only (i := 2) (by kernel_rfl) ?_
        refine Gen.mOp_call rfl (by go_simp) 32 _ #[.pointer (some ⟨b, 0, none⟩), .int .i64 2] (fun w => by go_simp) rfl ?_
        rintro _ ⟨n9, rfl⟩
        have D9 : Below wg4.heap.size wg4 (wg4.drewN n9) := ⟨rfl, rfl, rfl, Nat.le_refl _, fun _ _ => rfl⟩
        have G9 := grownBy_drewN wg4 n9 (some b)
        generalize wg4.drewN n9 = sv5 at *
        replace HS := HS.keep D9
        replace OE := OE.stay D9
        replace AZ := AZ.stay D9
        replace GB := grownBy_trans GB G9
        clear D9 G9
        refine (l1Next_c b p q cs t 2 _ HS (by omega) (by omega) (by omega) (by omega)).mono ?_
        rintro e wg5 ⟨r, rfl, hr1, hr2, hs2, hg⟩
        refine ⟨_, rfl, ⟨⟨wg5, hg⟩, rfl⟩, ?_⟩
        have HR := (show Hid (0 ≤ r ∧ r < 2) from ⟨hr1, hr2⟩)
        replace HS := hs2
        replace OE := OE.other hg (fun k hk e => by have h3 := OE.ge k hk; have h1 := hbw.out; have h2 := hzV.out; simp at e; omega)
        replace AZ := AZ.other hg (fun e => by have h1 := Option.some.inj e; have h3 := hbw.out; have h2 := hzV.out; have h4 := GZ.out; omega)
        replace GB := grownBy_trans GB hg
        clear hg hr1 hr2
        replace hne := Gen.But.some b wg5
        refine Gen.wpM_more (Gen.But.pre b) [3] 2 1 rfl (by kernel_rfl) (by kernel_rfl) (by kernel_rfl) (by kernel_rfl) ?_
        simp only [opsAt, List.getElem?_toArray, List.getElem?_cons_zero, List.getElem?_cons_succ]
        go_simp
        repeat (go_big_quiet_step (fail))
        refine wpQuiet_nil ?_
        refine Gen.wpM_more (Gen.But.pre b) [4] 1 0 rfl (by kernel_rfl) (by kernel_rfl) (by kernel_rfl) (by kernel_rfl) ?_
        simp only [opsAt, List.getElem?_toArray, List.getElem?_cons_zero, List.getElem?_cons_succ]
        go_simp
        repeat (go_big_quiet_step (fail))
        refine wpQuiet_nil ?_
        refine Gen.wpM_end (by kernel_rfl) rfl (by kernel_rfl) (by decide) ?_
        rintro _ ⟨n9, rfl⟩
        have D9 : Below wg5.heap.size wg5 (wg5.drewN n9) := ⟨rfl, rfl, rfl, Nat.le_refl _, fun _ _ => rfl⟩
        have G9 := grownBy_drewN wg5 n9 (some b)
        generalize wg5.drewN n9 = W at *
        simp only [List.drop_succ_cons, List.drop_zero]
        go_simp
        replace HS := HS.keep D9
        replace OE := OE.stay D9
        replace AZ := AZ.stay D9
        replace GB := grownBy_trans GB G9
        clear hne D9 G9
        revert NE
        revert GZ
        revert AZ
        revert HR
        revert GE
        revert OE
        revert HS
        revert GB
        revert gz
        revert r
        revert ge
        revert W
        exact JN.out
    · skip
      refine Gen.mOp_call rfl (by go_simp) 32 _ #[.pointer (some ⟨b, 0, none⟩), .int .i64 2] (fun w => by go_simp) rfl ?_
      rintro _ ⟨n9, rfl⟩
      have D9 : Below V.heap.size V (V.drewN n9) := ⟨rfl, rfl, rfl, Nat.le_refl _, fun _ _ => rfl⟩
      have G9 := grownBy_drewN V n9 (some b)
      generalize V.drewN n9 = sv6 at *
      replace HS := HS.keep D9
      replace GB := grownBy_trans GB G9
      clear D9 G9
      refine (l1Next_c b p q cs t 2 _ HS (by omega) (by omega) (by omega) (by omega)).mono ?_
      rintro e wg6 ⟨r, rfl, hr1, hr2, hs2, hg⟩
      refine ⟨_, rfl, ⟨⟨wg6, hg⟩, rfl⟩, ?_⟩
      have HR := (show Hid (0 ≤ r ∧ r < 2) from ⟨hr1, hr2⟩)
      replace HS := hs2
      replace GB := grownBy_trans GB hg
      clear hg hr1 hr2
      replace hne := Gen.But.some b wg6
      refine Gen.wpM_more (Gen.But.pre b) [3] 4 3 rfl (by kernel_rfl) (by kernel_rfl) (by kernel_rfl) (by kernel_rfl) ?_
      simp only [opsAt, List.getElem?_toArray, List.getElem?_cons_zero, List.getElem?_cons_succ]
      go_simp
      repeat (go_big_quiet_step (fail))
      refine wpQuiet_nil ?_
      refine Gen.wpM_two (i := 0) (j := 5) (by kernel_rfl) ?_ ?_
      · skip
        refine Gen.mOp_mk rfl (by go_simp) (by kernel_rfl) ?_
        rintro _ ⟨n9, rfl⟩
        have D9 : Below wg6.heap.size wg6 (wg6.drewN n9) := ⟨rfl, rfl, rfl, Nat.le_refl _, fun _ _ => rfl⟩
        have G9 := grownBy_drewN wg6 n9 (some b)
        generalize wg6.drewN n9 = sv7 at *
        replace HS := HS.keep D9
        replace GB := grownBy_trans GB G9
        clear D9 G9
        refine wpList_make_full _ rfl (.const (.int .i64 32)) (.const (.int .i64 32)) 22 rfl sv7.heap.size 5 i0 (.int .u8 0) 1 Tryz.underlying22 hi hz0 hz1 .i64 .i64 _ _ 32 rfl rfl rfl rfl (by rw [hz2]; decide) (by unfold maxLen; decide) (Nat.le_refl _) ?_
        intro wg7 hown hgrow
        have hD : Below sv7.heap.size sv7 wg7 := (Below.refl _ _).grown hgrow (Nat.le_refl _) (fun k hk => by simp at hk)
        replace hown := made_zeros hown
        refine ⟨rfl, Gen.grown_any hgrow _, ?_⟩
        have OE := (hown.lower (show V.heap.size ≤ sv7.heap.size from GB.size) : Own _ V.heap.size _ _)
        have GE := (show Hid (V.heap.size ≤ sv7.heap.size) from GB.size)
        replace HS := HS.keep hD
        replace GB := grownBy_trans GB (Gen.grown_any hgrow _)
        clear hown hgrow hD
        replace hne := Gen.But.some b wg7
        generalize sv7.heap.size = ge at *
        refine Gen.wpM_more (Gen.But.pre b) [4] 2 1 rfl (by kernel_rfl) (by kernel_rfl) (by kernel_rfl) (by kernel_rfl) ?_
        simp only [opsAt, List.getElem?_toArray, List.getElem?_cons_zero, List.getElem?_cons_succ]
        go_simp
        repeat (go_big_quiet_step (fail))
        refine wpQuiet_nil ?_
        refine Gen.wpM_only (i := 5) (by kernel_rfl) ?_
        refine Gen.mOp_make rfl (by go_simp) ?_
        rintro _ ⟨n9, rfl⟩
        have D9 : Below wg7.heap.size wg7 (wg7.drewN n9) := ⟨rfl, rfl, rfl, Nat.le_refl _, fun _ _ => rfl⟩
        have G9 := grownBy_drewN wg7 n9 (some b)
        generalize wg7.drewN n9 = sv8 at *
        replace HS := HS.keep D9
        replace OE := OE.stay D9
        replace GB := grownBy_trans GB G9
        clear D9 G9
        refine ⟨.pointer (some ⟨sv8.heap.size, 0, none⟩), sv8.alloc (.cells #[.slice none 0 0, .int .i64 0, .slice none 0 0, .slice none 0 0, .slice none 0 0] 27), by go_simp, ⟨⟨_, World.grownBy_alloc _ _ _⟩, rfl⟩, ?_⟩
        have hD := alloc_below sv8 (.cells #[.slice none 0 0, .int .i64 0, .slice none 0 0, .slice none 0 0, .slice none 0 0] 27)
        have AZ := Arr.new sv8 [.slice none 0 0, .int .i64 0, .slice none 0 0, .slice none 0 0, .slice none 0 0] 27
        have GZ := (show Hid (V.heap.size ≤ sv8.heap.size) from GB.size)
        have NE := (show Hid (ge ≠ sv8.heap.size) from fun e => by have h1 := World.ownsRow.lt OE ge rfl; omega)
        replace HS := HS.keep hD
        replace OE := OE.stay hD
        replace GB := grownBy_trans GB (World.grownBy_alloc sv8 (.cells #[.slice none 0 0, .int .i64 0, .slice none 0 0, .slice none 0 0, .slice none 0 0] 27) (some b))
        clear hD
        replace hne := Gen.But.some b (sv8.alloc (.cells #[.slice none 0 0, .int .i64 0, .slice none 0 0, .slice none 0 0, .slice none 0 0] 27))
        generalize hW : (sv8.alloc (.cells #[.slice none 0 0, .int .i64 0, .slice none 0 0, .slice none 0 0, .slice none 0 0] 27)) = wg8 at *
        clear hW
        generalize sv8.heap.size = gz at *
        refine Gen.wpM_end (by kernel_rfl) rfl (by kernel_rfl) (by decide) ?_
        rintro _ ⟨n9, rfl⟩
        have D9 : Below wg8.heap.size wg8 (wg8.drewN n9) := ⟨rfl, rfl, rfl, Nat.le_refl _, fun _ _ => rfl⟩
        have G9 := grownBy_drewN wg8 n9 (some b)
        generalize wg8.drewN n9 = W at *
        simp only [List.drop_succ_cons, List.drop_zero]
        go_simp
        replace HS := HS.keep D9
        replace OE := OE.stay D9
        replace AZ := AZ.stay D9
        replace GB := grownBy_trans GB G9
        clear hne D9 G9
        revert NE
        revert GZ
        revert AZ
        revert HR
        revert GE
        revert OE
        revert HS
        revert GB
        revert gz
        revert r
        revert ge
        revert W
        exact JN.out
      · skip
        refine Gen.mOp_make rfl (by go_simp) ?_
        rintro _ ⟨n9, rfl⟩
        have D9 : Below wg6.heap.size wg6 (wg6.drewN n9) := ⟨rfl, rfl, rfl, Nat.le_refl _, fun _ _ => rfl⟩
        have G9 := grownBy_drewN wg6 n9 (some b)
        generalize wg6.drewN n9 = sv9 at *
        replace HS := HS.keep D9
        replace GB := grownBy_trans GB G9
        clear D9 G9
        refine ⟨.pointer (some ⟨sv9.heap.size, 0, none⟩), sv9.alloc (.cells #[.slice none 0 0, .int .i64 0, .slice none 0 0, .slice none 0 0, .slice none 0 0] 27), by go_simp, ⟨⟨_, World.grownBy_alloc _ _ _⟩, rfl⟩, ?_⟩
        have hD := alloc_below sv9 (.cells #[.slice none 0 0, .int .i64 0, .slice none 0 0, .slice none 0 0, .slice none 0 0] 27)
        have AZ := Arr.new sv9 [.slice none 0 0, .int .i64 0, .slice none 0 0, .slice none 0 0, .slice none 0 0] 27
        have GZ := (show Hid (V.heap.size ≤ sv9.heap.size) from GB.size)
        replace HS := HS.keep hD
        replace GB := grownBy_trans GB (World.grownBy_alloc sv9 (.cells #[.slice none 0 0, .int .i64 0, .slice none 0 0, .slice none 0 0, .slice none 0 0] 27) (some b))
        clear hD
        replace hne := Gen.But.some b (sv9.alloc (.cells #[.slice none 0 0, .int .i64 0, .slice none 0 0, .slice none 0 0, .slice none 0 0] 27))
        generalize hW : (sv9.alloc (.cells #[.slice none 0 0, .int .i64 0, .slice none 0 0, .slice none 0 0, .slice none 0 0] 27)) = wg9 at *
        clear hW
        generalize sv9.heap.size = gz at *
        refine Gen.wpM_only (i := 0) (by kernel_rfl) ?_
        refine Gen.mOp_mk rfl (by go_simp) (by kernel_rfl) ?_
        rintro _ ⟨n9, rfl⟩
        have D9 : Below wg9.heap.size wg9 (wg9.drewN n9) := ⟨rfl, rfl, rfl, Nat.le_refl _, fun _ _ => rfl⟩
        have G9 := grownBy_drewN wg9 n9 (some b)
        generalize wg9.drewN n9 = sv10 at *
        replace HS := HS.keep D9
        replace AZ := AZ.stay D9
        replace GB := grownBy_trans GB G9
        clear D9 G9
        refine wpList_make_full _ rfl (.const (.int .i64 32)) (.const (.int .i64 32)) 22 rfl sv10.heap.size 5 i0 (.int .u8 0) 1 Tryz.underlying22 hi hz0 hz1 .i64 .i64 _ _ 32 rfl rfl rfl rfl (by rw [hz2]; decide) (by unfold maxLen; decide) (Nat.le_refl _) ?_
        intro wg10 hown hgrow
        have hD : Below sv10.heap.size sv10 wg10 := (Below.refl _ _).grown hgrow (Nat.le_refl _) (fun k hk => by simp at hk)
        replace hown := made_zeros hown
        refine ⟨rfl, Gen.grown_any hgrow _, ?_⟩
        have OE := (hown.lower (show V.heap.size ≤ sv10.heap.size from GB.size) : Own _ V.heap.size _ _)
        have GE := (show Hid (V.heap.size ≤ sv10.heap.size) from GB.size)
        have NE := (show Hid (sv10.heap.size ≠ gz) from fun e => by have h1 := AZ.lt; omega)
        replace HS := HS.keep hD
        replace AZ := AZ.stay hD
        replace GB := grownBy_trans GB (Gen.grown_any hgrow _)
        clear hown hgrow hD
        replace hne := Gen.But.some b wg10
        generalize sv10.heap.size = ge at *
        refine Gen.wpM_more (Gen.But.pre b) [4] 1 0 rfl (by kernel_rfl) (by kernel_rfl) (by kernel_rfl) (by kernel_rfl) ?_
        simp only [opsAt, List.getElem?_toArray, List.getElem?_cons_zero, List.getElem?_cons_succ]
        go_simp
        repeat (go_big_quiet_step (fail))
        refine wpQuiet_nil ?_
        refine Gen.wpM_end (by kernel_rfl) rfl (by kernel_rfl) (by decide) ?_
        rintro _ ⟨n9, rfl⟩
        have D9 : Below wg10.heap.size wg10 (wg10.drewN n9) := ⟨rfl, rfl, rfl, Nat.le_refl _, fun _ _ => rfl⟩
        have G9 := grownBy_drewN wg10 n9 (some b)
        generalize wg10.drewN n9 = W at *
        simp only [List.drop_succ_cons, List.drop_zero]
        go_simp
        replace HS := HS.keep D9
        replace AZ := AZ.stay D9
        replace OE := OE.stay D9
        replace GB := grownBy_trans GB G9
        clear hne D9 G9
        revert NE
        revert GZ
        revert AZ
        revert HR
        revert GE
        revert OE
        revert HS
        revert GB
        revert gz
        revert r
        revert ge
        revert W
        exact JN.out
    · skip
      refine Gen.mOp_make rfl (by go_simp) ?_
      rintro _ ⟨n9, rfl⟩
      have D9 : Below V.heap.size V (V.drewN n9) := ⟨rfl, rfl, rfl, Nat.le_refl _, fun _ _ => rfl⟩
      have G9 := grownBy_drewN V n9 (some b)
      generalize V.drewN n9 = sv11 at *
      replace HS := HS.keep D9
      replace GB := grownBy_trans GB G9
      clear D9 G9
      refine ⟨.pointer (some ⟨sv11.heap.size, 0, none⟩), sv11.alloc (.cells #[.slice none 0 0, .int .i64 0, .slice none 0 0, .slice none 0 0, .slice none 0 0] 27), by go_simp, ⟨⟨_, World.grownBy_alloc _ _ _⟩, rfl⟩, ?_⟩
      have hD := alloc_below sv11 (.cells #[.slice none 0 0, .int .i64 0, .slice none 0 0, .slice none 0 0, .slice none 0 0] 27)
      have AZ := Arr.new sv11 [.slice none 0 0, .int .i64 0, .slice none 0 0, .slice none 0 0, .slice none 0 0] 27
      have GZ := (show Hid (V.heap.size ≤ sv11.heap.size) from GB.size)
      replace HS := HS.keep hD
      replace GB := grownBy_trans GB (World.grownBy_alloc sv11 (.cells #[.slice none 0 0, .int .i64 0, .slice none 0 0, .slice none 0 0, .slice none 0 0] 27) (some b))
      clear hD
      replace hne := Gen.But.some b (sv11.alloc (.cells #[.slice none 0 0, .int .i64 0, .slice none 0 0, .slice none 0 0, .slice none 0 0] 27))
      generalize hW : (sv11.alloc (.cells #[.slice none 0 0, .int .i64 0, .slice none 0 0, .slice none 0 0, .slice none 0 0] 27)) = wg11 at *
      clear hW
      generalize sv11.heap.size = gz at *
      refine Gen.wpM_two (i := 0) (j := 2) (by kernel_rfl) ?_ ?_
      · skip
        refine Gen.mOp_mk rfl (by go_simp) (by kernel_rfl) ?_
        rintro _ ⟨n9, rfl⟩
        have D9 : Below wg11.heap.size wg11 (wg11.drewN n9) := ⟨rfl, rfl, rfl, Nat.le_refl _, fun _ _ => rfl⟩
        have G9 := grownBy_drewN wg11 n9 (some b)
        generalize wg11.drewN n9 = sv12 at *
        replace HS := HS.keep D9
        replace AZ := AZ.stay D9
        replace GB := grownBy_trans GB G9
        clear D9 G9
        refine wpList_make_full _ rfl (.const (.int .i64 32)) (.const (.int .i64 32)) 22 rfl sv12.heap.size 5 i0 (.int .u8 0) 1 Tryz.underlying22 hi hz0 hz1 .i64 .i64 _ _ 32 rfl rfl rfl rfl (by rw [hz2]; decide) (by unfold maxLen; decide) (Nat.le_refl _) ?_
        intro wg12 hown hgrow
        have hD : Below sv12.heap.size sv12 wg12 := (Below.refl _ _).grown hgrow (Nat.le_refl _) (fun k hk => by simp at hk)
        replace hown := made_zeros hown
        refine ⟨rfl, Gen.grown_any hgrow _, ?_⟩
        have OE := (hown.lower (show V.heap.size ≤ sv12.heap.size from GB.size) : Own _ V.heap.size _ _)
        have GE := (show Hid (V.heap.size ≤ sv12.heap.size) from GB.size)
        have NE := (show Hid (sv12.heap.size ≠ gz) from fun e => by have h1 := AZ.lt; omega)
        replace HS := HS.keep hD
        replace AZ := AZ.stay hD
        replace GB := grownBy_trans GB (Gen.grown_any hgrow _)
        clear hown hgrow hD
        replace hne := Gen.But.some b wg12
        generalize sv12.heap.size = ge at *
        refine Gen.wpM_only (i := 2) (by kernel_rfl) ?_
        refine Gen.mOp_call rfl (by go_simp) 32 _ #[.pointer (some ⟨b, 0, none⟩), .int .i64 2] (fun w => by go_simp) rfl ?_
        rintro _ ⟨n9, rfl⟩
        have D9 : Below wg12.heap.size wg12 (wg12.drewN n9) := ⟨rfl, rfl, rfl, Nat.le_refl _, fun _ _ => rfl⟩
        have G9 := grownBy_drewN wg12 n9 (some b)
        generalize wg12.drewN n9 = sv13 at *
        replace HS := HS.keep D9
        replace AZ := AZ.stay D9
        replace OE := OE.stay D9
        replace GB := grownBy_trans GB G9
        clear D9 G9
        refine (l1Next_c b p q cs t 2 _ HS (by omega) (by omega) (by omega) (by omega)).mono ?_
        rintro e wg13 ⟨r, rfl, hr1, hr2, hs2, hg⟩
        refine ⟨_, rfl, ⟨⟨wg13, hg⟩, rfl⟩, ?_⟩
        have HR := (show Hid (0 ≤ r ∧ r < 2) from ⟨hr1, hr2⟩)
        replace HS := hs2
        replace AZ := AZ.other hg (fun e => by have h1 := Option.some.inj e; have h3 := hbw.out; have h2 := hzV.out; have h4 := GZ.out; omega)
        replace OE := OE.other hg (fun k hk e => by have h3 := OE.ge k hk; have h1 := hbw.out; have h2 := hzV.out; simp at e; omega)
        replace GB := grownBy_trans GB hg
        clear hg hr1 hr2
        replace hne := Gen.But.some b wg13
        refine Gen.wpM_more (Gen.But.pre b) [3] 2 1 rfl (by kernel_rfl) (by kernel_rfl) (by kernel_rfl) (by kernel_rfl) ?_
        simp only [opsAt, List.getElem?_toArray, List.getElem?_cons_zero, List.getElem?_cons_succ]
        go_simp
        repeat (go_big_quiet_step (fail))
        refine wpQuiet_nil ?_
        refine Gen.wpM_more (Gen.But.pre b) [4] 1 0 rfl (by kernel_rfl) (by kernel_rfl) (by kernel_rfl) (by kernel_rfl) ?_
        simp only [opsAt, List.getElem?_toArray, List.getElem?_cons_zero, List.getElem?_cons_succ]
        go_simp
        repeat (go_big_quiet_step (fail))
        refine wpQuiet_nil ?_
        refine Gen.wpM_end (by kernel_rfl) rfl (by kernel_rfl) (by decide) ?_
        rintro _ ⟨n9, rfl⟩
        have D9 : Below wg13.heap.size wg13 (wg13.drewN n9) := ⟨rfl, rfl, rfl, Nat.le_refl _, fun _ _ => rfl⟩
        have G9 := grownBy_drewN wg13 n9 (some b)
        generalize wg13.drewN n9 = W at *
        simp only [List.drop_succ_cons, List.drop_zero]
        go_simp
        replace HS := HS.keep D9
        replace AZ := AZ.stay D9
        replace OE := OE.stay D9
        replace GB := grownBy_trans GB G9
        clear hne D9 G9
        revert NE
        revert GZ
        revert AZ
        revert HR
        revert GE
        revert OE
        revert HS
        revert GB
        revert gz
        revert r
        revert ge
        revert W
        exact JN.out
      · skip
        refine Gen.mOp_call rfl (by go_simp) 32 _ #[.pointer (some ⟨b, 0, none⟩), .int .i64 2] (fun w => by go_simp) rfl ?_
        rintro _ ⟨n9, rfl⟩
        have D9 : Below wg11.heap.size wg11 (wg11.drewN n9) := ⟨rfl, rfl, rfl, Nat.le_refl _, fun _ _ => rfl⟩
        have G9 := grownBy_drewN wg11 n9 (some b)
        generalize wg11.drewN n9 = sv14 at *
        replace HS := HS.keep D9
        replace AZ := AZ.stay D9
        replace GB := grownBy_trans GB G9
        clear D9 G9
        refine (l1Next_c b p q cs t 2 _ HS (by omega) (by omega) (by omega) (by omega)).mono ?_
        rintro e wg14 ⟨r, rfl, hr1, hr2, hs2, hg⟩
        refine ⟨_, rfl, ⟨⟨wg14, hg⟩, rfl⟩, ?_⟩
        have HR := (show Hid (0 ≤ r ∧ r < 2) from ⟨hr1, hr2⟩)
        replace HS := hs2
        replace AZ := AZ.other hg (fun e => by have h1 := Option.some.inj e; have h3 := hbw.out; have h2 := hzV.out; have h4 := GZ.out; omega)
        replace GB := grownBy_trans GB hg
        clear hg hr1 hr2
        replace hne := Gen.But.some b wg14
        refine Gen.wpM_more (Gen.But.pre b) [3] 3 2 rfl (by kernel_rfl) (by kernel_rfl) (by kernel_rfl) (by kernel_rfl) ?_
        simp only [opsAt, List.getElem?_toArray, List.getElem?_cons_zero, List.getElem?_cons_succ]
        go_simp
        repeat (go_big_quiet_step (fail))
        refine wpQuiet_nil ?_
        refine Gen.wpM_only (i := 0) (by kernel_rfl) ?_
        refine Gen.mOp_mk rfl (by go_simp) (by kernel_rfl) ?_
        rintro _ ⟨n9, rfl⟩
        have D9 : Below wg14.heap.size wg14 (wg14.drewN n9) := ⟨rfl, rfl, rfl, Nat.le_refl _, fun _ _ => rfl⟩
        have G9 := grownBy_drewN wg14 n9 (some b)
        generalize wg14.drewN n9 = sv15 at *
        replace HS := HS.keep D9
        replace AZ := AZ.stay D9
        replace GB := grownBy_trans GB G9
        clear D9 G9
        refine wpList_make_full _ rfl (.const (.int .i64 32)) (.const (.int .i64 32)) 22 rfl sv15.heap.size 5 i0 (.int .u8 0) 1 Tryz.underlying22 hi hz0 hz1 .i64 .i64 _ _ 32 rfl rfl rfl rfl (by rw [hz2]; decide) (by unfold maxLen; decide) (Nat.le_refl _) ?_
        intro wg15 hown hgrow
        have hD : Below sv15.heap.size sv15 wg15 := (Below.refl _ _).grown hgrow (Nat.le_refl _) (fun k hk => by simp at hk)
        replace hown := made_zeros hown
        refine ⟨rfl, Gen.grown_any hgrow _, ?_⟩
        have OE := (hown.lower (show V.heap.size ≤ sv15.heap.size from GB.size) : Own _ V.heap.size _ _)
        have GE := (show Hid (V.heap.size ≤ sv15.heap.size) from GB.size)
        have NE := (show Hid (sv15.heap.size ≠ gz) from fun e => by have h1 := AZ.lt; omega)
        replace HS := HS.keep hD
        replace AZ := AZ.stay hD
        replace GB := grownBy_trans GB (Gen.grown_any hgrow _)
        clear hown hgrow hD
        replace hne := Gen.But.some b wg15
        generalize sv15.heap.size = ge at *
        refine Gen.wpM_more (Gen.But.pre b) [4] 1 0 rfl (by kernel_rfl) (by kernel_rfl) (by kernel_rfl) (by kernel_rfl) ?_
        simp only [opsAt, List.getElem?_toArray, List.getElem?_cons_zero, List.getElem?_cons_succ]
        go_simp
        repeat (go_big_quiet_step (fail))
        refine wpQuiet_nil ?_
        refine Gen.wpM_end (by kernel_rfl) rfl (by kernel_rfl) (by decide) ?_
        rintro _ ⟨n9, rfl⟩
        have D9 : Below wg15.heap.size wg15 (wg15.drewN n9) := ⟨rfl, rfl, rfl, Nat.le_refl _, fun _ _ => rfl⟩
        have G9 := grownBy_drewN wg15 n9 (some b)
        generalize wg15.drewN n9 = W at *
        simp only [List.drop_succ_cons, List.drop_zero]
        go_simp
        replace HS := HS.keep D9
        replace AZ := AZ.stay D9
        replace OE := OE.stay D9
        replace GB := grownBy_trans GB G9
        clear hne D9 G9
        revert NE
        revert GZ
        revert AZ
        revert HR
        revert GE
        revert OE
        revert HS
        revert GB
        revert gz
        revert r
        revert ge
        revert W
        exact JN.out
  clear HS
  intro W ge r gz GB HS OE GE HR AZ GZ NE
  obtain ⟨ro, hro⟩ : ∃ z, z = wrap64 (1 + r) := ⟨_, rfl⟩
  rw [← hro]
  clear hro HR
  refine wpList_store_row rfl 27 _ _ rfl gz #[.slice (some ⟨ge, 0, none⟩) 32 32, .int .i64 ro, .slice none 0 0, .slice none 0 0, .slice none 0 0] rfl rfl 27 #[.slice none 0 0, .int .i64 0, .slice none 0 0, .slice none 0 0, .slice none 0 0] AZ hres.out rfl (by simp [Value.oneCell']) ?_
  have XS : SesL (W.setRow gz #[.slice (some ⟨ge, 0, none⟩) 32 32, .int .i64 ro, .slice none 0 0, .slice none 0 0, .slice none 0 0]) V.heap.size gz (zs 32, ro, [], [], []) (.slice (some ⟨ge, 0, none⟩) 32 32) (.slice none 0 0) (.slice none 0 0) (.slice none 0 0) [] [] [] := SesL.new (AZ.row [.slice (some ⟨ge, 0, none⟩) 32 32, .int .i64 ro, .slice none 0 0, .slice none 0 0, .slice none 0 0]) (ownsRow_fr OE fun k hk => setRow_other W gz k _ (by have h1 : ge = k := Option.some.inj hk; have h2 := NE.out; omega)) GZ.out NE.out
  have G2 : V.grownBy (W.setRow gz #[.slice (some ⟨ge, 0, none⟩) 32 32, .int .i64 ro, .slice none 0 0, .slice none 0 0, .slice none 0 0]) (some b) := grown_rowN GB GZ.out _
  have HS2 : Src (W.setRow gz #[.slice (some ⟨ge, 0, none⟩) 32 32, .int .i64 ro, .slice none 0 0, .slice none 0 0, .slice none 0 0]) b p q cs (t + 1) := HS.other (grown_rowS W gz _) (fun k hk => by have h1 := Option.some.inj hk; have h2 := hbw.out; have h3 := hzV.out; have h4 := GZ.out; omega)
  have GZX := GZ
  clear OE AZ GB HS GE NE
  generalize W.setRow gz #[.slice (some ⟨ge, 0, none⟩) 32 32, .int .i64 ro, .slice none 0 0, .slice none 0 0, .slice none 0 0] = W2 at *
  clear W
  go_wp2_with fail
  have HS := HS2
  have HZ2 : Hid (b < gz) := by have h1 := hbw.out; have h2 := hzV.out; have h3 := GZX.out; show _ < _; omega
  clear HS2
  go_simp
  apply share
  case h =>
    intro JN
    have GB := World.grownBy.refl W2 (some b)
    have hne := Gen.But.some b W2
    have g0 := Gen.But.cell (b := b) ((XS.loc.cell 0).trans (show _ = some _ from rfl)) (by have h1 := HZ2.out; show gz ≠ b; omega)
    refine Gen.wp_region_pick (Gen.But.pre b) [0, 1, 2] 6 3 1 rfl rfl rfl (by kernel_rfl) (by kernel_rfl) (by kernel_rfl) (by kernel_rfl) ?_
    simp only [opsAt, List.getElem?_toArray, List.getElem?_cons_zero, List.getElem?_cons_succ]
    repeat (go_big_quiet_step (fail))
    refine wpQuiet_nil ?_
    clear g0
    refine Gen.wpM_only (i := 3) (by kernel_rfl) ?_
    refine Gen.mOp_call rfl (by go_simp) 32 _ #[.pointer (some ⟨b, 0, none⟩), .int .i64 2] (fun w => by go_simp) rfl ?_
    rintro _ ⟨n9, rfl⟩
    have D9 : Below W2.heap.size W2 (W2.drewN n9) := ⟨rfl, rfl, rfl, Nat.le_refl _, fun _ _ => rfl⟩
    have G9 := grownBy_drewN W2 n9 (some b)
    generalize W2.drewN n9 = sv1 at *
    replace HS := HS.keep D9
    replace XS := XS.stay D9
    replace GB := grownBy_trans GB G9
    clear D9 G9
    refine (l1Next_c b p q cs (t + 1) 2 _ HS (by omega) (by omega) (by omega) (by omega)).mono ?_
    rintro e wg1 ⟨r3, rfl, hr1, hr2, hs2, hg⟩
    obtain ⟨m2, rfl⟩ := Int.eq_ofNat_of_zero_le hr1
    refine ⟨_, rfl, ⟨⟨wg1, hg⟩, rfl⟩, ?_⟩
    have HM := (hr2 : (m2 : Int) < 2)
    replace HS := hs2
    replace XS := XS.but hg (by have h1 := hbw.out; have h2 := hzV.out; omega)
    replace GB := grownBy_trans GB hg
    clear hg hr1 hr2
    replace hne := Gen.But.some b wg1
    refine Gen.wpM_more (Gen.But.pre b) [4, 5] 2 0 rfl (by kernel_rfl) (by kernel_rfl) (by kernel_rfl) (by kernel_rfl) ?_
    simp only [opsAt, List.getElem?_toArray, List.getElem?_cons_zero, List.getElem?_cons_succ]
    go_simp
    repeat (go_big_quiet_step (fail))
    refine wpQuiet_nil ?_
    refine Gen.wpM_end (by kernel_rfl) rfl (by kernel_rfl) (by decide) ?_
    rintro _ ⟨n9, rfl⟩
    have D9 : Below wg1.heap.size wg1 (wg1.drewN n9) := ⟨rfl, rfl, rfl, Nat.le_refl _, fun _ _ => rfl⟩
    have G9 := grownBy_drewN wg1 n9 (some b)
    generalize wg1.drewN n9 = W at *
    simp only [List.drop_succ_cons, List.drop_zero]
    go_simp
    replace HS := HS.keep D9
    replace XS := XS.stay D9
    replace GB := grownBy_trans GB G9
    clear hne D9 G9
    revert HM
    revert XS
    revert HS
    revert GB
    revert m2
    revert W
    exact JN.out
  clear HS XS
  intro W m2 GB HS XS HM
  have EX := XS.ex
  have k5 : W.ownsRow V.heap.size 5 1 (.slice (some ⟨ge, 0, none⟩) 32 32) 32 ((zs 32).map u8v) := by have h := EX; unfold Own at h; rw [zs_len] at h; exact h
  have cx : W.cell? ⟨ge, 0, none⟩ = some (.int .u8 0) := (World.ownsRow.cellAt k5 0 (by omega)).trans (by unfold zs; rw [List.map_replicate, List.getElem?_replicate, if_pos (by omega)]; rfl)
  have fx := World.ownsRow.frozenAt k5 0
  obtain ⟨cb, HCB⟩ : ∃ cb, Hid (UInt8.ofNat m2 = cb) := ⟨_, rfl⟩
  have HCV : Hid (.int .u8 (m2 : Int) = u8v cb) := by show _ = _; rw [← HCB.out]; exact (u8_of m2 (by omega)).symm
  have R1 := (World.ownsRow.stored k5 0 (.int .u8 (m2 : Int))).1
  have OX : Own (W.setCell ⟨ge, 0, none⟩ (.int .u8 (m2 : Int))) V.heap.size (.slice (some ⟨ge, 0, none⟩) 32 32) ((zs 32).set 0 cb) := by unfold Own; rw [List.length_set, zs_len, List.map_set, ← HCV.out]; exact R1
  have XS3 := XS.put0 OX
  have hge : Hid (V.heap.size ≤ ge) := Own.ge EX ge rfl
  have HS3 := src_cell (g := ge) (i := 0) HS (by have h1 := hbw.out; have h2 := hzV.out; have h3 := hge.out; omega) (.int .u8 (m2 : Int))
  have GB3 := grown_cellN (g := ge) (i := 0) (grownBy_trans G2 GB) hge.out (.int .u8 (m2 : Int))
  clear EX k5 HCB HCV R1 OX XS HS GB G2
  obtain ⟨xb, hxb⟩ : ∃ z, z = (zs 32).set 0 cb := ⟨_, rfl⟩
  have HXB : Hid (xb.length = 32) := by show _ = _; rw [hxb, List.length_set, zs_len]
  rw [← hxb] at XS3
  clear hxb
  go_wp2_with fail
  clear cx fx
  generalize W.setCell ⟨ge, 0, none⟩ (.int .u8 (m2 : Int)) = W3 at *
  refine (l1Next_c b p q cs (t + 1 + 1) 4 _ HS3 (by omega) (by omega) (by omega) (by omega)).mono ?_
  rintro e W4 ⟨k0, rfl, hk1, hk2, HS, hg⟩
  obtain ⟨k0, rfl⟩ := Int.eq_ofNat_of_zero_le hk1
  have XS := XS3.but hg (by have h1 := hbw.out; have h2 := hzV.out; omega)
  have GB := grownBy_trans GB3 hg
  clear XS3 GB3 HS3 hg hk1
  go_wp2_with fail
  go_loopw [4] (fun i wr => ∃ (k : Nat) (A : List (List UInt8)) (bv : Value) (fb : List Nat) (t1 : Int), i = .int .i64 k ∧ k + A.length ≤ 3 ∧ (∀ c ∈ A, c.length ≤ 3) ∧ SesL wr V.heap.size gz (xb, ro, A, [], []) (.slice (some ⟨ge, 0, none⟩) 32 32) bv (.slice none 0 0) (.slice none 0 0) fb [] [] ∧ t ≤ t1 ∧ t1 + 5 * k ≤ t + 20 ∧ Src wr b p q cs t1 ∧ V.grownBy wr (some b))
    (fun i _ => (intOf i).toNat)
  case atStart => exact ⟨k0, [], _, _, _, rfl, by simp; omega, by simp, XS, by omega, by omega, HS, GB⟩
  case round =>
    clear XS HS GB
    obtain ⟨k, A, bv, fb, t1, rfl, hkA, hA9, XS, ht3, ht4, HS, GB⟩ := hrel
    by_cases hk : (k : Int) > 0
    · go_wp2_with fail
      refine (l1Next_c b p q cs t1 3 _ HS (by omega) (by omega) (by omega) (by omega)).mono ?_
      rintro e w5 ⟨r3, rfl, r31, r32, HS2, hg⟩
      replace XS := XS.but hg (by have h1 := hbw.out; have h2 := hzV.out; omega)
      replace GB := grownBy_trans GB hg
      replace HS := HS2
      clear HS2 hg
      go_wp2_with fail
      refine (l1Some_c b p q cs (t1 + 1) (1 + r3) _ HS (by omega) (by omega) (by omega) (by omega)).mono ?_
      rintro e w6 ⟨u, bs, rfl, hbl, ko, HS2, hg⟩
      have HN : Hid (∀ k, k ∈ gz :: ((Value.slice (some ⟨ge, 0, none⟩) 32 32).ownBlock.toList ++ (fb ++ ([] ++ []))) → k < w5.heap.size) := XS.lt
      replace XS := XS.but hg (by have h1 := hbw.out; have h2 := hzV.out; omega)
      replace GB := grownBy_trans GB hg
      replace HS := HS2
      have HNS : Hid (w5.heap.size ≤ w6.heap.size) := hg.size
      have HVN : Hid (V.heap.size ≤ w5.heap.size) := by have h1 := XS.low; have h2 := HN.out gz (List.mem_cons_self ..); show _ ≤ _; omega
      have HBL : Hid (bs.length ≤ 3) := by show _ ≤ _; omega
      clear HS2 hg hbl
      obtain ⟨xs, f, ol, rfl⟩ := blks_inv XS.ask
      obtain ⟨pA, qA, rfl, rA⟩ := ol.rd
      obtain ⟨pu, qu, rfl, ru⟩ := ko.rd
      have K2 := l14Has_c A bs pA pu qA qu w6 rA ru
      have c2 := (XS.loc.cell 2).trans (show _ = some _ from rfl)
      clear rA ru
      go_wp2_with fail
      refine K2.mono ?_
      rintro e w7 ⟨rfl, hb⟩
      replace XS := XS.stay hb
      replace GB := grownBy_trans GB (grown_belowS hb _)
      replace HS := HS.keep hb
      replace ko := ko.stay hb
      replace ol := ol.stay hb
      replace HNS : Hid (w5.heap.size ≤ w7.heap.size) := Nat.le_trans HNS.out hb.size
      clear K2 hb c2
      cases hsB A bs
      · have c2 := (XS.loc.cell 2).trans (show _ = some _ from rfl)
        have XA := XS.stay (alloc_below w7 (.cells #[.slice pu bs.length qu] 22))
        have OA := ol.stay (alloc_below w7 (.cells #[.slice pu bs.length qu] 22))
        have KA := ko.stay (alloc_below w7 (.cells #[.slice pu bs.length qu] 22))
        have HA := HS.keep (alloc_below w7 (.cells #[.slice pu bs.length qu] 22))
        have GA := grownBy_trans GB (World.grownBy_alloc w7 (.cells #[.slice pu bs.length qu] 22) (some b))
        have hNA : w5.heap.size ≤ (w7.alloc (.cells #[.slice pu bs.length qu] 22)).heap.size := by rw [size_alloc]; have := HNS.out; omega
        have hins : ∀ k, k ∈ (Value.slice pA A.length qA).ownBlock.toList ++ f → k < w5.heap.size := fun k hk => HN.out k (List.mem_cons_of_mem _ (List.mem_append_right _ (List.mem_append_left _ hk)))
        have hlA : Hid (A.length ≤ 1000) := by show _ ≤ _; omega
        clear XS ol ko HS GB
        go_wp2_with (at_builtin; refine wpList_append_blkD (N := w5.heap.size) rfl (.tmp 37) (.tmp 39) rfl OA hins KA hNA (Arr.new w7 [.slice pu bs.length qu] 22) rfl rfl HVN.out hlA.out ?_; intro p8 q8 w8 xs8 f8 o8 hg8 hin8 hb8; have L8 := XA.at2 (Only.grown hg8) (fun k hk => List.mem_append_left _ hk); have d2 := (L8.cell 2).trans (show _ = some _ from rfl); have fz := L8.frozen 2; have X8 := XA.put2 (N := w5.heap.size) HN.out (blks_of o8) (Only.grown hg8) (fun k hk => List.mem_append_left _ hk) hin8; have H8 := src_cell (g := gz) (i := 2) (HA.other hg8 (fun k hk => by have h1 := (World.ownsRow.lt OA.row k hk).1; have h2 := hbw.out; have h3 := hzV.out; omega)) HZ2.out (.slice p8 (A.length + 1) q8); have G8 := grown_cellN (g := gz) (i := 2) (grownBy_step GA hg8 (fun k hk => .inl (World.ownsRow.lt OA.row k hk).1)) XA.low (.slice p8 (A.length + 1) q8); clear XA OA KA HA GA hNA hins L8 o8 hg8 hin8 hb8)
        clear c2 d2 fz
        generalize w8.setCell ⟨gz, 2, none⟩ (.slice p8 (A.length + 1) q8) = w9 at *
        go_roundw
        case rel => exact ⟨k - 1, A ++ [bs], _, _, t1 + 1 + (1 + r3), by go_num, by simp; omega, (fun c hc => (List.mem_append.1 hc).elim (hA9 c) (fun h => by rw [List.mem_singleton.1 h]; exact HBL.out)), X8, by omega, by omega, H8, G8⟩
        case measure => simp [intOf]; omega
      · go_wp2_with fail
        go_roundw
        case rel => exact ⟨k - 1, A, _, _, t1 + 1 + (1 + r3), by go_num, by omega, hA9, XS, by omega, by omega, HS, GB⟩
        case measure => simp [intOf]; omega
    · have e : k = 0 := by omega
      subst e
      clear hk
      have hA3 : Hid (A.length ≤ 3) := by show _ ≤ _; omega
      have hA4 : Hid (∀ c ∈ A, c.length ≤ 3) := hA9
      clear hA9
      go_wp2_with fail
      refine (l1Next_c b p q cs t1 3 _ HS (by omega) (by omega) (by omega) (by omega)).mono ?_
      rintro e w4 ⟨k1, rfl, k11, k12, HS2, hg⟩
      obtain ⟨k1, rfl⟩ := Int.eq_ofNat_of_zero_le k11
      replace XS := XS.but hg (by have h1 := hbw.out; have h2 := hzV.out; omega)
      replace GB := grownBy_trans GB hg
      replace HS := HS2
      clear HS2 hg k11
      go_wp2_with fail
      go_loopw [6] (fun i wr => ∃ (k : Nat) (U : List (List UInt8)) (cv : Value) (fc : List Nat) (t2 : Int), i = .int .i64 k ∧ k + U.length ≤ 2 ∧ (∀ c ∈ U, c.length ≤ 4) ∧ SesL wr V.heap.size gz (xb, ro, A, U, []) (.slice (some ⟨ge, 0, none⟩) 32 32) bv cv (.slice none 0 0) fb fc [] ∧ t ≤ t2 ∧ t2 + 5 * k ≤ t + 40 ∧ Src wr b p q cs t2 ∧ V.grownBy wr (some b))
        (fun i _ => (intOf i).toNat)
      case atStart => exact ⟨k1, [], _, _, _, rfl, by simp; omega, by simp, XS, by omega, by omega, HS, GB⟩
      case round =>
        clear XS HS GB hkA ht3 ht4
        obtain ⟨k, U, cv, fc, t2, rfl, hkU, hU9, XS, ht3, ht4, HS, GB⟩ := hrel
        by_cases hk : (k : Int) > 0
        · go_wp2_with fail
          refine (l1Some_c b p q cs t2 4 _ HS (by omega) (by omega) (by omega) (by omega)).mono ?_
          rintro e w6 ⟨u, bs, rfl, hbl, ko, HS2, hg⟩
          obtain ⟨w5, hw5⟩ : ∃ z, z = wr := ⟨_, rfl⟩
          subst hw5
          have HN : Hid (∀ k, k ∈ gz :: ((Value.slice (some ⟨ge, 0, none⟩) 32 32).ownBlock.toList ++ (fb ++ (fc ++ []))) → k < w5.heap.size) := XS.lt
          replace XS := XS.but hg (by have h1 := hbw.out; have h2 := hzV.out; omega)
          replace GB := grownBy_trans GB hg
          replace HS := HS2
          have HNS : Hid (w5.heap.size ≤ w6.heap.size) := hg.size
          have HVN : Hid (V.heap.size ≤ w5.heap.size) := by have h1 := XS.low; have h2 := HN.out gz (List.mem_cons_self ..); show _ ≤ _; omega
          have HBL : Hid (bs.length ≤ 4) := by show _ ≤ _; omega
          clear HS2 hg hbl
          obtain ⟨xs, f, ol, rfl⟩ := blks_inv XS.use
          obtain ⟨pA, qA, rfl, rA⟩ := ol.rd
          obtain ⟨pu, qu, rfl, ru⟩ := ko.rd
          have K2 := l14Has_c U bs pA pu qA qu w6 rA ru
          have c3 := (XS.loc.cell 3).trans (show _ = some _ from rfl)
          clear rA ru
          go_wp2_with fail
          refine K2.mono ?_
          rintro e w7 ⟨rfl, hb⟩
          replace XS := XS.stay hb
          replace GB := grownBy_trans GB (grown_belowS hb _)
          replace HS := HS.keep hb
          replace ko := ko.stay hb
          replace ol := ol.stay hb
          replace HNS : Hid (w5.heap.size ≤ w7.heap.size) := Nat.le_trans HNS.out hb.size
          clear K2 hb c3
          cases hsB U bs
          · have c3 := (XS.loc.cell 3).trans (show _ = some _ from rfl)
            have XA := XS.stay (alloc_below w7 (.cells #[.slice pu bs.length qu] 22))
            have OA := ol.stay (alloc_below w7 (.cells #[.slice pu bs.length qu] 22))
            have KA := ko.stay (alloc_below w7 (.cells #[.slice pu bs.length qu] 22))
            have HA := HS.keep (alloc_below w7 (.cells #[.slice pu bs.length qu] 22))
            have GA := grownBy_trans GB (World.grownBy_alloc w7 (.cells #[.slice pu bs.length qu] 22) (some b))
            have hNA : w5.heap.size ≤ (w7.alloc (.cells #[.slice pu bs.length qu] 22)).heap.size := by rw [size_alloc]; have := HNS.out; omega
            have hins : ∀ k, k ∈ (Value.slice pA U.length qA).ownBlock.toList ++ f → k < w5.heap.size := fun k hk => HN.out k (List.mem_cons_of_mem _ (List.mem_append_right _ (List.mem_append_right _ (List.mem_append_left _ hk))))
            have hlA : Hid (U.length ≤ 1000) := by show _ ≤ _; omega
            clear XS ol ko HS GB
            go_wp2_with (at_builtin; refine wpList_append_blkD (N := w5.heap.size) rfl (.tmp 56) (.tmp 58) rfl OA hins KA hNA (Arr.new w7 [.slice pu bs.length qu] 22) rfl rfl HVN.out hlA.out ?_; intro p8 q8 w8 xs8 f8 o8 hg8 hin8 hb8; have L8 := XA.at3 (Only.grown hg8) (fun k hk => List.mem_append_left _ hk); have d3 := (L8.cell 3).trans (show _ = some _ from rfl); have fz := L8.frozen 3; have X8 := XA.put3 (N := w5.heap.size) HN.out (blks_of o8) (Only.grown hg8) (fun k hk => List.mem_append_left _ hk) hin8; have H8 := src_cell (g := gz) (i := 3) (HA.other hg8 (fun k hk => by have h1 := (World.ownsRow.lt OA.row k hk).1; have h2 := hbw.out; have h3 := hzV.out; omega)) HZ2.out (.slice p8 (U.length + 1) q8); have G8 := grown_cellN (g := gz) (i := 3) (grownBy_step GA hg8 (fun k hk => .inl (World.ownsRow.lt OA.row k hk).1)) XA.low (.slice p8 (U.length + 1) q8); clear XA OA KA HA GA hNA hins L8 o8 hg8 hin8 hb8)
            clear c3 d3 fz
            generalize w8.setCell ⟨gz, 3, none⟩ (.slice p8 (U.length + 1) q8) = w9 at *
            go_roundw
            case rel => exact ⟨k - 1, U ++ [bs], _, _, t2 + 4, by go_num, by simp; omega, (fun c hc => (List.mem_append.1 hc).elim (hU9 c) (fun h => by rw [List.mem_singleton.1 h]; exact HBL.out)), X8, by omega, by omega, H8, G8⟩
            case measure => simp [intOf]; omega
          · go_wp2_with fail
            go_roundw
            case rel => exact ⟨k - 1, U, _, _, t2 + 4, by go_num, by omega, hU9, XS, by omega, by omega, HS, GB⟩
            case measure => simp [intOf]; omega
        · have e : k = 0 := by omega
          subst e
          clear hk
          have hU2 : Hid (U.length ≤ 2) := by show _ ≤ _; omega
          have hU4 : Hid (∀ c ∈ U, c.length ≤ 4) := hU9
          clear hU9
          go_wp2_with fail
          refine (l1Next_c b p q cs t2 3 _ HS (by omega) (by omega) (by omega) (by omega)).mono ?_
          rintro e w4 ⟨k2, rfl, k21, k22, HS2, hg⟩
          obtain ⟨k2, rfl⟩ := Int.eq_ofNat_of_zero_le k21
          replace XS := XS.but hg (by have h1 := hbw.out; have h2 := hzV.out; omega)
          replace GB := grownBy_trans GB hg
          replace HS := HS2
          clear HS2 hg k21
          go_wp2_with fail
          go_loopw [8] (fun i wr => ∃ (k : Nat) (H : List HeldD) (dv : Value) (fd : List Nat) (t3 : Int), i = .int .i64 k ∧ k + H.length ≤ 100 ∧ k ≤ 2 ∧ Rise H ∧ (∀ h ∈ H, okH h = true) ∧ SesL wr V.heap.size gz (xb, ro, A, U, H) (.slice (some ⟨ge, 0, none⟩) 32 32) bv cv dv fb fc fd ∧ t ≤ t3 ∧ t3 + 5 * k ≤ t + 60 ∧ Src wr b p q cs t3 ∧ V.grownBy wr (some b))
            (fun i _ => (intOf i).toNat)
          case atStart => exact ⟨k2, [], _, _, _, rfl, by simp; omega, by omega, List.Pairwise.nil, by simp, XS, by omega, by omega, HS, GB⟩
          case round =>
            clear XS HS GB hkU ht3 ht4
            obtain ⟨k, H, dv, fd, t3, rfl, hkH, hk2, hri, hok, XS, ht3, ht4, HS, GB⟩ := hrel
            by_cases hk : (k : Int) > 0
            · have HN : Hid (∀ k, k ∈ gz :: ((Value.slice (some ⟨ge, 0, none⟩) 32 32).ownBlock.toList ++ (fb ++ (fc ++ fd))) → k < wr.heap.size) := XS.lt
              obtain ⟨pH, qH, rfl⟩ := XS.helAt
              have GB0 := GB
              clear GB
              go_wp2_with fail
              apply share
              case h =>
                intro JN
                have GB := World.grownBy.refl wr (some b)
                have hne := Gen.But.some b wr
                have g4 := Gen.But.cell (b := b) ((XS.loc.cell 4).trans (show _ = some _ from rfl)) (by have h1 := HZ2.out; show gz ≠ b; omega)
                refine Gen.wp_region_pick (Gen.But.pre b) [0, 1, 2, 5] 10 6 1 rfl rfl rfl (by kernel_rfl) (by kernel_rfl) (by kernel_rfl) (by kernel_rfl) ?_
                simp only [opsAt, List.getElem?_toArray, List.getElem?_cons_zero, List.getElem?_cons_succ]
                repeat (go_big_quiet_step (fail))
                refine wpQuiet_nil ?_
                clear g4
                refine Gen.wpM_only (i := 3) (by kernel_rfl) ?_
                refine Gen.mOp_call rfl (by go_simp) 32 _ #[.pointer (some ⟨b, 0, none⟩), .int .i64 5] (fun w => by go_simp) rfl ?_
                rintro _ ⟨n9, rfl⟩
                have D9 : Below wr.heap.size wr (wr.drewN n9) := ⟨rfl, rfl, rfl, Nat.le_refl _, fun _ _ => rfl⟩
                have G9 := grownBy_drewN wr n9 (some b)
                generalize wr.drewN n9 = sv1 at *
                replace HS := HS.keep D9
                replace XS := XS.stay D9
                replace GB := grownBy_trans GB G9
                clear D9 G9
                refine (l1Next_c b p q cs t3 5 _ HS (by omega) (by omega) (by omega) (by omega)).mono ?_
                rintro e wg1 ⟨r5, rfl, hr1, hr2, hs2, hg⟩
                refine ⟨_, rfl, ⟨⟨wg1, hg⟩, rfl⟩, ?_⟩
                have B5 := (show Hid (0 ≤ r5 ∧ r5 < 5) from ⟨hr1, hr2⟩)
                replace HS := hs2
                replace XS := XS.but hg (by have h1 := hbw.out; have h2 := hzV.out; omega)
                replace GB := grownBy_trans GB hg
                clear hg
                replace hne := Gen.But.some b wg1
                refine Gen.wpM_more (Gen.But.pre b) [4] 5 4 rfl (by kernel_rfl) (by kernel_rfl) (by kernel_rfl) (by kernel_rfl) ?_
                simp only [opsAt, List.getElem?_toArray, List.getElem?_cons_zero, List.getElem?_cons_succ]
                go_simp
                repeat (go_big_quiet_step (fail))
                refine wpQuiet_nil ?_
                refine Gen.wpM_only (i := 6) (by kernel_rfl) ?_
                refine Gen.mOp_call rfl (by go_simp) 32 _ #[.pointer (some ⟨b, 0, none⟩), .int .i64 40] (fun w => by go_simp) rfl ?_
                rintro _ ⟨n9, rfl⟩
                have D9 : Below wg1.heap.size wg1 (wg1.drewN n9) := ⟨rfl, rfl, rfl, Nat.le_refl _, fun _ _ => rfl⟩
                have G9 := grownBy_drewN wg1 n9 (some b)
                generalize wg1.drewN n9 = sv2 at *
                replace HS := HS.keep D9
                replace XS := XS.stay D9
                replace GB := grownBy_trans GB G9
                clear D9 G9
                refine (l1Next_c b p q cs (t3 + 1) 40 _ HS (by omega) (by omega) (by omega) (by omega)).mono ?_
                rintro e wg2 ⟨r6, rfl, hr3, hr4, hs2, hg⟩
                refine ⟨_, rfl, ⟨⟨wg2, hg⟩, rfl⟩, ?_⟩
                have B6 := (show Hid (0 ≤ r6 ∧ r6 < 40) from ⟨hr3, hr4⟩)
                replace HS := hs2
                replace XS := XS.but hg (by have h1 := hbw.out; have h2 := hzV.out; omega)
                replace GB := grownBy_trans GB hg
                clear hg
                replace hne := Gen.But.some b wg2
                refine Gen.wpM_more (Gen.But.pre b) [7] 3 2 rfl (by kernel_rfl) (by kernel_rfl) (by kernel_rfl) (by kernel_rfl) ?_
                simp only [opsAt, List.getElem?_toArray, List.getElem?_cons_zero, List.getElem?_cons_succ]
                go_simp
                repeat (go_big_quiet_step (fail))
                refine wpQuiet_nil ?_
                refine Gen.wpM_only (i := 8) (by kernel_rfl) ?_
                refine Gen.mOp_call rfl (by go_simp) 42 _ #[.slice pH H.length qH, .agg #[.int .i64 (1 + r5), .int .i64 r6]] (fun w => by go_simp) rfl ?_
                rintro _ ⟨n9, rfl⟩
                have D9 : Below wg2.heap.size wg2 (wg2.drewN n9) := ⟨rfl, rfl, rfl, Nat.le_refl _, fun _ _ => rfl⟩
                have G9 := grownBy_drewN wg2 n9 (some b)
                generalize wg2.drewN n9 = sv3 at *
                replace HS := HS.keep D9
                replace XS := XS.stay D9
                replace GB := grownBy_trans GB G9
                clear D9 G9
                refine (l14Hold_c H (1 + r5, r6) pH qH _ XS.helRd hri (by omega)).mono ?_
                rintro e wg3 ⟨vh, rfl, oh, hb⟩
                have hg := grown_belowS hb (some b)
                obtain ⟨ph, qh, rfl, -⟩ := ownsRow_raw oh
                refine ⟨_, rfl, ⟨⟨wg3, hg⟩, rfl⟩, ?_⟩
                have OH := (ownsRow_low oh GB.size : World.ownsRow _ wr.heap.size 81 2 (.slice ph (holdN H (1 + r5, r6)).length qh) (holdN H (1 + r5, r6)).length (cellsH (holdN H (1 + r5, r6))))
                replace HS := HS.keep hb
                replace XS := XS.but hg (by have h1 := hbw.out; have h2 := hzV.out; omega)
                replace GB := grownBy_trans GB hg
                clear hg oh hb
                replace hne := Gen.But.some b wg3
                refine Gen.wpM_more (Gen.But.pre b) [9] 1 0 rfl (by kernel_rfl) (by kernel_rfl) (by kernel_rfl) (by kernel_rfl) ?_
                simp only [opsAt, List.getElem?_toArray, List.getElem?_cons_zero, List.getElem?_cons_succ]
                go_simp
                repeat (go_big_quiet_step (fail))
                refine wpQuiet_nil ?_
                refine Gen.wpM_end (by kernel_rfl) rfl (by kernel_rfl) (by decide) ?_
                rintro _ ⟨n9, rfl⟩
                have D9 : Below wg3.heap.size wg3 (wg3.drewN n9) := ⟨rfl, rfl, rfl, Nat.le_refl _, fun _ _ => rfl⟩
                have G9 := grownBy_drewN wg3 n9 (some b)
                generalize wg3.drewN n9 = W9 at *
                simp only [List.drop_succ_cons, List.drop_zero]
                go_simp
                replace HS := HS.keep D9
                replace XS := XS.stay D9
                replace OH := ownsRow_fr OH (fun j hj => D9.block j (World.ownsRow.lt OH j hj).2)
                replace GB := grownBy_trans GB G9
                clear hne D9 G9
                clear hr1 hr2 hr3 hr4
                revert OH
                revert B6
                revert B5
                revert XS
                revert HS
                revert GB
                revert qh
                revert ph
                revert r6
                revert r5
                revert W9
                exact JN.out
              clear HS XS
              intro W9 r5 r6 ph qh GB HS XS B5 B6 OH
              have d4 := (XS.loc.cell 4).trans (show _ = some _ from rfl)
              have fz := XS.loc.frozen 4
              have X9 := XS.put4 (N := wr.heap.size) HN.out (holds_of (ownsRow_low OH GB0.size)) (fun k hk => by
                rw [List.append_nil] at hk
                exact .inr (World.ownsRow.lt OH k (mem_opt.1 hk)).1)
              have H9 := src_cell (g := gz) (i := 4) HS HZ2.out (.slice ph (holdN H (1 + r5, r6)).length qh)
              have G9 := grown_cellN (g := gz) (i := 4) (grownBy_trans GB0 GB) XS.low (.slice ph (holdN H (1 + r5, r6)).length qh)
              have hl9 : (holdN H (1 + r5, r6)).length ≤ H.length + 1 := by rw [hold_len hri]; split <;> omega
              have hr9 : Rise (holdN H (1 + r5, r6)) := hold_rise hri
              have ho9 : ∀ h ∈ holdN H (1 + r5, r6), okH h = true := fun h hh => by
                rcases hold_mem.1 hh with rfl | ⟨h1, -⟩
                · have h1 := B5.out; have h2 := B6.out; simp [okH, inB]; omega
                · exact hok h h1
              clear OH XS HS GB GB0
              go_wp2_with fail
              clear d4 fz
              generalize W9.setCell ⟨gz, 4, none⟩ (.slice ph (holdN H (1 + r5, r6)).length qh) = w9 at *
              go_roundw
              case rel => exact ⟨k - 1, holdN H (1 + r5, r6), _, _, t3 + 1 + 1, by go_num, by omega, by omega, hr9, ho9, X9, by omega, by omega, H9, G9⟩
              case measure => simp [intOf]; omega
            · have e : k = 0 := by omega
              subst e
              clear hk
              obtain ⟨pH, qH, rfl⟩ := XS.helAt
              obtain ⟨x1, f1, o1, -⟩ := blks_inv XS.ask
              obtain ⟨pA, qA, rfl, -⟩ := o1.rd
              obtain ⟨x2, f2, o2, -⟩ := blks_inv XS.use
              obtain ⟨pU, qU, rfl, -⟩ := o2.rd
              have R9 := R.other GB (fun e => by have h1 := Option.some.inj e; have h2 := hbw.out; omega)
              have d0 := (XS.loc.cell 0).trans (show _ = some _ from rfl)
              have d1 := (XS.loc.cell 1).trans (show _ = some _ from rfl)
              have d2 := (XS.loc.cell 2).trans (show _ = some _ from rfl)
              have d3 := (XS.loc.cell 3).trans (show _ = some _ from rfl)
              have d4 := (XS.loc.cell 4).trans (show _ = some _ from rfl)
              go_wp2_with (refine wpList_store_row rfl 27 _ _ rfl w.heap.size #[.slice (some ⟨ge, 0, none⟩) 32 32, .int .i64 ro, .slice pA A.length qA, .slice pU U.length qU, .slice pH H.length qH] rfl rfl 27 #[.slice none 0 0, .int .i64 0, .slice none 0 0, .slice none 0 0, .slice none 0 0] R9 hres.out rfl (by simp [Value.oneCell']) ?_)
              exact bodyPost_ret (v := .agg #[.slice (some ⟨ge, 0, none⟩) 32 32, .int .i64 ro, .slice pA A.length qA, .slice pU U.length qU, .slice pH H.length qH]) (results_cell_row Tryz.results47 _ _ w.heap.size 27 _ (0, 0) _ rfl (R9.row [.slice (some ⟨ge, 0, none⟩) 32 32, .int .i64 ro, .slice pA A.length qA, .slice pU U.length qU, .slice pH H.length qH]) Tryz.underlying27 rfl hres.out) rfl ⟨(xb, ro, A, U, H), _, _, t3, rfl, sessionC.low (sessionC.rowS XS.own (by have h1 := hzV.out; omega) _) (by have h1 := hzV.out; omega), HXB.out, hA3.out, hA4.out, hU2.out, hU4.out, by show H.length ≤ 100; omega, hri, hok, by omega, by omega, HS.other (grown_rowS _ _ _) (fun k hk => by have h1 := Option.some.inj hk; have h2 := hbw.out; omega), grown_rowN (grownBy_trans GW GB) (Nat.le_refl _) _⟩
end Go.Proofs.YtbaldmmbphbinaaGreatDoor

