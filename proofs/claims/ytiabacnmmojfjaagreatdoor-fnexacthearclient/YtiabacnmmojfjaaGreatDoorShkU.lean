/- l11Hello, l11Bad, StartClient of the specification, at every argument (written by tools/shk_t.py out of ShkU.src). What was there stays. -/
import Derived.Test.YtiabacnmmojfjaaGreatDoorJoint21
import Derived.Test.YtiabacnmmojfjaaGreatDoorJoint6
namespace Go.Proofs.YtiabacnmmojfjaaGreatDoor
open Go.ChangeShapes Go.WideShapes Go.ChangeAt Go.RowKit
set_option maxRecDepth 4000 in
set_option maxHeartbeats 1000000 in
theorem l11Hello_c (b o : Nat) (s : SideD) (kind psk : Int) (p p2 : Option Addr) (q q2 : Nat) (w : World) (hA : AtS w b o p q p2 q2 s) (hr : Rd w p q s.2.1) (hs : sfC s = 0) (h0 : 0 ≤ psk) (h9 : psk ≤ 9) :
    Calls Tryz.prog 84 #[.pointer (some ⟨b, o, none⟩), .int .i64 kind, .int .i64 psk] w fun e w' => ∃ u, e = .returned (.agg #[.int .i64 kind, u]) ∧ Own w' w.heap.size u (helM s kind psk).2 ∧ Below w.heap.size w w' := by
  have HF : Hid (hfC (helH s psk) = 0) := helH_ok hs h0 h9
  have hp := sf_parts hs
  have KP : Hid (∀ w, Calls Tryz.prog 123 #[.int .i64 17, .int .i64 s.1] w fun x w' => x = .returned (.int .i64 (shareN s)) ∧ Below w.heap.size w w') := fun w => by
    have h := l8Power_c 17 s.1.toNat w (by decide) (by omega)
    rw [show ((s.1.toNat : Nat) : Int) = s.1 by omega] at h
    exact h.mono fun _ _ ⟨h1, h2⟩ => ⟨h1, by rw [h2]; exact Below.refl _ _⟩
  have HR : Hid (Rd w p q s.2.1) := hr
  have BW := alloc_below w (.cells #[.int .i64 0, .slice none 0 0] 46)
  have R := Arr.new w [.int .i64 0, .slice none 0 0] 46
  have hA2 := hA.keep BW
  obtain ⟨V, HV⟩ : ∃ V, Hid (V = w.alloc (.cells #[.int .i64 0, .slice none 0 0] 46)) := ⟨_, rfl⟩
  rw [← HV.out] at BW R hA2
  obtain ⟨c1, c0, -, -⟩ := hA2
  clear hr hs hA hp h0 h9
  go_enter Tryz.func84, Tryz.ntmps84
  go_wp2_with fail
  rw [← HV.out]
  apply share
  case h =>
    intro JN
    have BB := Below.refl V.heap.size V
    have hne := HW.some V
    have g0 := HW.at (c0)
    have g1 := HW.at (c1)
    refine wp_region_pick [0, 1, 2, 3, 4, 5, 6, 7, 9] 12 3 1 rfl rfl rfl (by kernel_rfl) (by kernel_rfl) (by kernel_rfl) (by kernel_rfl) ?_
    simp only [opsAt, List.getElem?_toArray, List.getElem?_cons_zero, List.getElem?_cons_succ]
    repeat (go_big_quiet_step (fail))
    refine wpQuiet_nil ?_
    clear g0 g1
    refine wpM_two (i := 8) (j := 11) (by kernel_rfl) ?_ ?_
    · skip
      refine mOp_call rfl (by go_simp) 123 _ #[.int .i64 17, .int .i64 s.1] (fun w => by go_simp) rfl ?_
      rintro _ ⟨sg, rfl⟩
      refine (KP.out _).mono ?_
      rintro e wg1 ⟨rfl, hbx⟩
      have hbg := Below.step sg.h hbx
      refine ⟨_, rfl, ⟨⟨wg1, hbx⟩, rfl⟩, ?_⟩
      replace BB := Below.step BB hbg
      clear hbg hbx sg
      replace hne := HW.some wg1
      refine wpM_more [10] 2 1 rfl (by kernel_rfl) (by kernel_rfl) (by kernel_rfl) (by kernel_rfl) ?_
      simp only [opsAt, List.getElem?_toArray, List.getElem?_cons_zero, List.getElem?_cons_succ]
      go_simp
      repeat (go_big_quiet_step (fail))
      refine wpQuiet_nil ?_
      refine wpM_only (i := 11) (by kernel_rfl) ?_
      refine mOp_make rfl (by go_simp) ?_
      rintro _ ⟨sg, rfl⟩
      refine ⟨.pointer (some ⟨sg.w.heap.size, 0, none⟩), sg.w.alloc (.cells #[.slice none 0 0, .int .i64 0, .int .i64 0] 84), by go_simp, ⟨⟨_, alloc_below _ _⟩, rfl⟩, ?_⟩
      have hbg := Below.step sg.h (alloc_below sg.w (.cells #[.slice none 0 0, .int .i64 0, .int .i64 0] 84))
      have AN := Arr.new sg.w [.slice none 0 0, .int .i64 0, .int .i64 0] 84
      have GN := ((Below.step BB sg.h)).size
      replace BB := Below.step BB hbg
      clear hbg
      replace hne := HW.some (sg.w.alloc (.cells #[.slice none 0 0, .int .i64 0, .int .i64 0] 84))
      generalize hW : (sg.w.alloc (.cells #[.slice none 0 0, .int .i64 0, .int .i64 0] 84)) = wg2 at *
      clear hW
      generalize sg.w.heap.size = gn at *
      clear sg
      refine wpM_end (by kernel_rfl) rfl (by kernel_rfl) (by decide) ?_
      rintro _ ⟨sz, rfl⟩
      simp only [List.drop_succ_cons, List.drop_zero]
      go_simp
      replace AN := AN.stay sz.h
      replace GN := show V.heap.size ≤ gn from GN
      replace BB := Below.step BB sz.h
      clear hne
      generalize sz.w = W at *
      clear sz
      revert GN
      revert AN
      revert BB
      revert gn
      revert W
      exact JN.out
    · skip
      refine mOp_make rfl (by go_simp) ?_
      rintro _ ⟨sg, rfl⟩
      refine ⟨.pointer (some ⟨sg.w.heap.size, 0, none⟩), sg.w.alloc (.cells #[.slice none 0 0, .int .i64 0, .int .i64 0] 84), by go_simp, ⟨⟨_, alloc_below _ _⟩, rfl⟩, ?_⟩
      have hbg := Below.step sg.h (alloc_below sg.w (.cells #[.slice none 0 0, .int .i64 0, .int .i64 0] 84))
      have AN := Arr.new sg.w [.slice none 0 0, .int .i64 0, .int .i64 0] 84
      have GN := ((Below.step BB sg.h)).size
      replace BB := Below.step BB hbg
      clear hbg
      replace hne := HW.some (sg.w.alloc (.cells #[.slice none 0 0, .int .i64 0, .int .i64 0] 84))
      generalize hW : (sg.w.alloc (.cells #[.slice none 0 0, .int .i64 0, .int .i64 0] 84)) = wg3 at *
      clear hW
      generalize sg.w.heap.size = gn at *
      clear sg
      refine wpM_only (i := 8) (by kernel_rfl) ?_
      refine mOp_call rfl (by go_simp) 123 _ #[.int .i64 17, .int .i64 s.1] (fun w => by go_simp) rfl ?_
      rintro _ ⟨sg, rfl⟩
      refine (KP.out _).mono ?_
      rintro e wg4 ⟨rfl, hbx⟩
      have hbg := Below.step sg.h hbx
      refine ⟨_, rfl, ⟨⟨wg4, hbx⟩, rfl⟩, ?_⟩
      replace AN := AN.stay hbg
      replace GN := show V.heap.size ≤ gn from GN
      replace BB := Below.step BB hbg
      clear hbg hbx sg
      replace hne := HW.some wg4
      refine wpM_more [10] 1 0 rfl (by kernel_rfl) (by kernel_rfl) (by kernel_rfl) (by kernel_rfl) ?_
      simp only [opsAt, List.getElem?_toArray, List.getElem?_cons_zero, List.getElem?_cons_succ]
      go_simp
      repeat (go_big_quiet_step (fail))
      refine wpQuiet_nil ?_
      refine wpM_end (by kernel_rfl) rfl (by kernel_rfl) (by decide) ?_
      rintro _ ⟨sz, rfl⟩
      simp only [List.drop_succ_cons, List.drop_zero]
      go_simp
      replace AN := AN.stay sz.h
      replace GN := show V.heap.size ≤ gn from GN
      replace BB := Below.step BB sz.h
      clear hne
      generalize sz.w = W at *
      clear sz
      revert GN
      revert AN
      revert BB
      revert gn
      revert W
      exact JN.out
  intro W gn BB AN GN
  have a0 := (AN.cell 0).trans (show _ = some _ from rfl)
  have a1 := (AN.cell 1).trans (show _ = some _ from rfl)
  have a2 := (AN.cell 2).trans (show _ = some _ from rfl)
  have fa := AN.frozen
  have hz : Hid (w.heap.size + 1 ≤ V.heap.size) := R.lt
  have L2 := ((AN.set 0 (.slice p s.2.1.length q)).set 1 (.int .i64 (shareN s))).set 2 (.int .i64 psk)
  have BV := ((BB.setCell (p := ⟨gn, 0, none⟩) GN (.slice p s.2.1.length q)).setCell (p := ⟨gn, 1, none⟩) GN (.int .i64 (shareN s))).setCell (p := ⟨gn, 2, none⟩) GN (.int .i64 psk)
  have KH := l10Pack_c kind gn (helH s psk) p q _ L2 ((HR.out.keep BW).keep BV) HF.out
  replace R := R.stay BV
  replace BW := Below.step BW BV
  have hz2 : Hid (w.heap.size + 1 ≤ (((W.setCell ⟨gn, 0, none⟩ (.slice p s.2.1.length q)).setCell ⟨gn, 1, none⟩ (.int .i64 (shareN s))).setCell ⟨gn, 2, none⟩ (.int .i64 psk)).heap.size) := Nat.le_trans hz.out BV.size
  clear L2 BV AN BB c0 c1
  generalize e2 : ((W.setCell ⟨gn, 0, none⟩ (.slice p s.2.1.length q)).setCell ⟨gn, 1, none⟩ (.int .i64 (shareN s))).setCell ⟨gn, 2, none⟩ (.int .i64 psk) = W2 at *
  go_wp2_with fail
  refine KH.mono ?_
  rintro e w3 ⟨u3, rfl, k3, hb3⟩
  replace k3 := k3.lower hz2.out
  replace R := R.stay hb3
  replace BW := Below.step BW hb3
  obtain ⟨a3, c3, rfl, -⟩ := k3.rd
  have t0 := (R.cell 0).trans (show _ = some _ from rfl)
  have t1 := (R.cell 1).trans (show _ = some _ from rfl)
  have ft := R.frozen
  clear KH hb3 R e2 a0 a1 a2 fa
  go_wp2_with fail
  exact bodyPost_ret (v := .agg #[.int .i64 kind, .slice a3 (hpL (helH s psk)).length c3]) (by simp [results, Tryz.results84, go_sem, t0, t1]) rfl ⟨_, rfl, ((k3.set (Nat.lt_succ_self _) _).set (Nat.lt_succ_self _) _).lower (Nat.le_succ _), (BW.setCell (Nat.le_refl _) _).setCell (Nat.le_refl _) _⟩
set_option maxRecDepth 4000 in
set_option maxHeartbeats 1000000 in
theorem l11Bad_c (c : Int) (w : World) : Calls Tryz.prog 62 #[.int .i64 c] w fun e w' => e = .returned (.agg #[.int .i64 c, .int .i64 0, .slice none 0 0, .int .i64 0, .slice none 0 0, .int .i64 0, .int .i64 0, .slice none 0 0, .slice none 0 0, .slice none 0 0, .slice none 0 0, .slice none 0 0, .slice none 0 0, .slice none 0 0]) ∧ Below w.heap.size w w' := by
  go_enter Tryz.func62, Tryz.ntmps62
  go_wp2
  exact bodyPost_ret (v := .agg #[.int .i64 c, .int .i64 0, .slice none 0 0, .int .i64 0, .slice none 0 0, .int .i64 0, .int .i64 0, .slice none 0 0, .slice none 0 0, .slice none 0 0, .slice none 0 0, .slice none 0 0, .slice none 0 0, .slice none 0 0]) (by simp [results, Tryz.results62, go_sem]) rfl ⟨rfl, alloc_below _ _⟩
end Go.Proofs.YtiabacnmmojfjaaGreatDoor
