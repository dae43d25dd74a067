/- The contracts of the specification's l12Unpack, UnpackCert, LookCert, at every argument (written by tools/cert_t.py). What was there stays. -/
import Derived.Test.YtflhoefocjmihaaGreatDoorCertS
import Derived.Test.YtflhoefocjmihaaGreatDoorJoint7
namespace Go.Proofs.YtflhoefocjmihaaGreatDoor
open Go.ChangeShapes Go.WideShapes Go.ChangeAt Go.RowKit

abbrev aggC (r : Int × CertD) : Value := .agg #[.int .i64 r.1, .int .i64 r.2.1, .int .i64 r.2.2.1, .int .i64 r.2.2.2]
theorem wrap_u8 (x : UInt8) : wrap64 (x.toNat : Int) = x.toNat := by unfold wrap64; have := x.toNat_lt; omega
theorem getB_two (c d : UInt8) : ((getB [c, d] : Nat) : Int) = c.toNat * 256 + d.toNat := by simp [getB]
theorem ucD_bad {a b c d : UInt8} (h : okC (rdC a b c d) = false) : ucD [a, b, c, d] = (5, zC) := by show (if okC (rdC a b c d) then _ else _) = _; rw [h]; rfl
theorem ucD_good {a b c d : UInt8} (h : okC (rdC a b c d) = true) : ucD [a, b, c, d] = (0, rdC a b c d) := by show (if okC (rdC a b c d) then _ else _) = _; rw [h]; rfl
set_option maxRecDepth 4000 in
set_option maxHeartbeats 1000000 in
theorem l12Unpack_c (bs : List UInt8) (p : Option Addr) (q : Nat) (w : World) (hr : Rd w p q bs) :
    Calls Tryz.prog 137 #[.slice p bs.length q] w fun e w' => ∃ (c : CertD) (t : Bool), e = .returned (.tuple #[.agg #[.int .i64 c.1, .int .i64 c.2.1, .int .i64 c.2.2], .bool t]) ∧ Below w.heap.size w w' ∧ ucD bs = (if t then (0, c) else (5, zC)) := by
  have BW := alloc_below w (.cells #[.int .i64 0, .int .i64 0, .int .i64 0] 41)
  have R := Arr.new w [.int .i64 0, .int .i64 0, .int .i64 0] 41
  by_cases h4 : bs.length = 4
  · obtain ⟨x0, x1, x2, x3, rfl⟩ := four_of h4
    obtain ⟨b0, o0, rfl, hc⟩ := hr.2.2.2 (by simp)
    have hq : 4 ≤ q := hr.1
    have hqm : q ≤ 2 ^ 63 - 1 := hr.2.1
    have hr2 := hr.keep BW
    obtain ⟨b0', o0', e0, hc⟩ := hr2.2.2.2 (by simp)
    cases e0
    have d0 := hc 0 (by simp)
    have d1 := hc 1 (by simp)
    rw [Nat.add_zero] at d0
    rw [show at8 [x0, x1, x2, x3] 0 = x0.toNat from rfl] at d0
    rw [show at8 [x0, x1, x2, x3] 1 = x1.toNat from rfl] at d1
    have KG : Hid (∀ W : World, Below (w.alloc (.cells #[.int .i64 0, .int .i64 0, .int .i64 0] 41)).heap.size (w.alloc (.cells #[.int .i64 0, .int .i64 0, .int .i64 0] 41)) W → Calls Tryz.prog 164 #[.slice (some ⟨b0, o0 + 2, none⟩) 2 (q - 2)] W fun e w' => e = .returned (.int .i64 (x2.toNat * 256 + x3.toNat)) ∧ Below W.heap.size W w') := fun W hW => by
      have h := l1Get_c (some ⟨b0, o0 + 2, none⟩) (q - 2) [x2, x3] W ((hr2.cut 2 2 (q - 2) (by simp) (by omega) (by unfold maxLen; omega)).keep hW) (by simp)
      rw [getB_two] at h
      refine Calls.mono h ?_
      rintro e w' ⟨rfl, rfl⟩
      exact ⟨rfl, Below.refl _ _⟩
    clear hc h4 hr hr2
    go_enter Tryz.func137, Tryz.ntmps137
    go_wp2_with fail
    generalize hV : w.alloc (.cells #[.int .i64 0, .int .i64 0, .int .i64 0] 41) = V at *
    apply share
    case h =>
      intro JN
      have BB := Below.refl V.heap.size V
      have hne := HW.some V
      have g0 := HW.at (d0)
      have g1 := HW.at (d1)
      refine wp_region_pick [0, 1, 2, 3, 4, 5, 6, 7, 8, 9] 13 3 1 rfl rfl rfl (by kernel_rfl) (by kernel_rfl) (by kernel_rfl) (by kernel_rfl) ?_
      simp only [opsAt, List.getElem?_toArray, List.getElem?_cons_zero, List.getElem?_cons_succ]
      repeat (go_big_quiet_step (fail))
      refine wpQuiet_nil ?_
      clear g0 g1
      refine wpM_two (i := 10) (j := 12) (by kernel_rfl) ?_ ?_
      · skip
        refine mOp_call rfl (by go_simp) 164 _ #[.slice (some ⟨b0, o0 + 2, none⟩) 2 (q - 2)] (fun w => by go_simp) rfl ?_
        rintro _ ⟨sg, rfl⟩
        refine (KG.out _ (Below.step BB sg.h)).mono ?_
        rintro e wg1 ⟨rfl, hbx⟩
        have hbg := Below.step sg.h hbx
        refine ⟨_, rfl, ⟨⟨wg1, hbx⟩, rfl⟩, ?_⟩
        replace BB := Below.step BB hbg
        clear hbg hbx sg
        replace hne := HW.some wg1
        refine wpM_more [11] 2 1 rfl (by kernel_rfl) (by kernel_rfl) (by kernel_rfl) (by kernel_rfl) ?_
        simp only [opsAt, List.getElem?_toArray, List.getElem?_cons_zero, List.getElem?_cons_succ]
        go_simp
        repeat (go_big_quiet_step (fail))
        refine wpQuiet_nil ?_
        refine wpM_only (i := 12) (by kernel_rfl) ?_
        refine mOp_make rfl (by go_simp) ?_
        rintro _ ⟨sg, rfl⟩
        refine ⟨.pointer (some ⟨sg.w.heap.size, 0, none⟩), sg.w.alloc (.cells #[.int .i64 0, .int .i64 0, .int .i64 0] 41), by go_simp, ⟨⟨_, alloc_below _ _⟩, rfl⟩, ?_⟩
        have hbg := Below.step sg.h (alloc_below sg.w (.cells #[.int .i64 0, .int .i64 0, .int .i64 0] 41))
        have AA := Arr.new sg.w [.int .i64 0, .int .i64 0, .int .i64 0] 41
        have GG := (Below.step BB sg.h).size
        replace BB := Below.step BB hbg
        clear hbg
        replace hne := HW.some (sg.w.alloc (.cells #[.int .i64 0, .int .i64 0, .int .i64 0] 41))
        generalize hW : (sg.w.alloc (.cells #[.int .i64 0, .int .i64 0, .int .i64 0] 41)) = wg2 at *
        clear hW
        generalize sg.w.heap.size = gg at *
        clear sg
        refine wpM_end (by kernel_rfl) rfl (by kernel_rfl) (by decide) ?_
        rintro _ ⟨sz, rfl⟩
        simp only [List.drop_succ_cons, List.drop_zero]
        go_simp
        replace AA := AA.stay sz.h
        replace BB := Below.step BB sz.h
        clear hne
        generalize sz.w = W at *
        clear sz
        revert GG
        revert AA
        revert BB
        revert gg
        revert W
        exact JN.out
      · skip
        refine mOp_make rfl (by go_simp) ?_
        rintro _ ⟨sg, rfl⟩
        refine ⟨.pointer (some ⟨sg.w.heap.size, 0, none⟩), sg.w.alloc (.cells #[.int .i64 0, .int .i64 0, .int .i64 0] 41), by go_simp, ⟨⟨_, alloc_below _ _⟩, rfl⟩, ?_⟩
        have hbg := Below.step sg.h (alloc_below sg.w (.cells #[.int .i64 0, .int .i64 0, .int .i64 0] 41))
        have AA := Arr.new sg.w [.int .i64 0, .int .i64 0, .int .i64 0] 41
        have GG := (Below.step BB sg.h).size
        replace BB := Below.step BB hbg
        clear hbg
        replace hne := HW.some (sg.w.alloc (.cells #[.int .i64 0, .int .i64 0, .int .i64 0] 41))
        generalize hW : (sg.w.alloc (.cells #[.int .i64 0, .int .i64 0, .int .i64 0] 41)) = wg3 at *
        clear hW
        generalize sg.w.heap.size = gg at *
        clear sg
        refine wpM_only (i := 10) (by kernel_rfl) ?_
        refine mOp_call rfl (by go_simp) 164 _ #[.slice (some ⟨b0, o0 + 2, none⟩) 2 (q - 2)] (fun w => by go_simp) rfl ?_
        rintro _ ⟨sg, rfl⟩
        refine (KG.out _ (Below.step BB sg.h)).mono ?_
        rintro e wg4 ⟨rfl, hbx⟩
        have hbg := Below.step sg.h hbx
        refine ⟨_, rfl, ⟨⟨wg4, hbx⟩, rfl⟩, ?_⟩
        replace AA := AA.stay hbg
        replace BB := Below.step BB hbg
        clear hbg hbx sg
        replace hne := HW.some wg4
        refine wpM_more [11] 1 0 rfl (by kernel_rfl) (by kernel_rfl) (by kernel_rfl) (by kernel_rfl) ?_
        simp only [opsAt, List.getElem?_toArray, List.getElem?_cons_zero, List.getElem?_cons_succ]
        go_simp
        repeat (go_big_quiet_step (fail))
        refine wpQuiet_nil ?_
        refine wpM_end (by kernel_rfl) rfl (by kernel_rfl) (by decide) ?_
        rintro _ ⟨sz, rfl⟩
        simp only [List.drop_succ_cons, List.drop_zero]
        go_simp
        replace AA := AA.stay sz.h
        replace BB := Below.step BB sz.h
        clear hne
        generalize sz.w = W at *
        clear sz
        revert GG
        revert AA
        revert BB
        revert gg
        revert W
        exact JN.out
    case hj =>
    intro W gg BB AA GG
    rw [wrap_u8, wrap_u8]
    have a0 := AA.cell 0
    have a1 := AA.cell 1
    have a2 := AA.cell 2
    have fa := AA.frozen
    simp at a0 a1 a2
    have RW := R.stay BB
    have hne : Hid (w.heap.size ≠ gg) := by show _ ≠ _; have := R.lt; omega
    have A3 := ((AA.set 0 (.int .i64 (x0.toNat : Int))).set 1 (.int .i64 (x1.toNat : Int))).set 2 (.int .i64 ((x2.toNat : Int) * 256 + x3.toNat))
    have R3 := ((RW.setOther (a := ⟨gg, 0, none⟩) hne.out (.int .i64 (x0.toNat : Int))).setOther (a := ⟨gg, 1, none⟩) hne.out (.int .i64 (x1.toNat : Int))).setOther (a := ⟨gg, 2, none⟩) hne.out (.int .i64 ((x2.toNat : Int) * 256 + x3.toNat))
    have B3 := (((Below.step BW BB).setCell (p := ⟨gg, 0, none⟩) (by have := BW.size; show w.heap.size ≤ gg; omega) (.int .i64 (x0.toNat : Int))).setCell (p := ⟨gg, 1, none⟩) (by have := BW.size; show w.heap.size ≤ gg; omega) (.int .i64 (x1.toNat : Int))).setCell (p := ⟨gg, 2, none⟩) (by have := BW.size; show w.heap.size ≤ gg; omega) (.int .i64 ((x2.toNat : Int) * 256 + x3.toNat))
    clear AA R RW BB d0 d1 KG
    go_wp2_with fail
    generalize hV2 : ((W.setCell ⟨gg, 0, none⟩ (.int .i64 (x0.toNat : Int))).setCell ⟨gg, 1, none⟩ (.int .i64 (x1.toNat : Int))).setCell ⟨gg, 2, none⟩ (.int .i64 ((x2.toNat : Int) * 256 + x3.toNat)) = V2 at *
    clear hV2 a0 a1 a2 fa hV
    have l0 := (A3.cell 0).trans (show _ = some _ from rfl)
    have l1 := (A3.cell 1).trans (show _ = some _ from rfl)
    have l2 := (A3.cell 2).trans (show _ = some _ from rfl)
    have KO : Hid (∀ W2 : World, Below V2.heap.size V2 W2 → Calls Tryz.prog 100 #[.pointer (some ⟨gg, 0, none⟩)] W2 fun e w' => e = .returned (.bool (okC (rdC x0 x1 x2 x3))) ∧ Below W2.heap.size W2 w') := fun W2 h2 => by
      have A4 := A3.stay h2
      refine Calls.mono (l12One_c gg 0 (rdC x0 x1 x2 x3) W2 ((A4.cell 0).trans rfl) ((A4.cell 1).trans rfl) ((A4.cell 2).trans rfl)) ?_
      rintro e w' ⟨rfl, rfl⟩
      exact ⟨rfl, Below.refl _ _⟩
    clear A3
    apply share
    case h =>
      intro JN
      have BB := Below.refl V2.heap.size V2
      have hne := HW.some V2
      have g0 := HW.at (l0)
      have g1 := HW.at (l1)
      have g2 := HW.at (l2)
      refine wp_region_pick [0] 2 1 2 rfl rfl rfl (by kernel_rfl) (by kernel_rfl) (by kernel_rfl) (by kernel_rfl) ?_
      simp only [opsAt, List.getElem?_toArray, List.getElem?_cons_zero]
      repeat (go_big_quiet_step (fail))
      refine wpQuiet_nil ?_
      clear g0 g1 g2
      refine wpM_only (i := 1) (by kernel_rfl) ?_
      refine mOp_call rfl (by go_simp) 100 _ #[.pointer (some ⟨gg, 0, none⟩)] (fun w => by go_simp) rfl ?_
      rintro _ ⟨sg, rfl⟩
      refine (KO.out _ (Below.step BB sg.h)).mono ?_
      rintro e wg1 ⟨rfl, hbx⟩
      have hbg := Below.step sg.h hbx
      refine ⟨_, rfl, ⟨⟨wg1, hbx⟩, rfl⟩, ?_⟩
      replace BB := Below.step BB hbg
      clear hbg hbx sg
      replace hne := HW.some wg1
      refine wpM_end (by kernel_rfl) rfl (by kernel_rfl) (by decide) ?_
      rintro _ ⟨sz, rfl⟩
      simp only [List.drop_succ_cons, List.drop_zero]
      go_simp
      replace BB := Below.step BB sz.h
      clear hne
      generalize sz.w = W2 at *
      clear sz
      revert BB
      revert W2
      exact JN.out
    case hj =>
    intro W2 BB
    have R5 := R3.stay BB
    have B5 := Below.step B3 BB
    have r0 := R5.cell 0
    have r1 := R5.cell 1
    have r2 := R5.cell 2
    have fr := R5.frozen
    simp at r0 r1 r2
    clear l0 l1 l2 KO R3 B3 BB
    go_wp2_with fail
    refine bodyPost_ret (v := .tuple #[.agg #[.int .i64 (x0.toNat : Int), .int .i64 (x1.toNat : Int), .int .i64 ((x2.toNat : Int) * 256 + x3.toNat)], .bool (okC (rdC x0 x1 x2 x3))]) (by simp [results, Tryz.results137, go_sem, r0, r1, r2]) rfl ⟨rdC x0 x1 x2 x3, okC (rdC x0 x1 x2 x3), rfl, ((B5.setCell (Nat.le_refl _) _).setCell (Nat.le_refl _) _).setCell (Nat.le_refl _) _, ?_⟩
    rfl
  · have d : ((bs.length : Int) != 4) = true := by rw [bne_iff_ne]; omega
    have HU : Hid (ucD bs = (5, zC)) := ucD_long h4
    go_enter Tryz.func137, Tryz.ntmps137
    go_wp2
    exact bodyPost_ret (v := .tuple #[.agg #[.int .i64 0, .int .i64 0, .int .i64 0], .bool false]) (by simp [results, Tryz.results137, go_sem]) rfl ⟨zC, false, rfl, BW, HU.out⟩
end Go.Proofs.YtflhoefocjmihaaGreatDoor

