/- isKey of the program: does it have 32 bytes? -/
import Derived.Test.YtiabacnmmojfjaaGreatDoorJoint16
import Derived.Test.YtiabacnmmojfjaaGreatDoorJoint1
import Derived.Handy
import Derived.Test.YtiabacnmmojfjaaGreatDoorJoint20
import Derived.Test.YtiabacnmmojfjaaGreatDoorJoint6
import Derived.Test.YtiabacnmmojfjaaGreatDoorJoint12
import Derived.Test.YtiabacnmmojfjaaGreatDoorJoint21
import Derived.Test.YtiabacnmmojfjaaGreatDoorJoint13
import Derived.Test.YtiabacnmmojfjaaGreatDoorJoint8
import Derived.Test.YtiabacnmmojfjaaGreatDoorJoint18
namespace Go.Proofs.YtiabacnmmojfjaaGreatDoor
open Go.ChangeShapes Go.WideShapes Go.ChangeAt Go.RowKit
theorem isKeyR_c (p : Option Addr) (q : Nat) (bs : List UInt8) (w : World) : Calls Tryz.prog 45 #[.slice p bs.length q] w fun e w' => e = .returned (.bool (is32 bs)) ∧ w' = w := by
  by_cases h : bs.length = 32
  · rw [show is32 bs = true by simp [is32, h]]
    have d1 : ((bs.length : Int) == 32) = true := by rw [beq_iff_eq]; omega
    clear h
    go_enter Tryz.func45, Tryz.ntmps45
    go_wp2
    go_ret
    exact ⟨rfl, rfl⟩
  · rw [show is32 bs = false by simp [is32, h]]
    have d1 : ((bs.length : Int) == 32) = false := by rw [beq_eq_false_iff_ne]; omega
    clear h
    go_enter Tryz.func45, Tryz.ntmps45
    go_wp2
    go_ret
    exact ⟨rfl, rfl⟩
end Go.Proofs.YtiabacnmmojfjaaGreatDoor
/- The program's functions on hellos that read no table: kinds, faults, hellos within, bodies, HelloFault, PackHello (written by tools/hel_i.py). What was there stays. -/
namespace Go.Proofs.YtiabacnmmojfjaaGreatDoor
open Go.ChangeShapes Go.WideShapes Go.ChangeAt Go.RowKit
theorem isHelloKind_c (k : Int) (w : World) : Calls Tryz.prog 181 #[.int .i64 k] w fun e w' => e = .returned (.bool (hkB k)) ∧ w' = w := by
  by_cases h1 : k = 1
  · rw [show hkB k = true by simp [hkB, h1]]
    have d1 : (k == 1) = true := by rw [beq_iff_eq]; exact h1
    clear h1
    go_enter Tryz.func181, Tryz.ntmps181
    go_wp2
    go_ret
    exact ⟨rfl, rfl⟩
  · have d1 : (k == 1) = false := by rw [beq_eq_false_iff_ne]; exact h1
    by_cases h2 : k = 2
    · rw [show hkB k = true by simp [hkB, h2]]
      have d2 : (k == 2) = true := by rw [beq_iff_eq]; exact h2
      clear h1 h2
      go_enter Tryz.func181, Tryz.ntmps181
      go_wp2
      go_ret
      exact ⟨rfl, rfl⟩
    · rw [show hkB k = false by simp [hkB, h1, h2]]
      have d2 : (k == 2) = false := by rw [beq_eq_false_iff_ne]; exact h2
      clear h1 h2
      go_enter Tryz.func181, Tryz.ntmps181
      go_wp2
      go_ret
      exact ⟨rfl, rfl⟩
theorem isPsk_c (k : Int) (w : World) : Calls Tryz.prog 38 #[.int .i64 k] w fun e w' => e = .returned (.bool (inB k 0 9)) ∧ w' = w := by
  by_cases h1 : 0 ≤ k
  · by_cases h2 : k ≤ 9
    · rw [show inB k 0 9 = true by simp [inB, h1, h2]]
      go_enter Tryz.func38, Tryz.ntmps38
      go_wp2
      go_ret
      exact ⟨rfl, rfl⟩
    · rw [show inB k 0 9 = false by simp [inB, h2]; try omega]
      go_enter Tryz.func38, Tryz.ntmps38
      go_wp2
      go_ret
      exact ⟨rfl, rfl⟩
  · rw [show inB k 0 9 = false by simp [inB, h1]; try omega]
    go_enter Tryz.func38, Tryz.ntmps38
    go_wp2
    go_ret
    exact ⟨rfl, rfl⟩
theorem isWhole_c (p : Option Addr) (q : Nat) (bs : List UInt8) (w : World) : Calls Tryz.prog 39 #[.slice p bs.length q] w fun e w' => e = .returned (.bool (decide (bs.length = 8))) ∧ w' = w := by
  by_cases h : bs.length = 8
  · rw [show decide (bs.length = 8) = true by simp [h]]
    have d1 : ((bs.length : Int) == 8) = true := by rw [beq_iff_eq]; omega
    clear h
    go_enter Tryz.func39, Tryz.ntmps39
    go_wp2
    go_ret
    exact ⟨rfl, rfl⟩
  · rw [show decide (bs.length = 8) = false by simp [h]]
    have d1 : ((bs.length : Int) == 8) = false := by rw [beq_eq_false_iff_ne]; omega
    clear h
    go_enter Tryz.func39, Tryz.ntmps39
    go_wp2
    go_ret
    exact ⟨rfl, rfl⟩
theorem randomCopy_c (p : Option Addr) (q : Nat) (bs : List UInt8) (w : World) (hr : Rd w p q bs) (hl : bs.length ≤ 1000000) : Calls Tryz.prog 209 #[.slice p bs.length q] w fun e w' => ∃ u, e = .returned u ∧ Own w' w.heap.size u bs ∧ Below w.heap.size w w' := by
  go_enter Tryz.func209, Tryz.ntmps209
  go_wp2_with fail
  refine (bytesClone_c p q bs w hr hl).mono ?_
  rintro e w1 ⟨u, rfl, k, hb⟩
  go_wp2
  go_ret
  exact ⟨_, rfl, k, hb⟩
theorem helloOf_c (h : HelloD) (p : Option Addr) (q : Nat) (w : World) : Calls Tryz.prog 204 #[.agg #[.slice p h.1.length q, .int .i64 h.2.1, .int .i64 h.2.2]] w fun e w' => e = .returned (.agg #[.slice p h.1.length q, .int .i64 h.2.1, .int .i64 h.2.2]) ∧ Below w.heap.size w w' := by
  go_enter Tryz.func204, Tryz.ntmps204
  go_wp2
  exact bodyPost_ret (v := .agg #[.slice p h.1.length q, .int .i64 h.2.1, .int .i64 h.2.2]) (by simp [results, Tryz.results204, go_sem]) rfl ⟨rfl, Below.mk (alloc_below _ _) _⟩
set_option maxRecDepth 4000 in
set_option maxHeartbeats 1000000 in
theorem helloFault_c (h : HelloD) (p : Option Addr) (q : Nat) (w : World) : Calls Tryz.prog 205 #[.agg #[.slice p h.1.length q, .int .i64 h.2.1, .int .i64 h.2.2]] w fun e w' => e = .returned (.int .i64 (hfC h)) ∧ Below w.heap.size w w' := by
  cases h1 : decide (h.1.length = 8)
  · rw [show hfC h = 1 by simp only [decide_eq_false_iff_not] at h1; simp [hfC, h1]]
    go_enter Tryz.func205, Tryz.ntmps205
    go_wp2_with fail
    refine (isWhole_c _ _ _ _).mono ?_
    rintro e w' ⟨rfl, hw⟩
    subst hw
    rw [h1]
    go_wp2
    go_ret
    exact ⟨rfl, alloc_below _ _⟩
  · have h8 : h.1.length = 8 := by simpa using h1
    cases h2 : inB h.2.1 1 65520
    · rw [show hfC h = 3 by simp [hfC, h8, h2]]
      clear h8
      go_enter Tryz.func205, Tryz.ntmps205
      go_wp2_with fail
      refine (isWhole_c _ _ _ _).mono ?_
      rintro e w' ⟨rfl, hw⟩
      subst hw
      rw [h1]
      go_wp2_with fail
      refine (isElement_c _ _).mono ?_
      rintro e w' ⟨rfl, hw⟩
      subst hw
      rw [h2]
      go_wp2
      go_ret
      exact ⟨rfl, alloc_below _ _⟩
    · cases h3 : inB h.2.2 0 9
      · rw [show hfC h = 3 by simp [hfC, h8, h3]]
        clear h8
        go_enter Tryz.func205, Tryz.ntmps205
        go_wp2_with fail
        refine (isWhole_c _ _ _ _).mono ?_
        rintro e w' ⟨rfl, hw⟩
        subst hw
        rw [h1]
        go_wp2_with fail
        refine (isElement_c _ _).mono ?_
        rintro e w' ⟨rfl, hw⟩
        subst hw
        rw [h2]
        go_wp2_with fail
        refine (isPsk_c _ _).mono ?_
        rintro e w' ⟨rfl, hw⟩
        subst hw
        rw [h3]
        go_wp2
        go_ret
        exact ⟨rfl, alloc_below _ _⟩
      · rw [show hfC h = 0 by simp [hfC, h8, h2, h3]]
        clear h8
        go_enter Tryz.func205, Tryz.ntmps205
        go_wp2_with fail
        refine (isWhole_c _ _ _ _).mono ?_
        rintro e w' ⟨rfl, hw⟩
        subst hw
        rw [h1]
        go_wp2_with fail
        refine (isElement_c _ _).mono ?_
        rintro e w' ⟨rfl, hw⟩
        subst hw
        rw [h2]
        go_wp2_with fail
        refine (isPsk_c _ _).mono ?_
        rintro e w' ⟨rfl, hw⟩
        subst hw
        rw [h3]
        go_wp2
        go_ret
        exact ⟨rfl, alloc_below _ _⟩
theorem rdl_three_is (w : World) (pa pb : Option Addr) (qa qb gk : Nat) (h : HelloD) (ra : Rd w pa qa h.1) (rb : Rd w pb qb (putB h.2.1.toNat 2)) (rk : Rd w (some ⟨gk, 0, none⟩) 1 [UInt8.ofNat h.2.2.toNat]) :
    RdL bytC (w.alloc (.cells #[.slice pa h.1.length qa, .slice pb 2 qb, .slice (some ⟨gk, 0, none⟩) 1 1] 22)) (some ⟨w.heap.size, 0, none⟩) 3 (hpB h) := by
  have r3 := rdl_three w ⟨pa, qa, h.1⟩ ⟨pb, qb, putB h.2.1.toNat 2⟩ ⟨some ⟨gk, 0, none⟩, 1, [UInt8.ofNat h.2.2.toNat]⟩ 22 ra rb rk
  simp only [Pc.val, putB_len, List.length_singleton] at r3
  exact r3
set_option maxRecDepth 4000 in
set_option maxHeartbeats 2000000 in
theorem helloBody_c (h : HelloD) (p : Option Addr) (q : Nat) (w : World) (hr : Rd w p q h.1) (hc : hfC h = 0) :
    Calls Tryz.prog 206 #[.agg #[.slice p h.1.length q, .int .i64 h.2.1, .int .i64 h.2.2]] w fun e w' => ∃ u, e = .returned u ∧ Own w' w.heap.size u (hpL h) ∧ Below w.heap.size w w' := by
  obtain ⟨p1, p2, p3, p4, p5⟩ := hf_parts hc
  have HL8 : Hid (h.1.length = 8) := p1
  have HLen : Hid ((hpL h).length = 14) := hpL_len hc
  have HPB : Hid (pbC (hpB h) = 0 ∧ pbL (hpB h) = hpL h) := by
    have e1 : pbC (hpB h) = 0 := by
      have h14 := hpL_len hc
      unfold hpL at h14
      rw [pbC, if_pos ⟨by simp [hpB], by simp [okBl, hpB, putB_len, p1], by omega⟩]
    exact ⟨e1, by rw [pbL, if_pos e1]; rfl⟩
  have HR : Hid (Rd w p q h.1) := hr
  have BW := alloc_below w (.cells #[.slice p h.1.length q, .int .i64 h.2.1, .int .i64 h.2.2] 189)
  have A := Arr.new w [.slice p h.1.length q, .int .i64 h.2.1, .int .i64 h.2.2] 189
  have KP : Hid (∀ w, Calls Tryz.prog 109 #[.int .i64 h.2.1] w fun e w' => ∃ u, e = .returned (.agg #[.int .i64 0, u]) ∧ Own w' w.heap.size u (putB h.2.1.toNat 2) ∧ Below w.heap.size w w') := fun w => by
    have hh := implSb_c h.2.1 w
    have e1 : shbC h.2.1 = 0 := by rw [shbC, if_pos (by simp [inB, p2, p3])]
    rw [e1, show shbL h.2.1 = putB h.2.1.toNat 2 by rw [shbL, if_pos e1]] at hh
    exact hh
  have HKB : Hid (h.2.2 = ((UInt8.ofNat h.2.2.toNat).toNat : Int)) := by show _ = _; rw [UInt8.toNat_ofNat']; omega
  have F1 := bytes_f1
  clear hr hc p1
  obtain ⟨V, HV⟩ : ∃ V, Hid (V = w.alloc (.cells #[.slice p h.1.length q, .int .i64 h.2.1, .int .i64 h.2.2] 189)) := ⟨_, rfl⟩
  have hz0 : Hid (w.heap.size ≤ V.heap.size) := by show _ ≤ _; rw [HV.out, size_alloc]; omega
  rw [← HV.out] at BW A
  have c0 := (A.cell 0).trans (show _ = some _ from rfl)
  have c1 := (A.cell 1).trans (show _ = some _ from rfl)
  have c2 := (A.cell 2).trans (show _ = some _ from rfl)
  go_enter Tryz.func206, Tryz.ntmps206
  go_wp2_with fail
  rw [← HV.out]
  apply share
  case h =>
    intro JN
    have BB := Below.refl V.heap.size V
    have hne := HW.some V
    have g0 := HW.at (c0)
    have g1 := HW.at (c1)
    have g2 := HW.at (c2)
    refine wp_region_pick [0, 1, 3, 4, 7, 8, 9] 12 5 1 rfl rfl rfl (by kernel_rfl) (by kernel_rfl) (by kernel_rfl) (by kernel_rfl) ?_
    simp only [opsAt, List.getElem?_toArray, List.getElem?_cons_zero, List.getElem?_cons_succ]
    repeat (go_big_quiet_step (fail))
    refine wpQuiet_nil ?_
    clear g0 g1 g2
    refine wpM_two (i := 2) (j := 10) (by kernel_rfl) ?_ ?_
    · skip
      refine mOp_call rfl (by go_simp) 209 _ #[.slice p h.1.length q] (fun w => by go_simp) rfl ?_
      rintro _ ⟨sg, rfl⟩
      refine (randomCopy_c p q h.1 _ (HR.out.keep (Below.step BW (Below.step BB sg.h))) (by have := HL8.out; omega)).mono ?_
      rintro e wg1 ⟨ua, rfl, ka, hbx⟩
      obtain ⟨pa, qa, rfl, -⟩ := ka.rd
      have hbg := Below.step sg.h hbx
      refine ⟨_, rfl, ⟨⟨wg1, hbx⟩, rfl⟩, ?_⟩
      have Ra := Rd.own ka
      replace BB := Below.step BB hbg
      clear hbg hbx sg ka
      replace hne := HW.some wg1
      refine wpM_two (i := 5) (j := 10) (by kernel_rfl) ?_ ?_
      · skip
        refine mOp_call rfl (by go_simp) 109 _ #[.int .i64 h.2.1] (fun w => by go_simp) rfl ?_
        rintro _ ⟨sg, rfl⟩
        refine (KP.out _).mono ?_
        rintro e wg2 ⟨ub, rfl, kb, hbx⟩
        obtain ⟨pb, qb, rfl, -⟩ := kb.rd
        rw [putB_len] at kb ⊢
        have hbg := Below.step sg.h hbx
        refine ⟨_, rfl, ⟨⟨wg2, hbx⟩, rfl⟩, ?_⟩
        have Rb := Rd.own kb
        replace Ra := Ra.keep hbg
        replace BB := Below.step BB hbg
        clear hbg hbx sg kb
        replace hne := HW.some wg2
        refine wpM_more [6] 3 2 rfl (by kernel_rfl) (by kernel_rfl) (by kernel_rfl) (by kernel_rfl) ?_
        simp only [opsAt, List.getElem?_toArray, List.getElem?_cons_zero, List.getElem?_cons_succ]
        go_simp
        repeat (go_big_quiet_step (fail))
        refine wpQuiet_nil ?_
        refine wpM_only (i := 10) (by kernel_rfl) ?_
        refine mOp_make rfl (by go_simp) ?_
        rintro _ ⟨sg, rfl⟩
        refine ⟨.slice (some ⟨sg.w.heap.size, 0, none⟩) 1 1, sg.w.alloc (.cells #[.int .u8 h.2.2] 5), by go_simp, ⟨⟨_, alloc_below _ _⟩, rfl⟩, ?_⟩
        have hbg := Below.step sg.h (alloc_below sg.w (.cells #[.int .u8 h.2.2] 5))
        have Rk := rd_new sg.w [.int .u8 h.2.2] [UInt8.ofNat h.2.2.toNat] 5 1 (by simp only [List.map_cons, List.map_nil, u8v]; rw [← HKB.out]) rfl (by decide)
        replace Ra := Ra.keep hbg
        replace Rb := Rb.keep hbg
        replace BB := Below.step BB hbg
        clear hbg
        replace hne := HW.some (sg.w.alloc (.cells #[.int .u8 h.2.2] 5))
        generalize hW : (sg.w.alloc (.cells #[.int .u8 h.2.2] 5)) = wg3 at *
        clear hW
        generalize sg.w.heap.size = gk at *
        clear sg
        refine wpM_only (i := 11) (by kernel_rfl) ?_
        refine mOp_make rfl (by go_simp) ?_
        rintro _ ⟨sg, rfl⟩
        refine ⟨.slice (some ⟨sg.w.heap.size, 0, none⟩) 3 3, sg.w.alloc (.cells #[.slice pa h.1.length qa, .slice pb 2 qb, .slice (some ⟨gk, 0, none⟩) 1 1] 22), by go_simp, ⟨⟨_, alloc_below _ _⟩, rfl⟩, ?_⟩
        have hbg := Below.step sg.h (alloc_below sg.w (.cells #[.slice pa h.1.length qa, .slice pb 2 qb, .slice (some ⟨gk, 0, none⟩) 1 1] 22))
        have Rc := rdl_three_is sg.w pa pb qa qb gk h (Ra.keep sg.h) (Rb.keep sg.h) (Rk.keep sg.h)
        replace Ra := Ra.keep hbg
        replace Rb := Rb.keep hbg
        replace Rk := Rk.keep hbg
        replace BB := Below.step BB hbg
        clear hbg
        replace hne := HW.some (sg.w.alloc (.cells #[.slice pa h.1.length qa, .slice pb 2 qb, .slice (some ⟨gk, 0, none⟩) 1 1] 22))
        generalize hW : (sg.w.alloc (.cells #[.slice pa h.1.length qa, .slice pb 2 qb, .slice (some ⟨gk, 0, none⟩) 1 1] 22)) = wg4 at *
        clear hW
        generalize sg.w.heap.size = gb at *
        clear sg
        refine wpM_end (by kernel_rfl) rfl (by kernel_rfl) (by decide) ?_
        rintro _ ⟨sz, rfl⟩
        simp only [List.drop_succ_cons, List.drop_zero]
        go_simp
        replace Ra := Ra.keep sz.h
        replace Rb := Rb.keep sz.h
        replace Rk := Rk.keep sz.h
        replace Rc := Rc.keep sz.h
        replace BB := Below.step BB sz.h
        clear hne
        generalize sz.w = W at *
        clear sz
        revert Rc
        revert Rk
        revert Rb
        revert Ra
        revert BB
        revert gb
        revert gk
        revert qb
        revert pb
        revert qa
        revert pa
        revert W
        exact JN.out
      · skip
        refine mOp_make rfl (by go_simp) ?_
        rintro _ ⟨sg, rfl⟩
        refine ⟨.slice (some ⟨sg.w.heap.size, 0, none⟩) 1 1, sg.w.alloc (.cells #[.int .u8 h.2.2] 5), by go_simp, ⟨⟨_, alloc_below _ _⟩, rfl⟩, ?_⟩
        have hbg := Below.step sg.h (alloc_below sg.w (.cells #[.int .u8 h.2.2] 5))
        have Rk := rd_new sg.w [.int .u8 h.2.2] [UInt8.ofNat h.2.2.toNat] 5 1 (by simp only [List.map_cons, List.map_nil, u8v]; rw [← HKB.out]) rfl (by decide)
        replace Ra := Ra.keep hbg
        replace BB := Below.step BB hbg
        clear hbg
        replace hne := HW.some (sg.w.alloc (.cells #[.int .u8 h.2.2] 5))
        generalize hW : (sg.w.alloc (.cells #[.int .u8 h.2.2] 5)) = wg5 at *
        clear hW
        generalize sg.w.heap.size = gk at *
        clear sg
        refine wpM_only (i := 5) (by kernel_rfl) ?_
        refine mOp_call rfl (by go_simp) 109 _ #[.int .i64 h.2.1] (fun w => by go_simp) rfl ?_
        rintro _ ⟨sg, rfl⟩
        refine (KP.out _).mono ?_
        rintro e wg6 ⟨ub, rfl, kb, hbx⟩
        obtain ⟨pb, qb, rfl, -⟩ := kb.rd
        rw [putB_len] at kb ⊢
        have hbg := Below.step sg.h hbx
        refine ⟨_, rfl, ⟨⟨wg6, hbx⟩, rfl⟩, ?_⟩
        have Rb := Rd.own kb
        replace Ra := Ra.keep hbg
        replace Rk := Rk.keep hbg
        replace BB := Below.step BB hbg
        clear hbg hbx sg kb
        replace hne := HW.some wg6
        refine wpM_more [6] 2 1 rfl (by kernel_rfl) (by kernel_rfl) (by kernel_rfl) (by kernel_rfl) ?_
        simp only [opsAt, List.getElem?_toArray, List.getElem?_cons_zero, List.getElem?_cons_succ]
        go_simp
        repeat (go_big_quiet_step (fail))
        refine wpQuiet_nil ?_
        refine wpM_only (i := 11) (by kernel_rfl) ?_
        refine mOp_make rfl (by go_simp) ?_
        rintro _ ⟨sg, rfl⟩
        refine ⟨.slice (some ⟨sg.w.heap.size, 0, none⟩) 3 3, sg.w.alloc (.cells #[.slice pa h.1.length qa, .slice pb 2 qb, .slice (some ⟨gk, 0, none⟩) 1 1] 22), by go_simp, ⟨⟨_, alloc_below _ _⟩, rfl⟩, ?_⟩
        have hbg := Below.step sg.h (alloc_below sg.w (.cells #[.slice pa h.1.length qa, .slice pb 2 qb, .slice (some ⟨gk, 0, none⟩) 1 1] 22))
        have Rc := rdl_three_is sg.w pa pb qa qb gk h (Ra.keep sg.h) (Rb.keep sg.h) (Rk.keep sg.h)
        replace Ra := Ra.keep hbg
        replace Rk := Rk.keep hbg
        replace Rb := Rb.keep hbg
        replace BB := Below.step BB hbg
        clear hbg
        replace hne := HW.some (sg.w.alloc (.cells #[.slice pa h.1.length qa, .slice pb 2 qb, .slice (some ⟨gk, 0, none⟩) 1 1] 22))
        generalize hW : (sg.w.alloc (.cells #[.slice pa h.1.length qa, .slice pb 2 qb, .slice (some ⟨gk, 0, none⟩) 1 1] 22)) = wg7 at *
        clear hW
        generalize sg.w.heap.size = gb at *
        clear sg
        refine wpM_end (by kernel_rfl) rfl (by kernel_rfl) (by decide) ?_
        rintro _ ⟨sz, rfl⟩
        simp only [List.drop_succ_cons, List.drop_zero]
        go_simp
        replace Ra := Ra.keep sz.h
        replace Rk := Rk.keep sz.h
        replace Rb := Rb.keep sz.h
        replace Rc := Rc.keep sz.h
        replace BB := Below.step BB sz.h
        clear hne
        generalize sz.w = W at *
        clear sz
        revert Rc
        revert Rk
        revert Rb
        revert Ra
        revert BB
        revert gb
        revert gk
        revert qb
        revert pb
        revert qa
        revert pa
        revert W
        exact JN.out
    · skip
      refine mOp_make rfl (by go_simp) ?_
      rintro _ ⟨sg, rfl⟩
      refine ⟨.slice (some ⟨sg.w.heap.size, 0, none⟩) 1 1, sg.w.alloc (.cells #[.int .u8 h.2.2] 5), by go_simp, ⟨⟨_, alloc_below _ _⟩, rfl⟩, ?_⟩
      have hbg := Below.step sg.h (alloc_below sg.w (.cells #[.int .u8 h.2.2] 5))
      have Rk := rd_new sg.w [.int .u8 h.2.2] [UInt8.ofNat h.2.2.toNat] 5 1 (by simp only [List.map_cons, List.map_nil, u8v]; rw [← HKB.out]) rfl (by decide)
      replace BB := Below.step BB hbg
      clear hbg
      replace hne := HW.some (sg.w.alloc (.cells #[.int .u8 h.2.2] 5))
      generalize hW : (sg.w.alloc (.cells #[.int .u8 h.2.2] 5)) = wg8 at *
      clear hW
      generalize sg.w.heap.size = gk at *
      clear sg
      refine wpM_only (i := 2) (by kernel_rfl) ?_
      refine mOp_call rfl (by go_simp) 209 _ #[.slice p h.1.length q] (fun w => by go_simp) rfl ?_
      rintro _ ⟨sg, rfl⟩
      refine (randomCopy_c p q h.1 _ (HR.out.keep (Below.step BW (Below.step BB sg.h))) (by have := HL8.out; omega)).mono ?_
      rintro e wg9 ⟨ua, rfl, ka, hbx⟩
      obtain ⟨pa, qa, rfl, -⟩ := ka.rd
      have hbg := Below.step sg.h hbx
      refine ⟨_, rfl, ⟨⟨wg9, hbx⟩, rfl⟩, ?_⟩
      have Ra := Rd.own ka
      replace Rk := Rk.keep hbg
      replace BB := Below.step BB hbg
      clear hbg hbx sg ka
      replace hne := HW.some wg9
      refine wpM_only (i := 5) (by kernel_rfl) ?_
      refine mOp_call rfl (by go_simp) 109 _ #[.int .i64 h.2.1] (fun w => by go_simp) rfl ?_
      rintro _ ⟨sg, rfl⟩
      refine (KP.out _).mono ?_
      rintro e wg10 ⟨ub, rfl, kb, hbx⟩
      obtain ⟨pb, qb, rfl, -⟩ := kb.rd
      rw [putB_len] at kb ⊢
      have hbg := Below.step sg.h hbx
      refine ⟨_, rfl, ⟨⟨wg10, hbx⟩, rfl⟩, ?_⟩
      have Rb := Rd.own kb
      replace Rk := Rk.keep hbg
      replace Ra := Ra.keep hbg
      replace BB := Below.step BB hbg
      clear hbg hbx sg kb
      replace hne := HW.some wg10
      refine wpM_more [6] 2 1 rfl (by kernel_rfl) (by kernel_rfl) (by kernel_rfl) (by kernel_rfl) ?_
      simp only [opsAt, List.getElem?_toArray, List.getElem?_cons_zero, List.getElem?_cons_succ]
      go_simp
      repeat (go_big_quiet_step (fail))
      refine wpQuiet_nil ?_
      refine wpM_only (i := 11) (by kernel_rfl) ?_
      refine mOp_make rfl (by go_simp) ?_
      rintro _ ⟨sg, rfl⟩
      refine ⟨.slice (some ⟨sg.w.heap.size, 0, none⟩) 3 3, sg.w.alloc (.cells #[.slice pa h.1.length qa, .slice pb 2 qb, .slice (some ⟨gk, 0, none⟩) 1 1] 22), by go_simp, ⟨⟨_, alloc_below _ _⟩, rfl⟩, ?_⟩
      have hbg := Below.step sg.h (alloc_below sg.w (.cells #[.slice pa h.1.length qa, .slice pb 2 qb, .slice (some ⟨gk, 0, none⟩) 1 1] 22))
      have Rc := rdl_three_is sg.w pa pb qa qb gk h (Ra.keep sg.h) (Rb.keep sg.h) (Rk.keep sg.h)
      replace Rk := Rk.keep hbg
      replace Ra := Ra.keep hbg
      replace Rb := Rb.keep hbg
      replace BB := Below.step BB hbg
      clear hbg
      replace hne := HW.some (sg.w.alloc (.cells #[.slice pa h.1.length qa, .slice pb 2 qb, .slice (some ⟨gk, 0, none⟩) 1 1] 22))
      generalize hW : (sg.w.alloc (.cells #[.slice pa h.1.length qa, .slice pb 2 qb, .slice (some ⟨gk, 0, none⟩) 1 1] 22)) = wg11 at *
      clear hW
      generalize sg.w.heap.size = gb at *
      clear sg
      refine wpM_end (by kernel_rfl) rfl (by kernel_rfl) (by decide) ?_
      rintro _ ⟨sz, rfl⟩
      simp only [List.drop_succ_cons, List.drop_zero]
      go_simp
      replace Rk := Rk.keep sz.h
      replace Ra := Ra.keep sz.h
      replace Rb := Rb.keep sz.h
      replace Rc := Rc.keep sz.h
      replace BB := Below.step BB sz.h
      clear hne
      generalize sz.w = W at *
      clear sz
      revert Rc
      revert Rk
      revert Rb
      revert Ra
      revert BB
      revert gb
      revert gk
      revert qb
      revert pb
      revert qa
      revert pa
      revert W
      exact JN.out
  intro W pa qa pb qb gk gb BB Ra Rb Rk Rc
  clear c0 c1 c2
  go_wp2_with fail
  refine (implPB_c (hpB h) (some ⟨gb, 0, none⟩) 3 W (Rc)).mono ?_
  rintro e w3 ⟨u3, rfl, k3, hb3⟩
  rw [HPB.out.1, HPB.out.2] at *
  obtain ⟨a3, c3, rfl, -⟩ := k3.rd
  go_wp2
  go_ret
  exact ⟨_, rfl, k3.lower (Nat.le_trans hz0.out BB.size), Below.step (Below.step BW BB) hb3⟩
theorem msgR_ownG {w : World} {B : Nat} {c k : Int} {bs : List UInt8} {u : Value} (h : Own w B u bs) : msgResultC.own w B (c, k, bs) [.int .i64 c, .int .i64 k, u] ([] ++ ([] ++ u.ownBlock.toList)) :=
  own_pair 0 own_int (own_pair 0 own_int ⟨u, rfl, h, rfl⟩ lt_nil (fun _ _ => Nat.zero_le _)) lt_nil (fun _ _ => Nat.zero_le _)
set_option maxRecDepth 4000 in
set_option maxHeartbeats 1000000 in
theorem implPh_k (k : Int) (h : HelloD) (us : List Value) (w : World) (r : helloC.rep w h us) :
    Calls Tryz.prog 175 #[.int .i64 k, .agg us.toArray] w fun e w' => ∃ us fp, e = .returned (.agg us.toArray) ∧ msgResultC.own w' w.heap.size (phD k h) us fp ∧ Below w.heap.size w w' := by
  obtain ⟨p, q, rfl, rr⟩ := hello_rep r
  clear r
  have HR : Hid (Rd w p q h.1) := rr
  clear rr
  have BW := Below.mk (alloc_below w (.cells #[.slice p h.1.length q, .int .i64 h.2.1, .int .i64 h.2.2] 84)) (.cells #[.int .i64 0, .int .i64 0, .slice none 0 0] 150)
  have A := (Arr.new w [.slice p h.1.length q, .int .i64 h.2.1, .int .i64 h.2.2] 84).old _ (.cells #[.int .i64 0, .int .i64 0, .slice none 0 0] 150)
  have R := Arr.new (w.alloc (.cells #[.slice p h.1.length q, .int .i64 h.2.1, .int .i64 h.2.2] 84)) [.int .i64 0, .int .i64 0, .slice none 0 0] 150
  rw [size_alloc] at R
  cases hk : hkB k
  · rw [show phD k h = (3, 0, []) by simp [phD, phC, hk]]
    go_enter Tryz.func175, Tryz.ntmps175
    go_wp2_with fail
    refine (isHelloKind_c _ _).mono ?_
    rintro e w1 ⟨rfl, hw⟩
    subst w1
    rw [hk]
    go_wp2
    refine bodyPost_ret (v := .agg #[.int .i64 3, .int .i64 0, .slice none 0 0]) (by simp [results, Tryz.results175, go_sem]) rfl ⟨[_, _, _], _, rfl, msgR_ownG (Own_nil _ _), ?_⟩
    exact Below.mk (alloc_below _ _) _
  · have KF : Hid (∀ w, Calls Tryz.prog 205 #[.agg #[.slice p h.1.length q, .int .i64 h.2.1, .int .i64 h.2.2]] w fun e w' => e = .returned (.int .i64 (hfC h)) ∧ Below w.heap.size w w') := fun w => helloFault_c h p q w
    by_cases hc : hfC h = 0
    · have hp : phC k h = 0 := by rw [phC, hk, if_pos rfl]; exact hc
      rw [show phD k h = (0, k, hpL h) by rw [phD, if_pos hp]]
      have HC0 : Hid (hfC h = 0) := hc
      rw [hc] at KF
      clear hc hp
      go_enter Tryz.func175, Tryz.ntmps175
      go_wp2_with fail
      refine (isHelloKind_c _ _).mono ?_
      rintro e w1 ⟨rfl, hw⟩
      subst w1
      rw [hk]
      go_wp2_with fail
      refine (helloOf_c h p q _).mono ?_
      rintro e w1 ⟨rfl, hb1⟩
      replace BW := Below.step BW hb1
      replace R := R.stay hb1
      clear A hb1
      have N := Arr.new w1 [.slice p h.1.length q, .int .i64 h.2.1, .int .i64 h.2.2] 189
      have hb2 := alloc_below w1 (.cells #[.slice p h.1.length q, .int .i64 h.2.1, .int .i64 h.2.2] 189)
      replace BW := Below.step BW hb2
      replace R := R.stay hb2
      clear hb2
      go_wp2_with fail
      refine (KF.out _).mono ?_
      rintro e w2 ⟨rfl, hb2⟩
      replace BW := Below.step BW hb2
      replace R := R.stay hb2
      replace N := N.stay hb2
      clear hb2
      have c0 := (N.cell 0).trans (show _ = some _ from rfl)
      have c1 := (N.cell 1).trans (show _ = some _ from rfl)
      have c2 := (N.cell 2).trans (show _ = some _ from rfl)
      go_wp2_with fail
      refine (helloBody_c h p q w2 (HR.out.keep BW) HC0.out).mono ?_
      rintro e w3 ⟨u3, rfl, k3, hb3⟩
      have hz : Hid (w.heap.size + 2 ≤ w2.heap.size) := R.lt
      replace BW := Below.step BW hb3
      replace R := R.stay hb3
      obtain ⟨a3, c3, rfl, -⟩ := k3.rd
      replace k3 := k3.lower hz.out
      clear hb3 N c0 c1 c2
      have t0 := (R.cell 0).trans (show _ = some _ from rfl)
      have t1 := (R.cell 1).trans (show _ = some _ from rfl)
      have t2 := (R.cell 2).trans (show _ = some _ from rfl)
      have ft := R.frozen
      clear R
      go_wp2_with fail
      exact bodyPost_ret (v := .agg #[.int .i64 0, .int .i64 k, .slice a3 (hpL h).length c3]) (by simp [results, Tryz.results175, go_sem, t0, t1, t2]) rfl ⟨[_, _, _], _, rfl, msgR_ownG ((((k3.set (Nat.lt_succ_self _) _).set (Nat.lt_succ_self _) _).set (Nat.lt_succ_self _) _).lower (by omega)), ((BW.setCell (by show w.heap.size ≤ w.heap.size + 1; omega) _).setCell (by show w.heap.size ≤ w.heap.size + 1; omega) _).setCell (by show w.heap.size ≤ w.heap.size + 1; omega) _⟩
    · have hp : phC k h = hfC h := by rw [phC, hk, if_pos rfl]
      rw [show phD k h = (hfC h, 0, []) by rw [phD, hp, if_neg hc]]
      have hd : (hfC h != 0) = true := by rw [bne_iff_ne]; exact hc
      clear hc hp
      generalize hfC h = cc at *
      go_enter Tryz.func175, Tryz.ntmps175
      go_wp2_with fail
      refine (isHelloKind_c _ _).mono ?_
      rintro e w1 ⟨rfl, hw⟩
      subst w1
      rw [hk]
      go_wp2_with fail
      refine (helloOf_c h p q _).mono ?_
      rintro e w1 ⟨rfl, hb1⟩
      replace BW := Below.step BW hb1
      replace R := R.stay hb1
      clear A hb1
      have hb2 := alloc_below w1 (.cells #[.slice p h.1.length q, .int .i64 h.2.1, .int .i64 h.2.2] 189)
      replace BW := Below.step BW hb2
      replace R := R.stay hb2
      clear hb2
      go_wp2_with fail
      refine (KF.out _).mono ?_
      rintro e w2 ⟨rfl, hb2⟩
      replace BW := Below.step BW hb2
      replace R := R.stay hb2
      clear hb2
      have t0 := (R.cell 0).trans (show _ = some _ from rfl)
      have t1 := (R.cell 1).trans (show _ = some _ from rfl)
      have t2 := (R.cell 2).trans (show _ = some _ from rfl)
      have ft := R.frozen
      clear R
      go_wp2_with fail
      exact bodyPost_ret (v := .agg #[.int .i64 cc, .int .i64 0, .slice none 0 0]) (by simp [results, Tryz.results175, go_sem, t0, t1, t2]) rfl ⟨[_, _, _], _, rfl, msgR_ownG (Own_nil _ _), ((BW.setCell (by show w.heap.size ≤ w.heap.size + 1; omega) _).setCell (by show w.heap.size ≤ w.heap.size + 1; omega) _).setCell (by show w.heap.size ≤ w.heap.size + 1; omega) _⟩
end Go.Proofs.YtiabacnmmojfjaaGreatDoor
/- SideFault, EndFault of the program and what they are made of (lengthWhere, fitStage), at every argument. What was there stays. -/
namespace Go.Proofs.YtiabacnmmojfjaaGreatDoor
open Go.ChangeShapes Go.WideShapes Go.ChangeAt Go.RowKit
theorem lengthWhere_c (t : Bool) (w : World) : Calls Tryz.prog 40 #[.bool t] w fun e w' => e = .returned (.int .i64 (if t then 32 else 0)) ∧ w' = w := by
  cases t
  · go_enter Tryz.func40, Tryz.ntmps40
    go_wp2
    go_ret
    exact ⟨rfl, rfl⟩
  · go_enter Tryz.func40, Tryz.ntmps40
    go_wp2
    go_ret
    exact ⟨rfl, rfl⟩
set_option maxRecDepth 4000 in
set_option maxHeartbeats 1000000 in
theorem implSi_k (s : SideD) (us : List Value) (w : World) (r : sideC.rep w s us) :
    Calls Tryz.prog 9 #[.agg us.toArray] w fun e w' => e = .returned (.int .i64 (sfC s)) ∧ Below w.heap.size w w' := by
  obtain ⟨p2, q2, p4, q4, rfl, -, -⟩ := side_rep r
  clear r
  have BW := alloc_below w (.cells #[.int .i64 s.1, .slice p2 s.2.1.length q2, .int .i64 s.2.2.1, .slice p4 s.2.2.2.length q4] 25)
  have A := Arr.new w [.int .i64 s.1, .slice p2 s.2.1.length q2, .int .i64 s.2.2.1, .slice p4 s.2.2.2.length q4] 25
  suffices H : ∀ Q : Ending → World → Prop, Hid (∀ c w', c = sfC s → Below w.heap.size w w' → Q (.returned (.int .i64 c)) w') → Calls Tryz.prog 9 #[.agg #[.int .i64 s.1, .slice p2 s.2.1.length q2, .int .i64 s.2.2.1, .slice p4 s.2.2.2.length q4]] w Q from H _ (show Hid _ from fun c w' hc hb => ⟨by rw [hc], hb⟩)
  intro Q HQ
  cases h1 : inB s.1 1 65519
  · have hc : Hid (3 = sfC s) := by show _ = _; simp [sfC, h1]
    go_enter Tryz.func9, Tryz.ntmps9
    go_wp2_with fail
    refine (isGroupSecret_c _ _).mono ?_
    rintro e w' ⟨rfl, rfl⟩
    rw [h1]
    go_wp2
    exact HQ.out _ _ hc.out BW
  · cases h2 : inB s.2.2.1 0 9
    · have hc : Hid (3 = sfC s) := by show _ = _; simp [sfC, h2]
      go_enter Tryz.func9, Tryz.ntmps9
      go_wp2_with fail
      refine (isGroupSecret_c _ _).mono ?_
      rintro e w' ⟨rfl, rfl⟩
      rw [h1]
      go_wp2_with fail
      refine (isPsk_c _ _).mono ?_
      rintro e w' ⟨rfl, rfl⟩
      rw [h2]
      go_wp2
      exact HQ.out _ _ hc.out BW
    · have HF : Hid (sfC s = if s.2.1.length = 8 ∧ s.2.2.2.length = keyW s.2.2.1 then 0 else 1) := by show _ = _; simp [sfC, h1, h2]
      have KW := fun w => isWhole_c p2 q2 s.2.1 w
      by_cases h8 : s.2.1.length = 8
      · rw [show decide (s.2.1.length = 8) = true by simp [h8]] at KW
        have KL := fun w => lengthWhere_c (s.2.2.1 != 0) w
        by_cases hk : s.2.2.2.length = keyW s.2.2.1
        · have hc : Hid (0 = sfC s) := by show _ = _; rw [HF.out, if_pos ⟨h8, hk⟩]
          have dk : ((s.2.2.2.length : Int) != (if (s.2.2.1 != 0) = true then 32 else 0)) = false := by
            rw [bne_eq_false_iff_eq, hk]
            unfold keyW
            by_cases h0 : s.2.2.1 = 0 <;> simp [h0]
          clear h8 hk HF
          generalize (if (s.2.2.1 != 0) = true then (32 : Int) else 0) = lw at *
          go_enter Tryz.func9, Tryz.ntmps9
          go_wp2_with fail
          refine (isGroupSecret_c _ _).mono ?_
          rintro e w' ⟨rfl, rfl⟩
          rw [h1]
          go_wp2_with fail
          refine (isPsk_c _ _).mono ?_
          rintro e w' ⟨rfl, rfl⟩
          rw [h2]
          go_wp2_with fail
          go_quiet (first | (go_at_call 39; exact Calls.quiet_of_same (KW _)) | (go_at_call 40; exact Calls.quiet_of_same (KL _)))
          go_wp2
          exact HQ.out _ _ hc.out ⟨BW.os, BW.tape, BW.output, BW.size, BW.block⟩
        · have hc : Hid (1 = sfC s) := by show _ = _; rw [HF.out, if_neg (fun h => hk h.2)]
          have dk : ((s.2.2.2.length : Int) != (if (s.2.2.1 != 0) = true then 32 else 0)) = true := by
            rw [bne_iff_ne]
            intro e
            apply hk
            unfold keyW
            by_cases h0 : s.2.2.1 = 0 <;> simp [h0] at e ⊢ <;> omega
          clear h8 hk HF
          generalize (if (s.2.2.1 != 0) = true then (32 : Int) else 0) = lw at *
          go_enter Tryz.func9, Tryz.ntmps9
          go_wp2_with fail
          refine (isGroupSecret_c _ _).mono ?_
          rintro e w' ⟨rfl, rfl⟩
          rw [h1]
          go_wp2_with fail
          refine (isPsk_c _ _).mono ?_
          rintro e w' ⟨rfl, rfl⟩
          rw [h2]
          go_wp2_with fail
          go_quiet (first | (go_at_call 39; exact Calls.quiet_of_same (KW _)) | (go_at_call 40; exact Calls.quiet_of_same (KL _)))
          go_wp2
          exact HQ.out _ _ hc.out ⟨BW.os, BW.tape, BW.output, BW.size, BW.block⟩
      · rw [show decide (s.2.1.length = 8) = false by simp [h8]] at KW
        have hc : Hid (1 = sfC s) := by show _ = _; rw [HF.out, if_neg (fun h => h8 h.1)]
        clear h8 HF
        go_enter Tryz.func9, Tryz.ntmps9
        go_wp2_with fail
        refine (isGroupSecret_c _ _).mono ?_
        rintro e w' ⟨rfl, rfl⟩
        rw [h1]
        go_wp2_with fail
        refine (isPsk_c _ _).mono ?_
        rintro e w' ⟨rfl, rfl⟩
        rw [h2]
        go_wp2_with fail
        go_quiet ((go_at_call 39; exact Calls.quiet_of_same (KW _)))
        go_wp2
        exact HQ.out _ _ hc.out ⟨BW.os, BW.tape, BW.output, BW.size, BW.block⟩
end Go.Proofs.YtiabacnmmojfjaaGreatDoor
