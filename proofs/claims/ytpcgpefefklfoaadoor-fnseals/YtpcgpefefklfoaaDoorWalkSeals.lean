/- The walk of FnSeals, where the two tables hold what the program's text lays. -/
import Derived.Test.YtpcgpefefklfoaaDoorDrawL
import Derived.Test.YtpcgpefefklfoaaDoorOpenI
import Derived.Test.YtpcgpefefklfoaaDoorStrI
import Derived.Test.YtpcgpefefklfoaaDoorJoint12
import Derived.Test.YtpcgpefefklfoaaDoorOdd
import Derived.Test.YtpcgpefefklfoaaDoorFields
namespace Go.Proofs.YtpcgpefefklfoaaDoor
open Go.ChangeShapes Go.WideShapes Go.ChangeAt Go.RowKit

/-- The two tables, and the library's handle. -/
structure TabH (w : World) : Prop where
  t : Tabs w
  h : Hnd w
theorem TabH.keep {w w' : World} (h : TabH w) (hb : Below w.heap.size w w') : TabH w' := ⟨h.t.keep hb, h.h.keep hb⟩
theorem sxC_of_tg {key nonce extra plain : List UInt8} (h : tgC key nonce extra plain = 0) : sxC key nonce plain = 0 := by
  obtain ⟨h1, h2⟩ := tgC_zero h
  obtain ⟨-, -, -, h3⟩ := sealC_zero h1
  simp [sxC, h3, h2]

set_option maxRecDepth 4000 in
set_option maxHeartbeats 8000000 in
theorem fnSeals_walk (a : Option Addr) (cap : Nat) (bs0 : List UInt8) (w : World) (r0 : Rd w a cap bs0) (hT : TabH w) :
    Calls Tryd.prog 3 #[.slice a bs0.length cap] w fun e w' => e = .returned (.bool true) ∧ Below w.heap.size w w' := by
  by_cases hl0 : 1048576 < bs0.length
  · go_enter Tryd.func3, Tryd.ntmps3
    go_wp2_with fail
    refine (lwBig_yes _ _ _ _ hl0).mono ?_
    rintro e w1 ⟨rfl, rfl⟩
    go_wp2
    go_ret
    exact ⟨rfl, Below.refl _ _⟩
  replace hl0 : bs0.length ≤ 1048576 := by omega
  have bf0 := bytes_f0
  have bf1 := bytes_f1
  go_enter Tryd.func3, Tryd.ntmps3
  go_wp2_with fail
  refine (lwBig_no _ _ _ _ hl0).mono ?_
  rintro e w1 ⟨rfl, hw1⟩
  rw [hw1]
  clear hw1 w1
  go_wp2_with fail
  refine (drawSeal_c _ _ bs0 _ r0).mono ?_
  rintro e w1 ⟨p1, p2, p3, p4, q1, q2, q3, q4, key, nonce, extra, plain, rfl, rk, rn, re, rp, hkl, hnl, hel, hpl, BW⟩
  replace r0 := r0.keep BW
  have HT : Hid (TabH w1) := hT.keep BW
  clear hT
  go_wp2_with fail
  refine (implSl_c p1 p2 p3 p4 q1 q2 q3 q4 key nonce extra plain _ rk rn re rp HT.out.t).mono ?_
  rintro e w2 ⟨u1, rfl, k1, hb2⟩
  obtain ⟨p5, q5, rfl, rr⟩ := k1.rd
  have HT2 : Hid (TabH w2) := HT.out.keep hb2
  replace r0 := r0.keep hb2
  replace rk := rk.keep hb2
  replace rn := rn.keep hb2
  replace re := re.keep hb2
  replace rp := rp.keep hb2
  replace BW := Below.step BW hb2
  clear hb2 k1 HT
  by_cases hok : tgC key nonce extra plain = 0
  · obtain ⟨hsc, hp220⟩ := tgC_zero hok
    obtain ⟨hk32, hn12, he60, hst⟩ := sealC_zero hsc
    have hosl := open_seal key nonce extra plain hp220
    have hsl : slL key nonce extra plain = sealN key nonce extra plain := by simp [slL, hok]
    obtain ⟨sd, hsd⟩ : ∃ sd, Hid (sd = sealN key nonce extra plain) := ⟨_, rfl⟩
    have HSL : Hid (sd.length = plain.length + 16) := by show _ = _; rw [hsd.out]; exact sealN_len _ _ _ _
    obtain ⟨hd, hhd⟩ : ∃ hd, Hid (hd = hideN key nonce plain) := ⟨_, rfl⟩
    have HDL : Hid (hd.length = plain.length) := by show _ = _; rw [hhd.out]; exact hideN_len _ _ _
    obtain ⟨tg, htg⟩ : ∃ tg, Hid (tg = tagN key nonce extra hd) := ⟨_, rfl⟩
    have HTL : Hid (tg.length = 16) := by show _ = _; rw [htg.out]; exact tagN_len _ _ _ _
    have HTK : Hid (sd.take plain.length = hd) := by show _ = _; rw [hsd.out, hhd.out]; exact sealN_take _ _ _ _
    have HDR : Hid (sd.drop plain.length = tg) := by show _ = _; rw [hsd.out, htg.out, hhd.out]; exact sealN_drop _ _ _ _
    have KO : Hid (∀ (w : World) (a : Option Addr) (c n : Nat), n = plain.length + 16 → Rd w p1 q1 key → Rd w p2 q2 nonce → Rd w p3 q3 extra → Rd w a c sd → TabH w → Calls Tryd.prog 13 #[.slice p1 key.length q1, .slice p2 nonce.length q2, .slice p3 extra.length q3, .slice a n c] w fun e w' => ∃ (a : Option Addr) (c : Nat), e = .returned (.agg #[.int .i64 0, .slice a plain.length c]) ∧ Own w' w.heap.size (.slice a plain.length c) plain ∧ Below w.heap.size w w') := fun w a c n hn h1 h2 h3 h4 ht => by
      have g := implOp_c p1 p2 p3 a q1 q2 q3 c key nonce extra sd w h1 h2 h3 h4 (by have := HSL.out; omega) ht.t ht.h
      have ho : opC key nonce extra sd = 0 := by rw [hsd.out]; simp [opC, hsc, hosl.1]
      rw [HSL.out, ho, show opL key nonce extra sd = plain by rw [opL, if_pos ho, hsd.out]; exact hosl.2] at g
      rw [hn]
      refine g.mono ?_
      rintro e w' ⟨u, rfl, k, hb⟩
      obtain ⟨a, c, rfl, -⟩ := k.rd
      exact ⟨a, c, rfl, k, hb⟩
    have KT : Hid (∀ (w : World) (a : Option Addr) (c : Nat), Rd w p1 q1 key → Rd w p2 q2 nonce → Rd w p3 q3 extra → Rd w a c hd → TabH w → Calls Tryd.prog 14 #[.slice p1 key.length q1, .slice p2 nonce.length q2, .slice p3 extra.length q3, .slice a plain.length c] w fun e w' => ∃ (a : Option Addr) (c : Nat), e = .returned (.agg #[.int .i64 0, .slice a 16 c]) ∧ OwnT 46 w' w.heap.size (.slice a 16 c) tg ∧ Below w.heap.size w w') := fun w a c h1 h2 h3 h4 ht => by
      have g := implTg_c p1 p2 p3 a q1 q2 q3 c key nonce extra hd w h1 h2 h3 h4 ht.t
      have ho : tgC key nonce extra hd = 0 := by unfold tgC; rw [if_pos hsc, if_pos (by rw [HDL.out]; exact hp220)]
      rw [HDL.out, ho, show tgL key nonce extra hd = tg by rw [tgL, if_pos ho, htg.out]] at g
      refine g.mono ?_
      rintro e w' ⟨u, rfl, k, hb⟩
      obtain ⟨a, c, rfl, -⟩ := k.rd
      rw [HTL.out] at k ⊢
      exact ⟨a, c, rfl, k, hb⟩
    have KX : Hid (∀ w, Rd w p1 q1 key → Rd w p2 q2 nonce → Rd w p4 q4 plain → Calls Tryd.prog 15 #[.slice p1 key.length q1, .slice p2 nonce.length q2, .slice p4 plain.length q4] w fun e w' => ∃ (a : Option Addr) (c : Nat), e = .returned (.agg #[.int .i64 0, .slice a plain.length c]) ∧ Own w' w.heap.size (.slice a plain.length c) hd ∧ Below w.heap.size w w') := fun w h1 h2 h3 => by
      have g := implSX_c p1 p2 p4 q1 q2 q4 key nonce plain w h1 h2 h3
      have ho := sxC_of_tg hok
      rw [ho, show sxL key nonce plain = hd by rw [sxL, if_pos ho, hhd.out]] at g
      refine g.mono ?_
      rintro e w' ⟨u, rfl, k, hb⟩
      obtain ⟨a, c, rfl, -⟩ := k.rd
      rw [HDL.out] at k ⊢
      exact ⟨a, c, rfl, k, hb⟩
    rw [hok]
    rw [hsl, ← hsd.out] at rr ⊢
    rw [HSL.out]
    clear hok hsc hk32 hn12 hst hosl hsl he60
    have A1 := Arr.new w2 [.int .i64 0, .slice p5 (plain.length + 16) q5] 27
    have hbA := alloc_below w2 (.cells #[.int .i64 0, .slice p5 (plain.length + 16) q5] 27)
    replace r0 := r0.keep hbA
    replace rk := rk.keep hbA
    replace rn := rn.keep hbA
    replace re := re.keep hbA
    replace rp := rp.keep hbA
    replace rr := rr.keep hbA
    replace BW := Below.step BW hbA
    have HT3 : Hid (TabH _) := HT2.out.keep hbA
    clear hbA HT2
    go_wp2_with fail
    refine (KO.out _ p5 q5 _ rfl rk rn re rr HT3.out).mono ?_
    rintro e w3 ⟨p6, q6, rfl, k3, hb3⟩
    have A2 := Arr.new w3 [.int .i64 0, .slice p6 plain.length q6] 27
    have hb3' := Below.mk hb3 (.cells #[.int .i64 0, .slice p6 plain.length q6] 27)
    have ro := (Rd.own k3).keep (alloc_below _ (.cells #[.int .i64 0, .slice p6 plain.length q6] 27))
    replace r0 := r0.keep hb3'
    replace rk := rk.keep hb3'
    replace rn := rn.keep hb3'
    replace re := re.keep hb3'
    replace rp := rp.keep hb3'
    replace rr := rr.keep hb3'
    replace A1 := A1.stay hb3'
    replace BW := Below.step BW hb3'
    have HT4 : Hid (TabH _) := HT3.out.keep hb3'
    have hq5 : plain.length + 16 ≤ q5 := by have := rr.1; rw [HSL.out] at this; exact this
    have hq5m : q5 ≤ 2 ^ 63 - 1 := rr.2.1
    have c1 := A1.cell 1
    simp at c1
    have hnb : (((plain.length : Int) + 16) != ((plain.length : Int) + 16)) = false := by simp
    have hpn : plain.length ≤ q5 := by omega
    have hpI : (plain.length : Int) ≤ (plain.length : Int) + 16 := by omega
    clear hb3 hb3' k3 HT3 KO
    go_wp2_with fail
    have rt := rr.take plain.length
    rw [HTK.out] at rt
    refine (KT.out _ p5 q5 rk rn re rt HT4.out).mono ?_
    rintro e w4 ⟨p7, q7, rfl, k4, hb4⟩
    have A3 := Arr.new w4 [.int .i64 0, .slice p7 16 q7] 27
    have hb4' := Below.mk hb4 (.cells #[.int .i64 0, .slice p7 16 q7] 27)
    have rg := k4.rds.keep (alloc_below _ (.cells #[.int .i64 0, .slice p7 16 q7] 27))
    replace r0 := r0.keep hb4'
    replace rk := rk.keep hb4'
    replace rn := rn.keep hb4'
    replace rp := rp.keep hb4'
    replace rr := rr.keep hb4'
    replace ro := ro.keep hb4'
    replace A1 := A1.stay hb4'
    replace A2 := A2.stay hb4'
    replace BW := Below.step BW hb4'
    have HT5 : Hid (TabH _) := HT4.out.keep hb4'
    clear hb4 hb4' k4 HT4 KT rt c1 re
    go_wp2_with fail
    refine (KX.out _ rk rn rp).mono ?_
    rintro e w5 ⟨p8, q8, rfl, k5, hb5⟩
    have A4 := Arr.new w5 [.int .i64 0, .slice p8 plain.length q8] 27
    have hb5' := Below.mk hb5 (.cells #[.int .i64 0, .slice p8 plain.length q8] 27)
    have rx := (Rd.own k5).keep (alloc_below _ (.cells #[.int .i64 0, .slice p8 plain.length q8] 27))
    replace r0 := r0.keep hb5'
    replace rp := rp.keep hb5'
    replace rr := rr.keep hb5'
    replace ro := ro.keep hb5'
    replace rg := rg.keep hb5'
    replace A1 := A1.stay hb5'
    replace A2 := A2.stay hb5'
    replace A3 := A3.stay hb5'
    replace BW := Below.step BW hb5'
    have HT6 : Hid (TabH _) := HT5.out.keep hb5'
    clear hb5 hb5' k5 HT5 KX rk rn
    go_wp2_with fail
    refine (drawOpen_c _ _ bs0 _ r0).mono ?_
    rintro e w6 ⟨j1, j2, j3, j4, i1, i2, i3, i4, k2, n2, e2, sealed, rfl, rk2, rn2, re2, rs2, hkl2, hnl2, hel2, hsl2, hb6⟩
    replace rp := rp.keep hb6
    replace rr := rr.keep hb6
    replace ro := ro.keep hb6
    replace rg := rg.keep hb6
    replace rx := rx.keep hb6
    replace A1 := A1.stay hb6
    replace A2 := A2.stay hb6
    replace A3 := A3.stay hb6
    replace A4 := A4.stay hb6
    replace BW := Below.step BW hb6
    have HT7 : Hid (TabH _) := HT6.out.keep hb6
    clear hb6 HT6 r0
    go_wp2_with fail
    refine (implOp_c j1 j2 j3 j4 i1 i2 i3 i4 k2 n2 e2 sealed _ rk2 rn2 re2 rs2 (by omega) HT7.out.t HT7.out.h).mono ?_
    rintro e w7 ⟨u7, rfl, k7, hb7⟩
    obtain ⟨p9, q9, rfl, -⟩ := k7.rd
    obtain ⟨oc, hoc⟩ : ∃ c, Hid (c = opC k2 n2 e2 sealed) := ⟨_, rfl⟩
    obtain ⟨ol, hol⟩ : ∃ c, Hid (c = opL k2 n2 e2 sealed) := ⟨_, rfl⟩
    rw [← hol.out] at k7
    rw [← hoc.out, ← hol.out]
    have A5 := Arr.new w7 [.int .i64 oc, .slice p9 ol.length q9] 27
    have hb7' := Below.mk hb7 (.cells #[.int .i64 oc, .slice p9 ol.length q9] 27)
    have rq := (Rd.own k7).keep (alloc_below _ (.cells #[.int .i64 oc, .slice p9 ol.length q9] 27))
    replace rp := rp.keep hb7'
    replace rr := rr.keep hb7'
    replace ro := ro.keep hb7'
    replace rg := rg.keep hb7'
    replace rx := rx.keep hb7'
    replace rk2 := rk2.keep hb7'
    replace rn2 := rn2.keep hb7'
    replace re2 := re2.keep hb7'
    replace rs2 := rs2.keep hb7'
    replace A1 := A1.stay hb7'
    replace A2 := A2.stay hb7'
    replace A3 := A3.stay hb7'
    replace A4 := A4.stay hb7'
    replace BW := Below.step BW hb7'
    have HT8 : Hid (TabH _) := HT7.out.keep hb7'
    clear hb7 hb7' k7 HT7
    go_wp2_with fail
    --@tail
    generalize w7.alloc (Obj.cells #[Value.int IntKind.i64 oc, Value.slice p9 ol.length q9] 27) = W at *
    have c1 := A2.cell 0
    have c2 := A2.cell 1
    have c3 := A3.cell 0
    have c4 := A3.cell 1
    have c5 := A1.cell 1
    have c6 := A4.cell 1
    have c7 := A5.cell 0
    have c8 := A5.cell 1
    simp at c1 c2 c3 c4 c5 c6 c7 c8
    obtain ⟨b5, o5, e5, -⟩ := rr.2.2.2 (by rw [HSL.out]; omega)
    subst e5
    have rw1 := rr.take plain.length
    rw [HTK.out] at rw1
    have rw2 := rr.cut plain.length 16 (q5 - plain.length) (by rw [HSL.out]; exact Nat.le_refl _) (by omega) (by have := rr.2.1; omega)
    rw [HDR.out, List.take_of_length_le (by rw [HTL.out]; exact Nat.le_refl _)] at rw2
    have hpq : ¬ q5 = plain.length := by omega
    have g1 := HW.at c1
    have g2 := HW.at c2
    have g3 := HW.at c3
    have g4 := HW.at c4
    have g5 := HW.at c5
    have g6 := HW.at c6
    have g7 := HW.at c7
    have g8 := HW.at c8
    have hne := HW.some W
    clear c1 c2 c3 c4 c5 c6 c7 c8 A1 A2 A3 A4 A5 rr
    by_cases hq0 : opC k2 n2 e2 sealed = 0
    · obtain ⟨hz1, hz2⟩ := opC_zero hq0
      have ho0 : oc = 0 := by rw [hoc.out]; exact hq0
      have hle : ol = openL k2 n2 e2 sealed := by rw [hol.out, opL, if_pos hq0]
      have hl2 : ol.length ≤ 220 := by rw [hle, openL, if_pos hz2, hideN_len, List.length_take]; have := (openC_zero hz2).2.1; omega
      have htc : tgC k2 n2 e2 ol = 0 := by unfold tgC; rw [if_pos hz1, if_pos hl2]
      have HSI : Hid (∀ w, Rd w j1 i1 k2 → Rd w j2 i2 n2 → Rd w j3 i3 e2 → Rd w p9 q9 ol → TabH w → Calls Tryd.prog 11 #[.slice j1 k2.length i1, .slice j2 n2.length i2, .slice j3 e2.length i3, .slice p9 ol.length q9] w fun e w' => ∃ u, e = .returned (.agg #[.int .i64 0, u]) ∧ Own w' w.heap.size u sealed ∧ Below w.heap.size w w') := fun w h1 h2 h3 h4 ht => by
        have g := implSl_c j1 j2 j3 p9 i1 i2 i3 q9 k2 n2 e2 ol w h1 h2 h3 h4 ht.t
        rw [htc, show slL k2 n2 e2 ol = sealed by rw [slL, if_pos htc, hle]; exact seal_open hz2] at g
        exact g
      have HSO : Hid (∀ w, Rd w j1 i1 k2 → Rd w j2 i2 n2 → Rd w j3 i3 e2 → Rd w j4 i4 sealed → Calls Tryd.prog 18 #[.slice j1 k2.length i1, .slice j2 n2.length i2, .slice j3 e2.length i3, .slice j4 sealed.length i4] w fun e w' => ∃ u, e = .returned (.agg #[.int .i64 0, u]) ∧ Own w' w.heap.size u ol ∧ Below w.heap.size w w') := fun w h1 h2 h3 h4 => by
        have g := specOp_c j1 j2 j3 j4 i1 i2 i3 i4 k2 n2 e2 sealed w h1 h2 h3 h4 (by omega)
        rw [← hoc.out, ← hol.out, ho0] at g
        exact g
      have htb := HT8.out
      rw [ho0] at g7 ⊢
      clear ho0 hle hl2 htc hz1 hz2 hq0 hoc hol HT8
      refine wp_region_odd_seg 7 53 rfl (by kernel_rfl) (by kernel_rfl) (by kernel_rfl) (by kernel_rfl) ?_
      simp only [List.take_succ_cons, List.take_zero]
      repeat (go_big_quiet_step (fail))
      refine wpQuiet_nil ?_
      refine wpG_call (k := 7) rfl (by kernel_rfl) (by kernel_rfl) (by go_simp) 17 _ #[.slice p6 plain.length q6, .slice p4 plain.length q4] (fun w => by go_simp) rfl ?_
      rintro _ ⟨sg0, rfl⟩
      refine (lwSame_yes p6 p4 q6 q4 plain.length plain.length plain _ rfl rfl (ro.keep sg0.h) (rp.keep sg0.h)).mono ?_
      rintro e wg0 ⟨rfl, hwg⟩
      subst hwg
      refine ⟨_, rfl, ⟨⟨sg0.w, Below.refl _ _⟩, rfl⟩, ?_⟩
      have hbg : Below _ _ sg0.w := sg0.h
      replace g3 := HW.down g3 hbg
      replace g4 := HW.down g4 hbg
      replace g5 := HW.down g5 hbg
      replace g6 := HW.down g6 hbg
      replace g7 := HW.down g7 hbg
      replace g8 := HW.down g8 hbg
      replace rg := rg.keep hbg
      replace rw2 := rw2.keep hbg
      replace rx := rx.keep hbg
      replace rw1 := rw1.keep hbg
      replace rk2 := rk2.keep hbg
      replace rn2 := rn2.keep hbg
      replace re2 := re2.keep hbg
      replace rs2 := rs2.keep hbg
      replace rq := rq.keep hbg
      replace htb := htb.keep hbg
      replace BW := Below.step BW hbg
      replace hne := HW.some sg0.w
      clear hbg g1 g2 ro rp
      generalize sg0.w = wg0 at *
      clear sg0
      refine wpG_next 8 13 39 (by decide) (by kernel_rfl) (by kernel_rfl) (by kernel_rfl) ?_
      simp only [List.drop_succ_cons, List.drop_zero, List.take_succ_cons, List.take_zero]
      go_simp
      repeat (go_big_quiet_step (fail))
      refine wpQuiet_nil ?_
      refine wpG_call (k := 21) rfl (by kernel_rfl) (by kernel_rfl) (by go_simp) 17 _ #[.slice p7 16 q7, .slice (some ⟨b5, o5 + plain.length, none⟩) 16 (q5 - plain.length)] (fun w => by go_simp) rfl ?_
      rintro _ ⟨sg1, rfl⟩
      refine (lwSame_yes p7 _ q7 _ 16 16 tg _ HTL.out HTL.out (rg.keep sg1.h) (rw2.keep sg1.h)).mono ?_
      rintro e wg1 ⟨rfl, hwg⟩
      subst hwg
      refine ⟨_, rfl, ⟨⟨sg1.w, Below.refl _ _⟩, rfl⟩, ?_⟩
      have hbg : Below _ _ sg1.w := sg1.h
      replace g5 := HW.down g5 hbg
      replace g6 := HW.down g6 hbg
      replace g7 := HW.down g7 hbg
      replace g8 := HW.down g8 hbg
      replace rx := rx.keep hbg
      replace rw1 := rw1.keep hbg
      replace rk2 := rk2.keep hbg
      replace rn2 := rn2.keep hbg
      replace re2 := re2.keep hbg
      replace rs2 := rs2.keep hbg
      replace rq := rq.keep hbg
      replace htb := htb.keep hbg
      replace BW := Below.step BW hbg
      replace hne := HW.some sg1.w
      clear hbg g3 g4 rg rw2
      generalize sg1.w = wg1 at *
      clear sg1
      refine wpG_next 22 8 30 (by decide) (by kernel_rfl) (by kernel_rfl) (by kernel_rfl) ?_
      simp only [List.drop_succ_cons, List.drop_zero, List.take_succ_cons, List.take_zero]
      go_simp
      repeat (go_big_quiet_step (fail))
      refine wpQuiet_nil ?_
      refine wpG_call (k := 30) rfl (by kernel_rfl) (by kernel_rfl) (by go_simp) 17 _ #[.slice p8 plain.length q8, .slice (some ⟨b5, o5, none⟩) plain.length q5] (fun w => by go_simp) rfl ?_
      rintro _ ⟨sg2, rfl⟩
      refine (lwSame_yes p8 _ q8 _ plain.length plain.length hd _ HDL.out HDL.out (rx.keep sg2.h) (rw1.keep sg2.h)).mono ?_
      rintro e wg2 ⟨rfl, hwg⟩
      subst hwg
      refine ⟨_, rfl, ⟨⟨sg2.w, Below.refl _ _⟩, rfl⟩, ?_⟩
      have hbg : Below _ _ sg2.w := sg2.h
      replace g7 := HW.down g7 hbg
      replace g8 := HW.down g8 hbg
      replace rk2 := rk2.keep hbg
      replace rn2 := rn2.keep hbg
      replace re2 := re2.keep hbg
      replace rs2 := rs2.keep hbg
      replace rq := rq.keep hbg
      replace htb := htb.keep hbg
      replace BW := Below.step BW hbg
      replace hne := HW.some sg2.w
      clear hbg g5 g6 rx rw1
      generalize sg2.w = wg2 at *
      clear sg2
      refine wpG_next 31 8 21 (by decide) (by kernel_rfl) (by kernel_rfl) (by kernel_rfl) ?_
      simp only [List.drop_succ_cons, List.drop_zero, List.take_succ_cons, List.take_zero]
      go_simp
      repeat (go_big_quiet_step (fail))
      refine wpQuiet_nil ?_
      refine wpG_call (k := 39) rfl (by kernel_rfl) (by kernel_rfl) (by go_simp) 18 _ #[.slice j1 k2.length i1, .slice j2 n2.length i2, .slice j3 e2.length i3, .slice j4 sealed.length i4] (fun w => by go_simp) rfl ?_
      rintro _ ⟨sg3, rfl⟩
      refine (HSO.out _ (rk2.keep sg3.h) (rn2.keep sg3.h) (re2.keep sg3.h) (rs2.keep sg3.h)).mono ?_
      rintro e wg3 ⟨ug, rfl, kg, hbx⟩
      obtain ⟨p10, q10, rfl, r10⟩ := kg.rd
      have hbg := Below.step sg3.h hbx
      refine ⟨_, rfl, ⟨⟨wg3, hbx⟩, rfl⟩, ?_⟩
      replace g7 := HW.down g7 hbg
      replace g8 := HW.down g8 hbg
      replace rk2 := rk2.keep hbg
      replace rn2 := rn2.keep hbg
      replace re2 := re2.keep hbg
      replace rs2 := rs2.keep hbg
      replace rq := rq.keep hbg
      replace htb := htb.keep hbg
      replace BW := Below.step BW hbg
      replace hne := HW.some wg3
      clear hbg kg r10 hbx
      refine wpG_next 40 13 7 (by decide) (by kernel_rfl) (by kernel_rfl) (by kernel_rfl) ?_
      simp only [List.drop_succ_cons, List.drop_zero, List.take_succ_cons, List.take_zero]
      go_simp
      repeat (go_big_quiet_step (fail))
      refine wpQuiet_nil ?_
      rw [upX_nil]
      refine wpG_early (x := 55) rfl (by kernel_rfl) (by kernel_rfl) (by kernel_rfl) rfl ?_
      go_simp
      repeat (go_big_quiet_step (fail))
      refine wpQuiet_nil ?_
      refine wpG_callX (k := 53) rfl (by kernel_rfl) (by kernel_rfl) (by go_simp) 11 _ #[.slice j1 k2.length i1, .slice j2 n2.length i2, .slice j3 e2.length i3, .slice p9 ol.length q9] (fun w => by go_simp) rfl ?_
      rintro _ ⟨sg4, rfl⟩
      refine (HSI.out _ (rk2.keep sg4.h) (rn2.keep sg4.h) (re2.keep sg4.h) (rq.keep sg4.h) (htb.keep sg4.h)).mono ?_
      rintro e wg4 ⟨ug, rfl, kg, hbx⟩
      obtain ⟨p11, q11, rfl, r11⟩ := kg.rd
      have hbg := Below.step sg4.h hbx
      refine ⟨_, rfl, ⟨⟨wg4, hbx⟩, rfl⟩, ?_⟩
      replace rs2 := rs2.keep hbg
      replace BW := Below.step BW hbg
      replace hne := HW.some wg4
      clear hbg kg hbx rk2 rn2 re2 rq g7 g8 htb
      refine wpG_oneX (k := 54) rfl (by kernel_rfl) (by kernel_rfl) (by kernel_rfl) rfl ?_
      go_simp
      repeat (go_big_quiet_step (fail))
      refine wpQuiet_nil ?_
      rw [upX_join]
      refine wpG_call (k := 56) rfl (by kernel_rfl) (by kernel_rfl) (by go_simp) 17 _ #[.slice p11 sealed.length q11, .slice j4 sealed.length i4] (fun w => by go_simp) rfl ?_
      rintro _ ⟨sg5, rfl⟩
      refine (lwSame_yes p11 j4 q11 i4 sealed.length sealed.length sealed _ rfl rfl (r11.keep sg5.h) (rs2.keep sg5.h)).mono ?_
      rintro e wg5 ⟨rfl, hwg⟩
      subst hwg
      refine ⟨_, rfl, ⟨⟨sg5.w, Below.refl _ _⟩, rfl⟩, ?_⟩
      have hbg : Below _ _ sg5.w := sg5.h
      replace BW := Below.step BW hbg
      replace hne := HW.some sg5.w
      clear hbg r11 rs2
      generalize sg5.w = wg5 at *
      clear sg5
      refine wpG_next 57 3 0 (by decide) (by kernel_rfl) (by kernel_rfl) (by kernel_rfl) ?_
      simp only [List.drop_succ_cons, List.drop_zero, List.take_succ_cons, List.take_zero]
      go_simp
      repeat (go_big_quiet_step (fail))
      refine wpQuiet_nil ?_
      refine wpG_end rfl ?_
      rintro _ ⟨sgz, rfl⟩
      go_wp2
      go_ret
      exact ⟨rfl, Below.step BW sgz.h⟩
    · have ho0 : (oc != 0) = true := by rw [bne_iff_ne, hoc.out]; exact hq0
      have HSO : Hid (∀ w, Rd w j1 i1 k2 → Rd w j2 i2 n2 → Rd w j3 i3 e2 → Rd w j4 i4 sealed → Calls Tryd.prog 18 #[.slice j1 k2.length i1, .slice j2 n2.length i2, .slice j3 e2.length i3, .slice j4 sealed.length i4] w fun e w' => ∃ u, e = .returned (.agg #[.int .i64 oc, u]) ∧ Own w' w.heap.size u ol ∧ Below w.heap.size w w') := fun w h1 h2 h3 h4 => by
        have g := specOp_c j1 j2 j3 j4 i1 i2 i3 i4 k2 n2 e2 sealed w h1 h2 h3 h4 (by omega)
        rw [← hoc.out, ← hol.out] at g
        exact g
      clear hq0 hoc hol HT8 rq
      refine wp_region_odd_seg 7 53 rfl (by kernel_rfl) (by kernel_rfl) (by kernel_rfl) (by kernel_rfl) ?_
      simp only [List.take_succ_cons, List.take_zero]
      repeat (go_big_quiet_step (fail))
      refine wpQuiet_nil ?_
      refine wpG_call (k := 7) rfl (by kernel_rfl) (by kernel_rfl) (by go_simp) 17 _ #[.slice p6 plain.length q6, .slice p4 plain.length q4] (fun w => by go_simp) rfl ?_
      rintro _ ⟨sg0, rfl⟩
      refine (lwSame_yes p6 p4 q6 q4 plain.length plain.length plain _ rfl rfl (ro.keep sg0.h) (rp.keep sg0.h)).mono ?_
      rintro e wg0 ⟨rfl, hwg⟩
      subst hwg
      refine ⟨_, rfl, ⟨⟨sg0.w, Below.refl _ _⟩, rfl⟩, ?_⟩
      have hbg : Below _ _ sg0.w := sg0.h
      replace g3 := HW.down g3 hbg
      replace g4 := HW.down g4 hbg
      replace g5 := HW.down g5 hbg
      replace g6 := HW.down g6 hbg
      replace g7 := HW.down g7 hbg
      replace g8 := HW.down g8 hbg
      replace rg := rg.keep hbg
      replace rw2 := rw2.keep hbg
      replace rx := rx.keep hbg
      replace rw1 := rw1.keep hbg
      replace rk2 := rk2.keep hbg
      replace rn2 := rn2.keep hbg
      replace re2 := re2.keep hbg
      replace rs2 := rs2.keep hbg
      replace BW := Below.step BW hbg
      replace hne := HW.some sg0.w
      clear hbg g1 g2 ro rp
      generalize sg0.w = wg0 at *
      clear sg0
      refine wpG_next 8 13 39 (by decide) (by kernel_rfl) (by kernel_rfl) (by kernel_rfl) ?_
      simp only [List.drop_succ_cons, List.drop_zero, List.take_succ_cons, List.take_zero]
      go_simp
      repeat (go_big_quiet_step (fail))
      refine wpQuiet_nil ?_
      refine wpG_call (k := 21) rfl (by kernel_rfl) (by kernel_rfl) (by go_simp) 17 _ #[.slice p7 16 q7, .slice (some ⟨b5, o5 + plain.length, none⟩) 16 (q5 - plain.length)] (fun w => by go_simp) rfl ?_
      rintro _ ⟨sg1, rfl⟩
      refine (lwSame_yes p7 _ q7 _ 16 16 tg _ HTL.out HTL.out (rg.keep sg1.h) (rw2.keep sg1.h)).mono ?_
      rintro e wg1 ⟨rfl, hwg⟩
      subst hwg
      refine ⟨_, rfl, ⟨⟨sg1.w, Below.refl _ _⟩, rfl⟩, ?_⟩
      have hbg : Below _ _ sg1.w := sg1.h
      replace g5 := HW.down g5 hbg
      replace g6 := HW.down g6 hbg
      replace g7 := HW.down g7 hbg
      replace g8 := HW.down g8 hbg
      replace rx := rx.keep hbg
      replace rw1 := rw1.keep hbg
      replace rk2 := rk2.keep hbg
      replace rn2 := rn2.keep hbg
      replace re2 := re2.keep hbg
      replace rs2 := rs2.keep hbg
      replace BW := Below.step BW hbg
      replace hne := HW.some sg1.w
      clear hbg g3 g4 rg rw2
      generalize sg1.w = wg1 at *
      clear sg1
      refine wpG_next 22 8 30 (by decide) (by kernel_rfl) (by kernel_rfl) (by kernel_rfl) ?_
      simp only [List.drop_succ_cons, List.drop_zero, List.take_succ_cons, List.take_zero]
      go_simp
      repeat (go_big_quiet_step (fail))
      refine wpQuiet_nil ?_
      refine wpG_call (k := 30) rfl (by kernel_rfl) (by kernel_rfl) (by go_simp) 17 _ #[.slice p8 plain.length q8, .slice (some ⟨b5, o5, none⟩) plain.length q5] (fun w => by go_simp) rfl ?_
      rintro _ ⟨sg2, rfl⟩
      refine (lwSame_yes p8 _ q8 _ plain.length plain.length hd _ HDL.out HDL.out (rx.keep sg2.h) (rw1.keep sg2.h)).mono ?_
      rintro e wg2 ⟨rfl, hwg⟩
      subst hwg
      refine ⟨_, rfl, ⟨⟨sg2.w, Below.refl _ _⟩, rfl⟩, ?_⟩
      have hbg : Below _ _ sg2.w := sg2.h
      replace g7 := HW.down g7 hbg
      replace g8 := HW.down g8 hbg
      replace rk2 := rk2.keep hbg
      replace rn2 := rn2.keep hbg
      replace re2 := re2.keep hbg
      replace rs2 := rs2.keep hbg
      replace BW := Below.step BW hbg
      replace hne := HW.some sg2.w
      clear hbg g5 g6 rx rw1
      generalize sg2.w = wg2 at *
      clear sg2
      refine wpG_next 31 8 21 (by decide) (by kernel_rfl) (by kernel_rfl) (by kernel_rfl) ?_
      simp only [List.drop_succ_cons, List.drop_zero, List.take_succ_cons, List.take_zero]
      go_simp
      repeat (go_big_quiet_step (fail))
      refine wpQuiet_nil ?_
      refine wpG_call (k := 39) rfl (by kernel_rfl) (by kernel_rfl) (by go_simp) 18 _ #[.slice j1 k2.length i1, .slice j2 n2.length i2, .slice j3 e2.length i3, .slice j4 sealed.length i4] (fun w => by go_simp) rfl ?_
      rintro _ ⟨sg3, rfl⟩
      refine (HSO.out _ (rk2.keep sg3.h) (rn2.keep sg3.h) (re2.keep sg3.h) (rs2.keep sg3.h)).mono ?_
      rintro e wg3 ⟨ug, rfl, kg, hbx⟩
      obtain ⟨p10, q10, rfl, r10⟩ := kg.rd
      have hbg := Below.step sg3.h hbx
      refine ⟨_, rfl, ⟨⟨wg3, hbx⟩, rfl⟩, ?_⟩
      replace g7 := HW.down g7 hbg
      replace g8 := HW.down g8 hbg
      replace rk2 := rk2.keep hbg
      replace rn2 := rn2.keep hbg
      replace re2 := re2.keep hbg
      replace rs2 := rs2.keep hbg
      replace BW := Below.step BW hbg
      replace hne := HW.some wg3
      clear hbg kg r10 hbx
      refine wpG_next 40 13 7 (by decide) (by kernel_rfl) (by kernel_rfl) (by kernel_rfl) ?_
      simp only [List.drop_succ_cons, List.drop_zero, List.take_succ_cons, List.take_zero]
      go_simp
      repeat (go_big_quiet_step (fail))
      refine wpQuiet_nil ?_
      rw [upX_nil]
      refine wpG_early (x := 55) rfl (by kernel_rfl) (by kernel_rfl) (by kernel_rfl) rfl ?_
      go_simp
      repeat (go_big_quiet_step (fail))
      refine wpQuiet_nil ?_
      refine wpG_skipX (k := 53) rfl (by kernel_rfl) (by kernel_rfl) (by go_simp) ?_
      refine wpG_oneX (k := 54) rfl (by kernel_rfl) (by kernel_rfl) (by kernel_rfl) rfl ?_
      go_simp
      repeat (go_big_quiet_step (fail))
      refine wpQuiet_nil ?_
      rw [upX_join]
      refine wpG_skip (k := 56) rfl (by kernel_rfl) (by kernel_rfl) (by go_simp) ?_
      refine wpG_next 57 3 0 (by decide) (by kernel_rfl) (by kernel_rfl) (by kernel_rfl) ?_
      simp only [List.drop_succ_cons, List.drop_zero, List.take_succ_cons, List.take_zero]
      go_simp
      repeat (go_big_quiet_step (fail))
      refine wpQuiet_nil ?_
      refine wpG_end rfl ?_
      rintro _ ⟨sgz, rfl⟩
      go_wp2
      go_ret
      exact ⟨rfl, Below.step BW sgz.h⟩
    --@tailend
  · have hc1 : Hid (tgC key nonce extra plain ≠ 0) := hok
    have HB : Hid (∀ w', Rd w' p1 q1 key → Rd w' p2 q2 nonce → Rd w' p3 q3 extra → Rd w' p4 q4 plain → Calls Tryd.prog 12 #[.slice p1 key.length q1, .slice p2 nonce.length q2, .slice p3 extra.length q3, .slice p4 plain.length q4] w' fun e w'' => e = .returned (.agg #[.int .i64 (tgC key nonce extra plain), .slice none 0 0]) ∧ Below w'.heap.size w' w'') :=
      fun w' h1 h2 h3 h4 => (specSl_s p1 p2 p3 p4 q1 q2 q3 q4 key nonce extra plain w' h1 h2 h3 h4).mono fun _ _ ⟨u, h1, h2, h3, h4⟩ => ⟨by rw [h1, h4 hc1.out], h3⟩
    generalize tgC key nonce extra plain = cc at *
    have cz1 : (cc != 0) = true := by rw [bne_iff_ne]; exact hc1.out
    generalize (slL key nonce extra plain).length = ln at *
    have L1 := alloc_below w2 (Obj.cells #[Value.int IntKind.i64 cc, Value.slice p5 ln q5] 27)
    clear rr hok r0 hl0
    go_wp2
    have d0 : (w2.alloc (Obj.cells #[Value.int IntKind.i64 cc, Value.slice p5 ln q5] 27)).cell? ⟨w2.heap.size, 0, none⟩ = some (.int .i64 cc) := World.cell?_alloc_new _ _ _ _
    replace BW := Below.step BW L1
    replace rk := rk.keep L1
    replace rn := rn.keep L1
    replace re := re.keep L1
    replace rp := rp.keep L1
    clear L1
    generalize w2.alloc (Obj.cells #[Value.int IntKind.i64 cc, Value.slice p5 ln q5] 27) = W at *
    have g0 := HW.at d0
    have hne := HW.some W
    refine wp_region_class (by kernel_rfl) (by kernel_rfl) ?_
    clear d0
    repeat (go_big_quiet_step ((go_at_call 12; exact Calls.stay (HB.out _ (rk.keep (HW.h _)) (rn.keep (HW.h _)) (re.keep (HW.h _)) (rp.keep (HW.h _))))))
    refine wpQuiet_nil ?_
    intro w5 hw5
    have hs5 := HW.out hw5
    go_wp2
    go_ret
    exact ⟨by simp, Below.step BW hs5⟩
end Go.Proofs.YtpcgpefefklfoaaDoor

