/- The draw DrawReadAuth: what comes out can be read (written by tools/draw_be.py). -/
import Derived.Test.YtflhoefocjmihaaGreatDoorDrawAu
import Derived.Test.YtflhoefocjmihaaGreatDoorJoint18
import Derived.Test.YtflhoefocjmihaaGreatDoorMacS
import Derived.Test.YtflhoefocjmihaaGreatDoorJoint7
namespace Go.Proofs.YtflhoefocjmihaaGreatDoor
open Go.ChangeShapes Go.WideShapes Go.ChangeAt Go.RowKit

theorem below_grownB {a c : World} (h : Below a.heap.size a c) (r : Option Nat) : a.grownBy c r := ⟨h.os, h.tape, h.output, h.size, fun i hi _ => h.block i hi⟩
set_option maxRecDepth 4000 in
set_option maxHeartbeats 2000000 in
theorem drawRa_c (p : Option Addr) (q : Nat) (cs : List UInt8) (w : World) (hr : Rd w p q cs) :
    Calls Tryz.prog 24 #[.slice p cs.length q] w fun e w' => ∃ (pd : Option Addr) (qd : Nat) (d : List UInt8), e = .returned (.slice pd d.length qd) ∧ Rd w' pd qd d ∧ Below w.heap.size w w' := by
  obtain ⟨i0, hi, hz0, hz1, hz2⟩ := info_parts info8
  go_enter Tryz.func24, Tryz.ntmps24
  go_wp2_with fail
  refine (l1Source_c p q cs w hr).mono ?_
  rintro e w1 ⟨rfl, hs, hb, hlt⟩
  have z1 : Hid (w.heap.size < w1.heap.size) := hlt
  go_wp2_with fail
  refine (l12Right_c w.heap.size p q cs 0 w1 hs (by omega) (by omega)).mono ?_
  rintro e w2 ⟨v, rfl, l, xs, fp, t1, ho, hl, ⟨hl1, hok⟩, ht3, ht4, hs2, hg2⟩
  obtain ⟨po, qo, rfl, hrd⟩ := ho.rd
  have BW := hb.grown hg2 (Nat.le_of_lt hlt) (fun k hk => by simp at hk; omega)
  obtain ⟨b0, o0, e1, hc⟩ := hrd.2.2.2 (by omega)
  subst e1
  obtain ⟨a, ha⟩ : ∃ a, l[0]? = some a := ⟨l[0], by simp⟩
  obtain ⟨us, hrep, hcell⟩ := hc 0 a ha
  obtain rfl := cert_rep hrep
  have c0 := hcell 0 _ rfl
  have c1 := hcell 1 _ rfl
  have c2 := hcell 2 _ rfl
  rw [Nat.zero_mul, Nat.add_zero] at c0 c1 c2
  have hq1 : l.length ≤ qo := hrd.1
  have hq2 : qo ≤ 2 ^ 63 - 1 := hrd.2.1
  have hoa : Hid (okC a = true) := hok a (List.mem_of_getElem? ha)
  have hlI : 0 < (l.length : Int) := by omega
  have N := Arr.new w2 [.int .i64 a.1, .int .i64 a.2.1, .int .i64 a.2.2] 41
  have hal := alloc_below w2 (.cells #[.int .i64 a.1, .int .i64 a.2.1, .int .i64 a.2.2] 41)
  have HS := hs2.keep hal
  replace BW := Below.step BW hal
  have hw2 : Hid (w.heap.size < w2.heap.size) := Nat.lt_of_lt_of_le hlt hg2.size
  clear hs hb hg2 ho hrd hc hcell hrep hok hs2 hal hlt ha
  go_wp2_with fail
  generalize hV : w2.alloc (.cells #[.int .i64 a.1, .int .i64 a.2.1, .int .i64 a.2.2] 41) = V at *
  clear hV c0 c1 c2
  generalize w2.heap.size = gc at *
  have hbV : Hid (w.heap.size < V.heap.size) := Nat.lt_trans hw2.out N.lt
  apply share
  case h =>
    intro JN
    have GB := World.grownBy.refl V (some w.heap.size)
    have hne := Gen.But.some w.heap.size V
    refine Gen.wp_region_pick (Gen.But.pre w.heap.size) [1, 2, 6] 9 6 1 rfl rfl rfl (by kernel_rfl) (by kernel_rfl) (by kernel_rfl) (by kernel_rfl) ?_
    simp only [opsAt, List.getElem?_toArray, List.getElem?_cons_zero, List.getElem?_cons_succ]
    repeat (go_big_quiet_step (fail))
    refine wpQuiet_nil ?_
    refine Gen.wpM_two (i := 0) (j := 3) (by kernel_rfl) ?_ ?_
    · skip
      refine Gen.mOp_mk rfl (by go_simp) (by kernel_rfl) ?_
      rintro _ ⟨n9, rfl⟩
      have D9 : Below V.heap.size V (V.drewN n9) := ⟨rfl, rfl, rfl, Nat.le_refl _, fun _ _ => rfl⟩
      have G9 := grownBy_drewN V n9 (some w.heap.size)
      generalize V.drewN n9 = sv1 at *
      replace HS := HS.keep D9
      replace N := N.stay D9
      replace GB := grownBy_trans GB G9
      clear D9 G9
      refine wpList_make_full _ rfl (.const (.int .i64 32)) (.const (.int .i64 32)) 22 rfl sv1.heap.size 5 i0 (.int .u8 0) 1 Tryz.underlying22 hi hz0 hz1 .i64 .i64 _ _ 32 rfl rfl rfl rfl (by rw [hz2]; decide) (by unfold maxLen; decide) (Nat.le_refl _) ?_
      intro wg1 hown hgrow
      have hD : Below sv1.heap.size sv1 wg1 := (Below.refl _ _).grown hgrow (Nat.le_refl _) (fun k hk => by simp at hk)
      replace hown := made_zeros hown
      refine ⟨rfl, Gen.grown_any hgrow _, ?_⟩
      have OE := (hown.lower (show V.heap.size ≤ sv1.heap.size from GB.size) : Own _ V.heap.size _ _)
      replace HS := HS.keep hD
      replace N := N.stay hD
      replace GB := grownBy_trans GB (Gen.grown_any hgrow _)
      clear hown hgrow hD
      replace hne := Gen.But.some w.heap.size wg1
      generalize sv1.heap.size = ge at *
      refine Gen.wpM_only (i := 3) (by kernel_rfl) ?_
      refine Gen.mOp_call rfl (by go_simp) 48 _ #[.pointer (some ⟨w.heap.size, 0, none⟩), .int .i64 5] (fun w => by go_simp) rfl ?_
      rintro _ ⟨n9, rfl⟩
      have D9 : Below wg1.heap.size wg1 (wg1.drewN n9) := ⟨rfl, rfl, rfl, Nat.le_refl _, fun _ _ => rfl⟩
      have G9 := grownBy_drewN wg1 n9 (some w.heap.size)
      generalize wg1.drewN n9 = sv2 at *
      replace HS := HS.keep D9
      replace N := N.stay D9
      replace OE := OE.stay D9
      replace GB := grownBy_trans GB G9
      clear D9 G9
      refine (l1Next_c w.heap.size p q cs t1 5 sv2 HS (by omega) (by omega) (by omega) (by omega)).mono ?_
      rintro e wg2 ⟨r, rfl, hr1, hr2, hs2, hg⟩
      refine ⟨_, rfl, ⟨⟨wg2, hg⟩, rfl⟩, ?_⟩
      have HR := (show Hid (0 ≤ r ∧ r < 5) from ⟨hr1, hr2⟩)
      replace HS := hs2
      replace N := N.other hg (fun e => by have h1 := Option.some.inj e; have h2 := hw2.out; omega)
      replace OE := OE.other hg (fun k hk e => by have h3 := OE.ge k hk; have h1 := hbV.out; simp at e; omega)
      replace GB := grownBy_trans GB hg
      clear hg hs2
      replace hne := Gen.But.some w.heap.size wg2
      refine Gen.wpM_more (Gen.But.pre w.heap.size) [4] 4 3 rfl (by kernel_rfl) (by kernel_rfl) (by kernel_rfl) (by kernel_rfl) ?_
      simp only [opsAt, List.getElem?_toArray, List.getElem?_cons_zero, List.getElem?_cons_succ]
      go_simp
      repeat (go_big_quiet_step (fail))
      refine wpQuiet_nil ?_
      refine Gen.wpM_only (i := 5) (by kernel_rfl) ?_
      refine Gen.mOp_call rfl (by go_simp) 81 _ #[.pointer (some ⟨w.heap.size, 0, none⟩), .int .i64 (1 + r)] (fun w => by go_simp) rfl ?_
      rintro _ ⟨n9, rfl⟩
      have D9 : Below wg2.heap.size wg2 (wg2.drewN n9) := ⟨rfl, rfl, rfl, Nat.le_refl _, fun _ _ => rfl⟩
      have G9 := grownBy_drewN wg2 n9 (some w.heap.size)
      generalize wg2.drewN n9 = sv3 at *
      replace HS := HS.keep D9
      replace N := N.stay D9
      replace OE := OE.stay D9
      replace GB := grownBy_trans GB G9
      clear D9 G9
      refine (l1Some_c w.heap.size p q cs (t1 + 1) (1 + r) sv3 HS (by omega) (by omega) (by have := HR.out; omega) (by have := HR.out; omega)).mono ?_
      rintro e wg3 ⟨u, bs, rfl, hbl, ku, hs2, hg⟩
      obtain ⟨pu, qu, rfl, -⟩ := ku.rd
      have hb5 : bs.length ≤ 5 := by have := HR.out; omega
      clear hbl
      refine ⟨_, rfl, ⟨⟨wg3, hg⟩, rfl⟩, ?_⟩
      have OU := (ku.lower (show V.heap.size ≤ sv3.heap.size from GB.size) : Own _ V.heap.size _ _)
      have HB := (show Hid (bs.length ≤ 5) from hb5)
      replace HS := hs2
      replace N := N.other hg (fun e => by have h1 := Option.some.inj e; have h2 := hw2.out; omega)
      replace OE := OE.other hg (fun k hk e => by have h3 := OE.ge k hk; have h1 := hbV.out; simp at e; omega)
      replace GB := grownBy_trans GB hg
      clear hg ku hb5 hs2
      replace hne := Gen.But.some w.heap.size wg3
      refine Gen.wpM_only (i := 7) (by kernel_rfl) ?_
      refine Gen.mOp_call rfl (by go_simp) 48 _ #[.pointer (some ⟨w.heap.size, 0, none⟩), .int .i64 3] (fun w => by go_simp) rfl ?_
      rintro _ ⟨n9, rfl⟩
      have D9 : Below wg3.heap.size wg3 (wg3.drewN n9) := ⟨rfl, rfl, rfl, Nat.le_refl _, fun _ _ => rfl⟩
      have G9 := grownBy_drewN wg3 n9 (some w.heap.size)
      generalize wg3.drewN n9 = sv4 at *
      replace HS := HS.keep D9
      replace N := N.stay D9
      replace OE := OE.stay D9
      replace OU := OU.stay D9
      replace GB := grownBy_trans GB G9
      clear D9 G9
      refine (l1Next_c w.heap.size p q cs (t1 + 1 + (1 + r)) 3 sv4 HS (by have := HR.out; omega) (by have := HR.out; omega) (by omega) (by omega)).mono ?_
      rintro e wg4 ⟨n, rfl, hn1, hn2, hs2, hg⟩
      refine ⟨_, rfl, ⟨⟨wg4, hg⟩, rfl⟩, ?_⟩
      have HN := (show Hid (0 ≤ n ∧ n < 3) from ⟨hn1, hn2⟩)
      replace HS := hs2
      replace N := N.other hg (fun e => by have h1 := Option.some.inj e; have h2 := hw2.out; omega)
      replace OE := OE.other hg (fun k hk e => by have h3 := OE.ge k hk; have h1 := hbV.out; simp at e; omega)
      replace OU := OU.other hg (fun k hk e => by have h3 := OU.ge k hk; have h1 := hbV.out; simp at e; omega)
      replace GB := grownBy_trans GB hg
      clear hg hn1 hn2 hs2
      replace hne := Gen.But.some w.heap.size wg4
      refine Gen.wpM_only (i := 8) (by kernel_rfl) ?_
      refine Gen.mOp_call rfl (by go_simp) 50 _ #[.slice (some ⟨ge, 0, none⟩) 32 32, .int .i64 1, .slice pu bs.length qu, .pointer (some ⟨gc, 0, none⟩), .int .i64 n] (fun w => by go_simp) rfl ?_
      rintro _ ⟨n9, rfl⟩
      have D9 : Below wg4.heap.size wg4 (wg4.drewN n9) := ⟨rfl, rfl, rfl, Nat.le_refl _, fun _ _ => rfl⟩
      have G9 := grownBy_drewN wg4 n9 (some w.heap.size)
      generalize wg4.drewN n9 = sv5 at *
      replace HS := HS.keep D9
      replace N := N.stay D9
      replace OE := OE.stay D9
      replace OU := OU.stay D9
      replace GB := grownBy_trans GB G9
      clear D9 G9
      refine (l13Make_c (some ⟨ge, 0, none⟩) pu 32 qu gc 0 (zs 32) bs 1 a n sv5 (Rd.own OE) (Rd.own OU) ((N.cell 0).trans rfl) ((N.cell 1).trans rfl) ((N.cell 2).trans rfl) (by rw [zs_len]; decide) (by have := HB.out; omega) hoa.out HN.out.1 (by have := HN.out.2; omega)).mono ?_
      rintro e wg5 ⟨ud, rfl, kd, hb9⟩
      have hg := below_grownB hb9 (some w.heap.size)
      have hdl := mkN_len (zs 32) 1 bs a n
      generalize mkN (zs 32) 1 bs a n = d at *
      obtain ⟨pd, qd, rfl, -⟩ := kd.rd
      refine ⟨_, rfl, ⟨⟨wg5, hg⟩, rfl⟩, ?_⟩
      have OD := (kd.lower (show V.heap.size ≤ sv5.heap.size from GB.size) : Own _ V.heap.size _ _)
      have HD := (show Hid (1 ≤ d.length ∧ d.length ≤ 100) from by have := HB.out; rw [hdl]; exact ⟨by omega, by omega⟩)
      replace HS := HS.keep hb9
      replace N := N.other hg (fun e => by have h1 := Option.some.inj e; have h2 := hw2.out; omega)
      replace OE := OE.other hg (fun k hk e => by have h3 := OE.ge k hk; have h1 := hbV.out; simp at e; omega)
      replace OU := OU.other hg (fun k hk e => by have h3 := OU.ge k hk; have h1 := hbV.out; simp at e; omega)
      replace GB := grownBy_trans GB hg
      clear hg kd hdl hb9
      replace hne := Gen.But.some w.heap.size wg5
      refine Gen.wpM_end (by kernel_rfl) rfl (by kernel_rfl) (by decide) ?_
      rintro _ ⟨n9, rfl⟩
      have D9 : Below wg5.heap.size wg5 (wg5.drewN n9) := ⟨rfl, rfl, rfl, Nat.le_refl _, fun _ _ => rfl⟩
      have G9 := grownBy_drewN wg5 n9 (some w.heap.size)
      generalize wg5.drewN n9 = W at *
      simp only [List.drop_succ_cons, List.drop_zero]
      go_simp
      replace HS := HS.keep D9
      replace N := N.stay D9
      replace OE := OE.stay D9
      replace OU := OU.stay D9
      replace OD := OD.stay D9
      replace GB := grownBy_trans GB G9
      clear hne D9 G9
      clear hr1 hr2
      revert HD
      revert OD
      revert HN
      revert HB
      revert OU
      revert HR
      revert OE
      revert N
      revert HS
      revert GB
      revert qd
      revert pd
      revert d
      revert n
      revert qu
      revert pu
      revert bs
      revert r
      revert ge
      revert W
      exact JN.out
    · skip
      refine Gen.mOp_call rfl (by go_simp) 48 _ #[.pointer (some ⟨w.heap.size, 0, none⟩), .int .i64 5] (fun w => by go_simp) rfl ?_
      rintro _ ⟨n9, rfl⟩
      have D9 : Below V.heap.size V (V.drewN n9) := ⟨rfl, rfl, rfl, Nat.le_refl _, fun _ _ => rfl⟩
      have G9 := grownBy_drewN V n9 (some w.heap.size)
      generalize V.drewN n9 = sv6 at *
      replace HS := HS.keep D9
      replace N := N.stay D9
      replace GB := grownBy_trans GB G9
      clear D9 G9
      refine (l1Next_c w.heap.size p q cs t1 5 sv6 HS (by omega) (by omega) (by omega) (by omega)).mono ?_
      rintro e wg6 ⟨r, rfl, hr1, hr2, hs2, hg⟩
      refine ⟨_, rfl, ⟨⟨wg6, hg⟩, rfl⟩, ?_⟩
      have HR := (show Hid (0 ≤ r ∧ r < 5) from ⟨hr1, hr2⟩)
      replace HS := hs2
      replace N := N.other hg (fun e => by have h1 := Option.some.inj e; have h2 := hw2.out; omega)
      replace GB := grownBy_trans GB hg
      clear hg hs2
      replace hne := Gen.But.some w.heap.size wg6
      refine Gen.wpM_more (Gen.But.pre w.heap.size) [4] 5 4 rfl (by kernel_rfl) (by kernel_rfl) (by kernel_rfl) (by kernel_rfl) ?_
      simp only [opsAt, List.getElem?_toArray, List.getElem?_cons_zero, List.getElem?_cons_succ]
      go_simp
      repeat (go_big_quiet_step (fail))
      refine wpQuiet_nil ?_
      refine Gen.wpM_two (i := 0) (j := 5) (by kernel_rfl) ?_ ?_
      · skip
        refine Gen.mOp_mk rfl (by go_simp) (by kernel_rfl) ?_
        rintro _ ⟨n9, rfl⟩
        have D9 : Below wg6.heap.size wg6 (wg6.drewN n9) := ⟨rfl, rfl, rfl, Nat.le_refl _, fun _ _ => rfl⟩
        have G9 := grownBy_drewN wg6 n9 (some w.heap.size)
        generalize wg6.drewN n9 = sv7 at *
        replace HS := HS.keep D9
        replace N := N.stay D9
        replace GB := grownBy_trans GB G9
        clear D9 G9
        refine wpList_make_full _ rfl (.const (.int .i64 32)) (.const (.int .i64 32)) 22 rfl sv7.heap.size 5 i0 (.int .u8 0) 1 Tryz.underlying22 hi hz0 hz1 .i64 .i64 _ _ 32 rfl rfl rfl rfl (by rw [hz2]; decide) (by unfold maxLen; decide) (Nat.le_refl _) ?_
        intro wg7 hown hgrow
        have hD : Below sv7.heap.size sv7 wg7 := (Below.refl _ _).grown hgrow (Nat.le_refl _) (fun k hk => by simp at hk)
        replace hown := made_zeros hown
        refine ⟨rfl, Gen.grown_any hgrow _, ?_⟩
        have OE := (hown.lower (show V.heap.size ≤ sv7.heap.size from GB.size) : Own _ V.heap.size _ _)
        replace HS := HS.keep hD
        replace N := N.stay hD
        replace GB := grownBy_trans GB (Gen.grown_any hgrow _)
        clear hown hgrow hD
        replace hne := Gen.But.some w.heap.size wg7
        generalize sv7.heap.size = ge at *
        refine Gen.wpM_only (i := 5) (by kernel_rfl) ?_
        refine Gen.mOp_call rfl (by go_simp) 81 _ #[.pointer (some ⟨w.heap.size, 0, none⟩), .int .i64 (1 + r)] (fun w => by go_simp) rfl ?_
        rintro _ ⟨n9, rfl⟩
        have D9 : Below wg7.heap.size wg7 (wg7.drewN n9) := ⟨rfl, rfl, rfl, Nat.le_refl _, fun _ _ => rfl⟩
        have G9 := grownBy_drewN wg7 n9 (some w.heap.size)
        generalize wg7.drewN n9 = sv8 at *
        replace HS := HS.keep D9
        replace N := N.stay D9
        replace OE := OE.stay D9
        replace GB := grownBy_trans GB G9
        clear D9 G9
        refine (l1Some_c w.heap.size p q cs (t1 + 1) (1 + r) sv8 HS (by omega) (by omega) (by have := HR.out; omega) (by have := HR.out; omega)).mono ?_
        rintro e wg8 ⟨u, bs, rfl, hbl, ku, hs2, hg⟩
        obtain ⟨pu, qu, rfl, -⟩ := ku.rd
        have hb5 : bs.length ≤ 5 := by have := HR.out; omega
        clear hbl
        refine ⟨_, rfl, ⟨⟨wg8, hg⟩, rfl⟩, ?_⟩
        have OU := (ku.lower (show V.heap.size ≤ sv8.heap.size from GB.size) : Own _ V.heap.size _ _)
        have HB := (show Hid (bs.length ≤ 5) from hb5)
        replace HS := hs2
        replace N := N.other hg (fun e => by have h1 := Option.some.inj e; have h2 := hw2.out; omega)
        replace OE := OE.other hg (fun k hk e => by have h3 := OE.ge k hk; have h1 := hbV.out; simp at e; omega)
        replace GB := grownBy_trans GB hg
        clear hg ku hb5 hs2
        replace hne := Gen.But.some w.heap.size wg8
        refine Gen.wpM_only (i := 7) (by kernel_rfl) ?_
        refine Gen.mOp_call rfl (by go_simp) 48 _ #[.pointer (some ⟨w.heap.size, 0, none⟩), .int .i64 3] (fun w => by go_simp) rfl ?_
        rintro _ ⟨n9, rfl⟩
        have D9 : Below wg8.heap.size wg8 (wg8.drewN n9) := ⟨rfl, rfl, rfl, Nat.le_refl _, fun _ _ => rfl⟩
        have G9 := grownBy_drewN wg8 n9 (some w.heap.size)
        generalize wg8.drewN n9 = sv9 at *
        replace HS := HS.keep D9
        replace N := N.stay D9
        replace OE := OE.stay D9
        replace OU := OU.stay D9
        replace GB := grownBy_trans GB G9
        clear D9 G9
        refine (l1Next_c w.heap.size p q cs (t1 + 1 + (1 + r)) 3 sv9 HS (by have := HR.out; omega) (by have := HR.out; omega) (by omega) (by omega)).mono ?_
        rintro e wg9 ⟨n, rfl, hn1, hn2, hs2, hg⟩
        refine ⟨_, rfl, ⟨⟨wg9, hg⟩, rfl⟩, ?_⟩
        have HN := (show Hid (0 ≤ n ∧ n < 3) from ⟨hn1, hn2⟩)
        replace HS := hs2
        replace N := N.other hg (fun e => by have h1 := Option.some.inj e; have h2 := hw2.out; omega)
        replace OE := OE.other hg (fun k hk e => by have h3 := OE.ge k hk; have h1 := hbV.out; simp at e; omega)
        replace OU := OU.other hg (fun k hk e => by have h3 := OU.ge k hk; have h1 := hbV.out; simp at e; omega)
        replace GB := grownBy_trans GB hg
        clear hg hn1 hn2 hs2
        replace hne := Gen.But.some w.heap.size wg9
        refine Gen.wpM_only (i := 8) (by kernel_rfl) ?_
        refine Gen.mOp_call rfl (by go_simp) 50 _ #[.slice (some ⟨ge, 0, none⟩) 32 32, .int .i64 1, .slice pu bs.length qu, .pointer (some ⟨gc, 0, none⟩), .int .i64 n] (fun w => by go_simp) rfl ?_
        rintro _ ⟨n9, rfl⟩
        have D9 : Below wg9.heap.size wg9 (wg9.drewN n9) := ⟨rfl, rfl, rfl, Nat.le_refl _, fun _ _ => rfl⟩
        have G9 := grownBy_drewN wg9 n9 (some w.heap.size)
        generalize wg9.drewN n9 = sv10 at *
        replace HS := HS.keep D9
        replace N := N.stay D9
        replace OE := OE.stay D9
        replace OU := OU.stay D9
        replace GB := grownBy_trans GB G9
        clear D9 G9
        refine (l13Make_c (some ⟨ge, 0, none⟩) pu 32 qu gc 0 (zs 32) bs 1 a n sv10 (Rd.own OE) (Rd.own OU) ((N.cell 0).trans rfl) ((N.cell 1).trans rfl) ((N.cell 2).trans rfl) (by rw [zs_len]; decide) (by have := HB.out; omega) hoa.out HN.out.1 (by have := HN.out.2; omega)).mono ?_
        rintro e wg10 ⟨ud, rfl, kd, hb9⟩
        have hg := below_grownB hb9 (some w.heap.size)
        have hdl := mkN_len (zs 32) 1 bs a n
        generalize mkN (zs 32) 1 bs a n = d at *
        obtain ⟨pd, qd, rfl, -⟩ := kd.rd
        refine ⟨_, rfl, ⟨⟨wg10, hg⟩, rfl⟩, ?_⟩
        have OD := (kd.lower (show V.heap.size ≤ sv10.heap.size from GB.size) : Own _ V.heap.size _ _)
        have HD := (show Hid (1 ≤ d.length ∧ d.length ≤ 100) from by have := HB.out; rw [hdl]; exact ⟨by omega, by omega⟩)
        replace HS := HS.keep hb9
        replace N := N.other hg (fun e => by have h1 := Option.some.inj e; have h2 := hw2.out; omega)
        replace OE := OE.other hg (fun k hk e => by have h3 := OE.ge k hk; have h1 := hbV.out; simp at e; omega)
        replace OU := OU.other hg (fun k hk e => by have h3 := OU.ge k hk; have h1 := hbV.out; simp at e; omega)
        replace GB := grownBy_trans GB hg
        clear hg kd hdl hb9
        replace hne := Gen.But.some w.heap.size wg10
        refine Gen.wpM_end (by kernel_rfl) rfl (by kernel_rfl) (by decide) ?_
        rintro _ ⟨n9, rfl⟩
        have D9 : Below wg10.heap.size wg10 (wg10.drewN n9) := ⟨rfl, rfl, rfl, Nat.le_refl _, fun _ _ => rfl⟩
        have G9 := grownBy_drewN wg10 n9 (some w.heap.size)
        generalize wg10.drewN n9 = W at *
        simp only [List.drop_succ_cons, List.drop_zero]
        go_simp
        replace HS := HS.keep D9
        replace N := N.stay D9
        replace OE := OE.stay D9
        replace OU := OU.stay D9
        replace OD := OD.stay D9
        replace GB := grownBy_trans GB G9
        clear hne D9 G9
        clear hr1 hr2
        revert HD
        revert OD
        revert HN
        revert HB
        revert OU
        revert HR
        revert OE
        revert N
        revert HS
        revert GB
        revert qd
        revert pd
        revert d
        revert n
        revert qu
        revert pu
        revert bs
        revert r
        revert ge
        revert W
        exact JN.out
      · skip
        refine Gen.mOp_call rfl (by go_simp) 81 _ #[.pointer (some ⟨w.heap.size, 0, none⟩), .int .i64 (1 + r)] (fun w => by go_simp) rfl ?_
        rintro _ ⟨n9, rfl⟩
        have D9 : Below wg6.heap.size wg6 (wg6.drewN n9) := ⟨rfl, rfl, rfl, Nat.le_refl _, fun _ _ => rfl⟩
        have G9 := grownBy_drewN wg6 n9 (some w.heap.size)
        generalize wg6.drewN n9 = sv11 at *
        replace HS := HS.keep D9
        replace N := N.stay D9
        replace GB := grownBy_trans GB G9
        clear D9 G9
        refine (l1Some_c w.heap.size p q cs (t1 + 1) (1 + r) sv11 HS (by omega) (by omega) (by have := HR.out; omega) (by have := HR.out; omega)).mono ?_
        rintro e wg11 ⟨u, bs, rfl, hbl, ku, hs2, hg⟩
        obtain ⟨pu, qu, rfl, -⟩ := ku.rd
        have hb5 : bs.length ≤ 5 := by have := HR.out; omega
        clear hbl
        refine ⟨_, rfl, ⟨⟨wg11, hg⟩, rfl⟩, ?_⟩
        have OU := (ku.lower (show V.heap.size ≤ sv11.heap.size from GB.size) : Own _ V.heap.size _ _)
        have HB := (show Hid (bs.length ≤ 5) from hb5)
        replace HS := hs2
        replace N := N.other hg (fun e => by have h1 := Option.some.inj e; have h2 := hw2.out; omega)
        replace GB := grownBy_trans GB hg
        clear hg ku hb5 hs2
        replace hne := Gen.But.some w.heap.size wg11
        refine Gen.wpM_two (i := 0) (j := 7) (by kernel_rfl) ?_ ?_
        · skip
          refine Gen.mOp_mk rfl (by go_simp) (by kernel_rfl) ?_
          rintro _ ⟨n9, rfl⟩
          have D9 : Below wg11.heap.size wg11 (wg11.drewN n9) := ⟨rfl, rfl, rfl, Nat.le_refl _, fun _ _ => rfl⟩
          have G9 := grownBy_drewN wg11 n9 (some w.heap.size)
          generalize wg11.drewN n9 = sv12 at *
          replace HS := HS.keep D9
          replace N := N.stay D9
          replace OU := OU.stay D9
          replace GB := grownBy_trans GB G9
          clear D9 G9
          refine wpList_make_full _ rfl (.const (.int .i64 32)) (.const (.int .i64 32)) 22 rfl sv12.heap.size 5 i0 (.int .u8 0) 1 Tryz.underlying22 hi hz0 hz1 .i64 .i64 _ _ 32 rfl rfl rfl rfl (by rw [hz2]; decide) (by unfold maxLen; decide) (Nat.le_refl _) ?_
          intro wg12 hown hgrow
          have hD : Below sv12.heap.size sv12 wg12 := (Below.refl _ _).grown hgrow (Nat.le_refl _) (fun k hk => by simp at hk)
          replace hown := made_zeros hown
          refine ⟨rfl, Gen.grown_any hgrow _, ?_⟩
          have OE := (hown.lower (show V.heap.size ≤ sv12.heap.size from GB.size) : Own _ V.heap.size _ _)
          replace HS := HS.keep hD
          replace N := N.stay hD
          replace OU := OU.stay hD
          replace GB := grownBy_trans GB (Gen.grown_any hgrow _)
          clear hown hgrow hD
          replace hne := Gen.But.some w.heap.size wg12
          generalize sv12.heap.size = ge at *
          refine Gen.wpM_only (i := 7) (by kernel_rfl) ?_
          refine Gen.mOp_call rfl (by go_simp) 48 _ #[.pointer (some ⟨w.heap.size, 0, none⟩), .int .i64 3] (fun w => by go_simp) rfl ?_
          rintro _ ⟨n9, rfl⟩
          have D9 : Below wg12.heap.size wg12 (wg12.drewN n9) := ⟨rfl, rfl, rfl, Nat.le_refl _, fun _ _ => rfl⟩
          have G9 := grownBy_drewN wg12 n9 (some w.heap.size)
          generalize wg12.drewN n9 = sv13 at *
          replace HS := HS.keep D9
          replace N := N.stay D9
          replace OU := OU.stay D9
          replace OE := OE.stay D9
          replace GB := grownBy_trans GB G9
          clear D9 G9
          refine (l1Next_c w.heap.size p q cs (t1 + 1 + (1 + r)) 3 sv13 HS (by have := HR.out; omega) (by have := HR.out; omega) (by omega) (by omega)).mono ?_
          rintro e wg13 ⟨n, rfl, hn1, hn2, hs2, hg⟩
          refine ⟨_, rfl, ⟨⟨wg13, hg⟩, rfl⟩, ?_⟩
          have HN := (show Hid (0 ≤ n ∧ n < 3) from ⟨hn1, hn2⟩)
          replace HS := hs2
          replace N := N.other hg (fun e => by have h1 := Option.some.inj e; have h2 := hw2.out; omega)
          replace OU := OU.other hg (fun k hk e => by have h3 := OU.ge k hk; have h1 := hbV.out; simp at e; omega)
          replace OE := OE.other hg (fun k hk e => by have h3 := OE.ge k hk; have h1 := hbV.out; simp at e; omega)
          replace GB := grownBy_trans GB hg
          clear hg hn1 hn2 hs2
          replace hne := Gen.But.some w.heap.size wg13
          refine Gen.wpM_only (i := 8) (by kernel_rfl) ?_
          refine Gen.mOp_call rfl (by go_simp) 50 _ #[.slice (some ⟨ge, 0, none⟩) 32 32, .int .i64 1, .slice pu bs.length qu, .pointer (some ⟨gc, 0, none⟩), .int .i64 n] (fun w => by go_simp) rfl ?_
          rintro _ ⟨n9, rfl⟩
          have D9 : Below wg13.heap.size wg13 (wg13.drewN n9) := ⟨rfl, rfl, rfl, Nat.le_refl _, fun _ _ => rfl⟩
          have G9 := grownBy_drewN wg13 n9 (some w.heap.size)
          generalize wg13.drewN n9 = sv14 at *
          replace HS := HS.keep D9
          replace N := N.stay D9
          replace OU := OU.stay D9
          replace OE := OE.stay D9
          replace GB := grownBy_trans GB G9
          clear D9 G9
          refine (l13Make_c (some ⟨ge, 0, none⟩) pu 32 qu gc 0 (zs 32) bs 1 a n sv14 (Rd.own OE) (Rd.own OU) ((N.cell 0).trans rfl) ((N.cell 1).trans rfl) ((N.cell 2).trans rfl) (by rw [zs_len]; decide) (by have := HB.out; omega) hoa.out HN.out.1 (by have := HN.out.2; omega)).mono ?_
          rintro e wg14 ⟨ud, rfl, kd, hb9⟩
          have hg := below_grownB hb9 (some w.heap.size)
          have hdl := mkN_len (zs 32) 1 bs a n
          generalize mkN (zs 32) 1 bs a n = d at *
          obtain ⟨pd, qd, rfl, -⟩ := kd.rd
          refine ⟨_, rfl, ⟨⟨wg14, hg⟩, rfl⟩, ?_⟩
          have OD := (kd.lower (show V.heap.size ≤ sv14.heap.size from GB.size) : Own _ V.heap.size _ _)
          have HD := (show Hid (1 ≤ d.length ∧ d.length ≤ 100) from by have := HB.out; rw [hdl]; exact ⟨by omega, by omega⟩)
          replace HS := HS.keep hb9
          replace N := N.other hg (fun e => by have h1 := Option.some.inj e; have h2 := hw2.out; omega)
          replace OU := OU.other hg (fun k hk e => by have h3 := OU.ge k hk; have h1 := hbV.out; simp at e; omega)
          replace OE := OE.other hg (fun k hk e => by have h3 := OE.ge k hk; have h1 := hbV.out; simp at e; omega)
          replace GB := grownBy_trans GB hg
          clear hg kd hdl hb9
          replace hne := Gen.But.some w.heap.size wg14
          refine Gen.wpM_end (by kernel_rfl) rfl (by kernel_rfl) (by decide) ?_
          rintro _ ⟨n9, rfl⟩
          have D9 : Below wg14.heap.size wg14 (wg14.drewN n9) := ⟨rfl, rfl, rfl, Nat.le_refl _, fun _ _ => rfl⟩
          have G9 := grownBy_drewN wg14 n9 (some w.heap.size)
          generalize wg14.drewN n9 = W at *
          simp only [List.drop_succ_cons, List.drop_zero]
          go_simp
          replace HS := HS.keep D9
          replace N := N.stay D9
          replace OU := OU.stay D9
          replace OE := OE.stay D9
          replace OD := OD.stay D9
          replace GB := grownBy_trans GB G9
          clear hne D9 G9
          clear hr1 hr2
          revert HD
          revert OD
          revert HN
          revert HB
          revert OU
          revert HR
          revert OE
          revert N
          revert HS
          revert GB
          revert qd
          revert pd
          revert d
          revert n
          revert qu
          revert pu
          revert bs
          revert r
          revert ge
          revert W
          exact JN.out
        · skip
          refine Gen.mOp_call rfl (by go_simp) 48 _ #[.pointer (some ⟨w.heap.size, 0, none⟩), .int .i64 3] (fun w => by go_simp) rfl ?_
          rintro _ ⟨n9, rfl⟩
          have D9 : Below wg11.heap.size wg11 (wg11.drewN n9) := ⟨rfl, rfl, rfl, Nat.le_refl _, fun _ _ => rfl⟩
          have G9 := grownBy_drewN wg11 n9 (some w.heap.size)
          generalize wg11.drewN n9 = sv15 at *
          replace HS := HS.keep D9
          replace N := N.stay D9
          replace OU := OU.stay D9
          replace GB := grownBy_trans GB G9
          clear D9 G9
          refine (l1Next_c w.heap.size p q cs (t1 + 1 + (1 + r)) 3 sv15 HS (by have := HR.out; omega) (by have := HR.out; omega) (by omega) (by omega)).mono ?_
          rintro e wg15 ⟨n, rfl, hn1, hn2, hs2, hg⟩
          refine ⟨_, rfl, ⟨⟨wg15, hg⟩, rfl⟩, ?_⟩
          have HN := (show Hid (0 ≤ n ∧ n < 3) from ⟨hn1, hn2⟩)
          replace HS := hs2
          replace N := N.other hg (fun e => by have h1 := Option.some.inj e; have h2 := hw2.out; omega)
          replace OU := OU.other hg (fun k hk e => by have h3 := OU.ge k hk; have h1 := hbV.out; simp at e; omega)
          replace GB := grownBy_trans GB hg
          clear hg hn1 hn2 hs2
          replace hne := Gen.But.some w.heap.size wg15
          refine Gen.wpM_only (i := 0) (by kernel_rfl) ?_
          refine Gen.mOp_mk rfl (by go_simp) (by kernel_rfl) ?_
          rintro _ ⟨n9, rfl⟩
          have D9 : Below wg15.heap.size wg15 (wg15.drewN n9) := ⟨rfl, rfl, rfl, Nat.le_refl _, fun _ _ => rfl⟩
          have G9 := grownBy_drewN wg15 n9 (some w.heap.size)
          generalize wg15.drewN n9 = sv16 at *
          replace HS := HS.keep D9
          replace N := N.stay D9
          replace OU := OU.stay D9
          replace GB := grownBy_trans GB G9
          clear D9 G9
          refine wpList_make_full _ rfl (.const (.int .i64 32)) (.const (.int .i64 32)) 22 rfl sv16.heap.size 5 i0 (.int .u8 0) 1 Tryz.underlying22 hi hz0 hz1 .i64 .i64 _ _ 32 rfl rfl rfl rfl (by rw [hz2]; decide) (by unfold maxLen; decide) (Nat.le_refl _) ?_
          intro wg16 hown hgrow
          have hD : Below sv16.heap.size sv16 wg16 := (Below.refl _ _).grown hgrow (Nat.le_refl _) (fun k hk => by simp at hk)
          replace hown := made_zeros hown
          refine ⟨rfl, Gen.grown_any hgrow _, ?_⟩
          have OE := (hown.lower (show V.heap.size ≤ sv16.heap.size from GB.size) : Own _ V.heap.size _ _)
          replace HS := HS.keep hD
          replace N := N.stay hD
          replace OU := OU.stay hD
          replace GB := grownBy_trans GB (Gen.grown_any hgrow _)
          clear hown hgrow hD
          replace hne := Gen.But.some w.heap.size wg16
          generalize sv16.heap.size = ge at *
          refine Gen.wpM_only (i := 8) (by kernel_rfl) ?_
          refine Gen.mOp_call rfl (by go_simp) 50 _ #[.slice (some ⟨ge, 0, none⟩) 32 32, .int .i64 1, .slice pu bs.length qu, .pointer (some ⟨gc, 0, none⟩), .int .i64 n] (fun w => by go_simp) rfl ?_
          rintro _ ⟨n9, rfl⟩
          have D9 : Below wg16.heap.size wg16 (wg16.drewN n9) := ⟨rfl, rfl, rfl, Nat.le_refl _, fun _ _ => rfl⟩
          have G9 := grownBy_drewN wg16 n9 (some w.heap.size)
          generalize wg16.drewN n9 = sv17 at *
          replace HS := HS.keep D9
          replace N := N.stay D9
          replace OU := OU.stay D9
          replace OE := OE.stay D9
          replace GB := grownBy_trans GB G9
          clear D9 G9
          refine (l13Make_c (some ⟨ge, 0, none⟩) pu 32 qu gc 0 (zs 32) bs 1 a n sv17 (Rd.own OE) (Rd.own OU) ((N.cell 0).trans rfl) ((N.cell 1).trans rfl) ((N.cell 2).trans rfl) (by rw [zs_len]; decide) (by have := HB.out; omega) hoa.out HN.out.1 (by have := HN.out.2; omega)).mono ?_
          rintro e wg17 ⟨ud, rfl, kd, hb9⟩
          have hg := below_grownB hb9 (some w.heap.size)
          have hdl := mkN_len (zs 32) 1 bs a n
          generalize mkN (zs 32) 1 bs a n = d at *
          obtain ⟨pd, qd, rfl, -⟩ := kd.rd
          refine ⟨_, rfl, ⟨⟨wg17, hg⟩, rfl⟩, ?_⟩
          have OD := (kd.lower (show V.heap.size ≤ sv17.heap.size from GB.size) : Own _ V.heap.size _ _)
          have HD := (show Hid (1 ≤ d.length ∧ d.length ≤ 100) from by have := HB.out; rw [hdl]; exact ⟨by omega, by omega⟩)
          replace HS := HS.keep hb9
          replace N := N.other hg (fun e => by have h1 := Option.some.inj e; have h2 := hw2.out; omega)
          replace OU := OU.other hg (fun k hk e => by have h3 := OU.ge k hk; have h1 := hbV.out; simp at e; omega)
          replace OE := OE.other hg (fun k hk e => by have h3 := OE.ge k hk; have h1 := hbV.out; simp at e; omega)
          replace GB := grownBy_trans GB hg
          clear hg kd hdl hb9
          replace hne := Gen.But.some w.heap.size wg17
          refine Gen.wpM_end (by kernel_rfl) rfl (by kernel_rfl) (by decide) ?_
          rintro _ ⟨n9, rfl⟩
          have D9 : Below wg17.heap.size wg17 (wg17.drewN n9) := ⟨rfl, rfl, rfl, Nat.le_refl _, fun _ _ => rfl⟩
          have G9 := grownBy_drewN wg17 n9 (some w.heap.size)
          generalize wg17.drewN n9 = W at *
          simp only [List.drop_succ_cons, List.drop_zero]
          go_simp
          replace HS := HS.keep D9
          replace N := N.stay D9
          replace OU := OU.stay D9
          replace OE := OE.stay D9
          replace OD := OD.stay D9
          replace GB := grownBy_trans GB G9
          clear hne D9 G9
          clear hr1 hr2
          revert HD
          revert OD
          revert HN
          revert HB
          revert OU
          revert HR
          revert OE
          revert N
          revert HS
          revert GB
          revert qd
          revert pd
          revert d
          revert n
          revert qu
          revert pu
          revert bs
          revert r
          revert ge
          revert W
          exact JN.out
  intro W ge r bs pu qu n d pd qd GB HS N OE HR OU HB HN OD HD
  replace BW := BW.grown GB (by have h1 := BW.size; have h2 := hbV.out; omega) (fun k hk => by simp at hk; omega)
  clear OE OU GB N
  have hT : Hid (0 ≤ t1 ∧ t1 ≤ 20 ∧ r < 5 ∧ 0 ≤ r) := ⟨by omega, by omega, HR.out.2, HR.out.1⟩
  have HDlt : Hid (w.heap.size < V.heap.size) := hbV.out
  obtain ⟨t2, ht2, HS2⟩ : ∃ t2 : Int, Hid (0 ≤ t2 ∧ t2 ≤ 1000) ∧ Src W w.heap.size p q cs t2 := ⟨_, ⟨by have := hT.out; omega, by have := hT.out; omega⟩, HS⟩
  clear HS hT ht3 ht4 HR HB HN
  go_wp2_with fail
  refine (l1Next_c w.heap.size p q cs t2 4 W HS2 (by have := ht2.out; omega) (by have := ht2.out; omega) (by have := HD.out; omega) (by have := HD.out; omega)).mono ?_
  rintro e W3 ⟨k, rfl, hk1, hk2, hs2, hg⟩
  replace OD := OD.other hg (fun k hk e => by have h3 := OD.ge k hk; have h1 := hbV.out; simp at e; omega)
  replace BW := BW.grown hg (by have h1 := BW.size; exact h1) (fun k hk => by simp at hk; omega)
  clear HS2 hg
  have HS2 := hs2
  clear hs2
  by_cases h0 : k = 0
  · subst h0
    go_wp2_with fail
    obtain ⟨g, e4⟩ : ∃ g, pd = some ⟨g, 0, none⟩ := by
      rcases OD.2 with ⟨e, hz⟩ | ⟨g, cap, cur, e, -⟩
      · have := HD.out.1; omega
      · simp at e; exact ⟨g, e.1⟩
    subst e4
    have hgb : Hid (w.heap.size < g) := by have h1 := OD.ge g rfl; have h2 := hbV.out; show _ < _; omega
    have hqd := (Rd.own OD).1
    have hqd2 : qd ≤ 2 ^ 63 - 1 := (Rd.own OD).2.1
    have hne := Gen.But.some (w.heap.size) W3
    refine Gen.wp_region_pick (Gen.But.pre (w.heap.size)) [0, 1, 2, 3, 7] 13 8 1 rfl rfl rfl (by kernel_rfl) (by kernel_rfl) (by kernel_rfl) (by kernel_rfl) ?_
    simp only [opsAt, List.getElem?_toArray, List.getElem?_cons_zero, List.getElem?_cons_succ]
    repeat (go_big_quiet_step (fail))
    refine wpQuiet_nil ?_
    refine Gen.wpM_only (i := 4) (by kernel_rfl) ?_
    refine Gen.mOp_call rfl (by go_simp) 48 _ #[.pointer (some ⟨w.heap.size, 0, none⟩), .int .i64 (d.length : Int)] (fun w => by go_simp) rfl ?_
    rintro _ ⟨n1, rfl⟩
    refine (l1Next_c w.heap.size p q cs (t2 + 1) (d.length : Int) _ (HS2.drewN n1) (by have := ht2.out; omega) (by have := ht2.out; omega) (by have := HD.out; omega) (by have := HD.out; omega)).mono ?_
    rintro e w4 ⟨i, rfl, hi0, hi1, HS4, hg4⟩
    refine ⟨_, rfl, ⟨⟨w4, hg4⟩, rfl⟩, ?_⟩
    have hgw : W3.grownBy w4 (some w.heap.size) := grownBy_trans (grownBy_drewN W3 n1 _) hg4
    obtain ⟨i, rfl⟩ := Int.eq_ofNat_of_zero_le hi0
    have hil : i < d.length := by omega
    replace OD := OD.other hgw (fun k hk e => by have h3 := OD.ge k hk; have h1 := hbV.out; simp at e; omega)
    replace BW := BW.grown hgw (by have h1 := BW.size; exact h1) (fun k hk => by simp at hk; omega)
    have k5 : w4.ownsRow V.heap.size 5 1 (.slice (some ⟨g, 0, none⟩) d.length qd) d.length (d.map u8v) := OD
    have cx := World.ownsRow.cellAt k5 i (by omega)
    rw [u8v_at hil] at cx
    have gx := Gen.But.cell (b := w.heap.size) cx (show g ≠ w.heap.size by have := hgb.out; omega)
    have hne := Gen.But.some (w.heap.size) w4
    unfold at8 at gx
    clear hgw hg4 HS2 k5 cx
    refine Gen.wpM_more (Gen.But.pre (w.heap.size)) [5, 6] 7 5 rfl (by kernel_rfl) (by kernel_rfl) (by kernel_rfl) (by kernel_rfl) ?_
    simp only [opsAt, List.getElem?_toArray, List.getElem?_cons_zero, List.getElem?_cons_succ]
    go_simp
    repeat (go_big_quiet_step (fail))
    refine wpQuiet_nil ?_
    clear gx hne
    refine Gen.wpM_only (i := 8) (by kernel_rfl) ?_
    refine Gen.mOp_call rfl (by go_simp) 48 _ #[.pointer (some ⟨w.heap.size, 0, none⟩), .int .i64 9] (fun w => by go_simp) rfl ?_
    rintro _ ⟨n2, rfl⟩
    refine (l1Next_c w.heap.size p q cs (t2 + 1 + 1) 9 _ (HS4.drewN n2) (by have := ht2.out; omega) (by have := ht2.out; omega) (by omega) (by omega)).mono ?_
    rintro e w5 ⟨m, rfl, hm0, hm1, HS5, hg5⟩
    refine ⟨_, rfl, ⟨⟨w5, hg5⟩, rfl⟩, ?_⟩
    have hgw : w4.grownBy w5 (some w.heap.size) := grownBy_trans (grownBy_drewN w4 n2 _) hg5
    obtain ⟨m, rfl⟩ := Int.eq_ofNat_of_zero_le hm0
    replace OD := OD.other hgw (fun k hk e => by have h3 := OD.ge k hk; have h1 := hbV.out; simp at e; omega)
    replace BW := BW.grown hgw (by have h1 := BW.size; exact h1) (fun k hk => by simp at hk; omega)
    obtain ⟨tb, htb⟩ : ∃ tb : UInt8, (tb.toNat : Int) = 1 + (m : Int) := ⟨UInt8.ofNat (1 + m), by rw [UInt8.toNat_ofNat']; omega⟩
    have hxo : bits .xor .u8 ((d.getD i 0).toNat : Int) (1 + (m : Int)) = ((d.getD i 0 ^^^ tb).toNat : Int) := by rw [← htb]; exact u8_xor8 _ _
    have k5 : w5.ownsRow V.heap.size 5 1 (.slice (some ⟨g, 0, none⟩) d.length qd) d.length (d.map u8v) := OD
    have cx := World.ownsRow.cellAt k5 i (by omega)
    rw [u8v_at hil] at cx
    have fx := World.ownsRow.frozenAt k5 i
    have R := (World.ownsRow.stored k5 i (u8v (d.getD i 0 ^^^ tb))).1
    have hR : Own (w5.setCell ⟨g, i, none⟩ (u8v (d.getD i 0 ^^^ tb))) V.heap.size (.slice (some ⟨g, 0, none⟩) d.length qd) (d.set i (d.getD i 0 ^^^ tb)) := by unfold Own; rw [List.length_set, List.map_set]; exact R
    have hne := Gen.But.some (w.heap.size) w5
    clear hgw hg5 HS4 HS5 k5 R
    unfold at8 at cx
    have e9 : d[i]'hil = d.getD i 0 := by simp [hil]
    rw [e9]
    clear e9
    generalize d.getD i 0 = y at *
    refine Gen.wpM_more (Gen.But.pre (w.heap.size)) [9, 10, 11, 12] 4 0 rfl (by kernel_rfl) (by kernel_rfl) (by kernel_rfl) (by kernel_rfl) ?_
    simp only [opsAt, List.getElem?_toArray, List.getElem?_cons_zero, List.getElem?_cons_succ]
    go_simp
    repeat (go_big_quiet_step (fail))
    refine wpQuiet_nil ?_
    refine Gen.wpM_end (by kernel_rfl) rfl (by kernel_rfl) (by decide) ?_
    rintro _ ⟨n3, rfl⟩
    simp only [List.drop_succ_cons, List.drop_zero]
    replace cx : (w5.drewN n3).cell? ⟨g, i, none⟩ = some (.int .u8 (y.toNat : Int)) := cx
    replace fx : (w5.drewN n3).frozen? ⟨g, i, none⟩ = false := fx
    replace hR : Own ((w5.drewN n3).setCell ⟨g, i, none⟩ (u8v (y ^^^ tb))) V.heap.size (.slice (some ⟨g, 0, none⟩) d.length qd) (d.set i (y ^^^ tb)) := hR
    have BE : Below w.heap.size w ((w5.drewN n3).setCell ⟨g, i, none⟩ (u8v (y ^^^ tb))) := (BW.trans (show Below w.heap.size w5 (w5.drewN n3) from ⟨rfl, rfl, rfl, Nat.le_refl _, fun _ _ => rfl⟩)).setCell (Nat.le_of_lt hgb.out) _
    have HLS : Hid ((d.set i (y ^^^ tb)).length = d.length) := List.length_set
    generalize d.set i (y ^^^ tb) = d2 at *
    have rz := Rd.own hR
    unfold u8v at rz BE
    rw [UInt8.toNat_xor] at rz BE
    clear hR OD hxo
    go_wp2
    go_ret
    exact ⟨some ⟨g, 0, none⟩, qd, d2, by rw [HLS.out]; rfl, rz, BE⟩
  · have d0 : (k == 0) = false := by rw [beq_eq_false_iff_ne]; exact h0
    by_cases h1 : k = 1
    · subst h1
      go_wp2_with fail
      refine (l1Next_c w.heap.size p q cs (t2 + 1) (d.length : Int) W3 HS2 (by have := ht2.out; omega) (by have := ht2.out; omega) (by have := HD.out; omega) (by have := HD.out; omega)).mono ?_
      rintro e W4 ⟨i, rfl, hi1, hi2, hs2, hg⟩
      replace OD := OD.other hg (fun k hk e => by have h3 := OD.ge k hk; have h1 := hbV.out; simp at e; omega)
      replace BW := BW.grown hg (by have h1 := BW.size; exact h1) (fun k hk => by simp at hk; omega)
      clear HS2 hg
      have HS2 := hs2
      clear hs2
      obtain ⟨i, rfl⟩ := Int.eq_ofNat_of_zero_le hi1
      have hil : i ≤ d.length := by omega
      have hqd := (Rd.own OD).1
      have hqd2 : qd ≤ 2 ^ 63 - 1 := (Rd.own OD).2.1
      have rz := (Rd.own OD).take i
      have HLT : Hid ((d.take i).length = i) := by show _ = _; rw [List.length_take]; omega
      clear OD HS2
      go_wp2_with fail
      go_ret
      exact ⟨pd, qd, d.take i, by rw [HLT.out]; rfl, rz, BW⟩
    · have d1 : (k == 1) = false := by rw [beq_eq_false_iff_ne]; exact h1
      have rz := Rd.own OD
      clear OD HS2
      go_wp2_with fail
      go_ret
      exact ⟨pd, qd, d, rfl, rz, BW⟩
end Go.Proofs.YtflhoefocjmihaaGreatDoor

