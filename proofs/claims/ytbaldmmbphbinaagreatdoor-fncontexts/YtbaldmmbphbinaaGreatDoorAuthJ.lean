/- Chapter 13 of the program: AuthDigest and MakeAuth, at every argument, where the two tables hold what the program's text lays (Tabs). What was there stays. -/
import Derived.Test.YtbaldmmbphbinaaGreatDoorAuthI
import Derived.Test.YtbaldmmbphbinaaGreatDoorJoint1
namespace Go.Proofs.YtbaldmmbphbinaaGreatDoor
open Go.ChangeShapes Go.WideShapes Go.ChangeAt Go.RowKit

set_option maxRecDepth 4000 in
set_option maxHeartbeats 2000000 in
theorem implAd_c (p p2 : Option Addr) (q q2 : Nat) (x ctx : List UInt8) (r : Int) (c : CertD) (w : World) (hr : Rd w p q x) (hr2 : Rd w p2 q2 ctx) (hT : Tabs w) :
    Calls Tryz.prog 98 #[.slice p x.length q, .int .i64 r, .slice p2 ctx.length q2, .agg #[.int .i64 c.1, .int .i64 c.2.1, .int .i64 c.2.2]] w fun e w' => ∃ u, e = .returned (.agg #[.int .i64 (adD x r ctx c).1, u]) ∧ Own w' w.heap.size u (adD x r ctx c).2 ∧ Below w.heap.size w w' := by
  have BW := Below.mk (alloc_below w (.cells #[.int .i64 c.1, .int .i64 c.2.1, .int .i64 c.2.2] 62)) (.cells #[.int .i64 0, .slice none 0 0] 126)
  have A := (Arr.new w [.int .i64 c.1, .int .i64 c.2.1, .int .i64 c.2.2] 62).old _ (.cells #[.int .i64 0, .slice none 0 0] 126)
  have R := Arr.new (w.alloc (.cells #[.int .i64 c.1, .int .i64 c.2.1, .int .i64 c.2.2] 62)) [.int .i64 0, .slice none 0 0] 126
  rw [size_alloc] at R
  have KA : Hid _ := authFault_c p p2 q q2 x ctx r c ((w.alloc (.cells #[.int .i64 c.1, .int .i64 c.2.1, .int .i64 c.2.2] 62)).alloc (.cells #[.int .i64 0, .slice none 0 0] 126))
  by_cases h0 : adC x r ctx c = 0
  · rw [show adD x r ctx c = (0, dgN x r ctx c) by rw [adD, if_pos h0]]
    obtain ⟨hk, hct, hoc⟩ := adC_ok h0
    have hcl := (ctxB_parts hct).2
    have HD : Hid (dgN x r ctx c = digestN (kyN x r false ++ [UInt8.ofNat ctx.length] ++ ctx ++ pcL c)) := rfl
    have KK : Hid (∀ W, Below w.heap.size w W → Calls Tryz.prog 118 #[.slice p x.length q, .int .i64 r, .bool false] W fun e w' => ∃ u, e = .returned (.agg #[.int .i64 0, u]) ∧ Own w' W.heap.size u (kyN x r false) ∧ Below W.heap.size W w') := fun W hb => by
      have g := implAk_c p q x r false W (hr.keep hb) (hT.keep hb)
      rw [show akD x r false = (0, kyN x r false) by rw [akD, if_pos hk]] at g
      exact g
    have KP : Hid (∀ W, Calls Tryz.prog 121 #[.agg #[.int .i64 c.1, .int .i64 c.2.1, .int .i64 c.2.2]] W fun e w' => ∃ u, e = .returned (.agg #[.int .i64 0, u]) ∧ Own w' W.heap.size u (pcL c) ∧ Below W.heap.size W w') := fun W => by
      have g := implPc_c c W
      rw [show pcD c = (0, pcL c) by simp [pcD, hoc]] at g
      exact g
    have HL1 : (kyN x r false).length = 32 := kyN_len _ _ _
    have HL2 : (pcL c).length ≤ 20 := by exact (show (4 : Nat) ≤ 20 by decide)
    obtain ⟨kk, HK⟩ : ∃ kk, Hid (kyN x r false = kk) := ⟨_, rfl⟩
    obtain ⟨pc, HP⟩ : ∃ pc, Hid (pcL c = pc) := ⟨_, rfl⟩
    rw [HK.out] at HD KK HL1
    rw [HP.out] at HD KP HL2
    obtain ⟨lb, HLB⟩ : ∃ lb, Hid (UInt8.ofNat ctx.length = lb) := ⟨_, rfl⟩
    have HCB : Hid (u8v lb = .int .u8 (ctx.length : Int)) := by show _ = _; rw [← HLB.out]; exact u8_of _ (by omega)
    rw [HLB.out] at HD
    have HJL : Hid ((kk ++ [lb] ++ ctx ++ pc).length ≤ 600) := by show _ ≤ _; simp; omega
    have KD : Hid (∀ (W : World) (a : Option Addr) (d : Nat), Below w.heap.size w W → Rd W a d (kk ++ [lb] ++ ctx ++ pc) → Calls Tryz.prog 119 #[.slice a (kk ++ [lb] ++ ctx ++ pc).length d] W fun e w' => ∃ u, e = .returned (.agg #[.int .i64 0, u]) ∧ Own w' W.heap.size u (dgN x r ctx c) ∧ Below W.heap.size W w') := fun W a d hb hra => by
      have g := implDg_c a d _ W hra (hT.keep hb)
      rw [show dgCode (kk ++ [lb] ++ ctx ++ pc) = 0 by simp only [dgCode, HJL.out, if_true], show dgList (kk ++ [lb] ++ ctx ++ pc) = dgN x r ctx c by rw [HD.out]; simp only [dgList, HJL.out, if_true]] at g
      exact g
    have KJ : Hid (∀ (W : World) (pk : Option Addr) (qk gl : Nat) (pb : Option Addr) (qb gb : Nat), Pcs W gb 0 [⟨pk, qk, kk⟩, ⟨some ⟨gl, 0, none⟩, 1, [lb]⟩, ⟨p2, q2, ctx⟩, ⟨pb, qb, pc⟩] → Calls Tryz.prog 120 #[.slice (some ⟨gb, 0, none⟩) 4 4] W fun e w' => ∃ u, e = .returned u ∧ Own w' W.heap.size u (kk ++ [lb] ++ ctx ++ pc) ∧ Below W.heap.size W w') := fun W pk qk gl pb qb gb hp => by
      have g := joined_c _ gb 0 4 W hp (by rw [flat_four]; exact Nat.le_trans HJL.out (by decide)) (by simp)
      rw [flat_four] at g
      exact g
    obtain ⟨js, HJS⟩ : ∃ js, Hid (kk ++ [lb] ++ ctx ++ pc = js) := ⟨_, rfl⟩
    rw [HJS.out] at KD KJ HJL
    obtain ⟨dg, HG⟩ : ∃ dg, Hid (dgN x r ctx c = dg) := ⟨_, rfl⟩
    rw [HG.out] at KD ⊢
    rw [h0] at KA
    have HR2 : Hid (Rd w p2 q2 ctx) := hr2
    clear hr hr2 hT hk hct hoc HD HL1 HL2 HK HP HG HJL HJS HLB h0
    go_enter Tryz.func98, Tryz.ntmps98
    go_wp2_with fail
    refine Calls.mono KA.out ?_
    rintro e w1 ⟨rfl, hb1⟩
    replace BW := Below.step BW hb1
    replace A := A.stay hb1
    replace R := R.stay hb1
    clear hb1 KA
    go_wp2_with fail
    refine (KK.out _ BW).mono ?_
    rintro e w2 ⟨u2, rfl, k2, hb2⟩
    obtain ⟨pk, qk, rfl, -⟩ := k2.rd
    have hz2 : Hid (w.heap.size + 1 < w2.heap.size) := Nat.lt_of_lt_of_le R.lt hb2.size
    have hl2 := alloc_below w2 (.cells #[.int .i64 0, .slice pk kk.length qk] 126)
    have L := Arr.new w2 [.int .i64 0, .slice pk kk.length qk] 126
    replace BW := Below.step (Below.step BW hb2) hl2
    replace A := (A.stay hb2).stay hl2
    replace R := (R.stay hb2).stay hl2
    have rk := (Rd.own k2).keep hl2
    clear hb2 hl2 KK k2
    go_wp2_with fail
    have hl3 := alloc_below (w2.alloc (.cells #[.int .i64 0, .slice pk kk.length qk] 126)) (.cells #[.int .u8 (ctx.length : Int)] 5)
    have rl := rd_new (w2.alloc (.cells #[.int .i64 0, .slice pk kk.length qk] 126)) [.int .u8 (ctx.length : Int)] [lb] 5 1 (by simp only [List.map_cons, List.map_nil]; rw [HCB.out]) rfl (by decide)
    rw [size_alloc] at rl
    replace BW := Below.step BW hl3
    replace A := A.stay hl3
    replace R := R.stay hl3
    replace L := L.stay hl3
    replace rk := rk.keep hl3
    have hz : Hid (w.heap.size + 1 < ((w2.alloc (.cells #[.int .i64 0, .slice pk kk.length qk] 126)).alloc (.cells #[.int .u8 (ctx.length : Int)] 5)).heap.size) := R.lt
    clear hl3 hz2 HCB
    generalize w2.heap.size + 1 = gl at *
    generalize w2.heap.size = gk at *
    generalize hV : ((w2.alloc (.cells #[.int .i64 0, .slice pk kk.length qk] 126)).alloc (.cells #[.int .u8 (ctx.length : Int)] 5)) = V at *
    clear hV
    have a0 := (A.cell 0).trans (show _ = some _ from rfl)
    have a1 := (A.cell 1).trans (show _ = some _ from rfl)
    have a2 := (A.cell 2).trans (show _ = some _ from rfl)
    have l1 := (L.cell 1).trans (show _ = some _ from rfl)
    clear A L
    have F1 := bytes_f1
    apply share
    case h =>
      intro JN
      have BB := Below.refl V.heap.size V
      have hne := HW.some V
      have g0 := HW.at (l1)
      have g1 := HW.at (a0)
      have g2 := HW.at (a1)
      have g3 := HW.at (a2)
      refine wp_region_pick [0, 1, 2, 3, 4] 10 5 1 rfl rfl rfl (by kernel_rfl) (by kernel_rfl) (by kernel_rfl) (by kernel_rfl) ?_
      simp only [opsAt, List.getElem?_toArray, List.getElem?_cons_zero, List.getElem?_cons_succ]
      repeat (go_big_quiet_step (fail))
      refine wpQuiet_nil ?_
      clear g0 g1 g2 g3
      refine wpM_only (i := 5) (by kernel_rfl) ?_
      refine mOp_call rfl (by go_simp) 121 _ #[.agg #[.int .i64 c.1, .int .i64 c.2.1, .int .i64 c.2.2]] (fun w => by go_simp) rfl ?_
      rintro _ ⟨sg, rfl⟩
      refine (KP.out _).mono ?_
      rintro e wg1 ⟨ub, rfl, kb, hbx⟩
      obtain ⟨pb, qb, rfl, -⟩ := kb.rd
      have hbg := Below.step sg.h hbx
      refine ⟨_, rfl, ⟨⟨wg1, hbx⟩, rfl⟩, ?_⟩
      have Rb := Rd.own kb
      replace BB := Below.step BB hbg
      clear hbg hbx sg kb
      replace hne := HW.some wg1
      refine wpM_more [6] 4 3 rfl (by kernel_rfl) (by kernel_rfl) (by kernel_rfl) (by kernel_rfl) ?_
      simp only [opsAt, List.getElem?_toArray, List.getElem?_cons_zero, List.getElem?_cons_succ]
      go_simp
      repeat (go_big_quiet_step (fail))
      refine wpQuiet_nil ?_
      refine wpM_only (i := 7) (by kernel_rfl) ?_
      refine mOp_make rfl (by go_simp) ?_
      rintro _ ⟨sg, rfl⟩
      refine ⟨.slice (some ⟨sg.w.heap.size, 0, none⟩) 4 4, sg.w.alloc (.cells #[.slice pk kk.length qk, .slice (some ⟨gl, 0, none⟩) 1 1, .slice p2 ctx.length q2, .slice pb pc.length qb] 22), by go_simp, ⟨⟨_, alloc_below _ _⟩, rfl⟩, ?_⟩
      have hbg := Below.step sg.h (alloc_below sg.w (.cells #[.slice pk kk.length qk, .slice (some ⟨gl, 0, none⟩) 1 1, .slice p2 ctx.length q2, .slice pb pc.length qb] 22))
      have Rc := (show Pcs (sg.w.alloc (.cells #[.slice pk kk.length qk, .slice (some ⟨gl, 0, none⟩) 1 1, .slice p2 ctx.length q2, .slice pb pc.length qb] 22)) sg.w.heap.size 0 [⟨pk, qk, kk⟩, ⟨some ⟨gl, 0, none⟩, 1, [lb]⟩, ⟨p2, q2, ctx⟩, ⟨pb, qb, pc⟩] from pcs_four sg.w ⟨pk, qk, kk⟩ ⟨some ⟨gl, 0, none⟩, 1, [lb]⟩ ⟨p2, q2, ctx⟩ ⟨pb, qb, pc⟩ 22 (rk.keep (Below.step BB sg.h)) (rl.keep (Below.step BB sg.h)) (HR2.out.keep (Below.step BW (Below.step BB sg.h))) (Rb.keep sg.h))
      replace Rb := Rb.keep hbg
      replace BB := Below.step BB hbg
      clear hbg
      replace hne := HW.some (sg.w.alloc (.cells #[.slice pk kk.length qk, .slice (some ⟨gl, 0, none⟩) 1 1, .slice p2 ctx.length q2, .slice pb pc.length qb] 22))
      generalize hW : (sg.w.alloc (.cells #[.slice pk kk.length qk, .slice (some ⟨gl, 0, none⟩) 1 1, .slice p2 ctx.length q2, .slice pb pc.length qb] 22)) = wg2 at *
      clear hW
      generalize sg.w.heap.size = gb at *
      clear sg
      refine wpM_only (i := 8) (by kernel_rfl) ?_
      refine mOp_call rfl (by go_simp) 120 _ #[.slice (some ⟨gb, 0, none⟩) 4 4] (fun w => by go_simp) rfl ?_
      rintro _ ⟨sg, rfl⟩
      refine (KJ.out _ _ _ _ _ _ _ (Pcs.keep Rc sg.h)).mono ?_
      rintro e wg3 ⟨uj, rfl, kj, hbx⟩
      obtain ⟨pj, qj, rfl, -⟩ := kj.rd
      have hbg := Below.step sg.h hbx
      refine ⟨_, rfl, ⟨⟨wg3, hbx⟩, rfl⟩, ?_⟩
      have Rj := Rd.own kj
      replace Rb := Rb.keep hbg
      replace Rc := Pcs.keep Rc hbg
      replace BB := Below.step BB hbg
      clear hbg hbx sg kj
      replace hne := HW.some wg3
      refine wpM_only (i := 9) (by kernel_rfl) ?_
      refine mOp_call rfl (by go_simp) 119 _ #[.slice pj js.length qj] (fun w => by go_simp) rfl ?_
      rintro _ ⟨sg, rfl⟩
      refine (KD.out _ _ _ (Below.step BW (Below.step BB sg.h)) (Rj.keep sg.h)).mono ?_
      rintro e wg4 ⟨ud, rfl, kd, hbx⟩
      obtain ⟨pd, qd, rfl, -⟩ := kd.rd
      have hbg := Below.step sg.h hbx
      refine ⟨_, rfl, ⟨⟨wg4, hbx⟩, rfl⟩, ?_⟩
      have Rd1 := (kd.lower (Below.step BB sg.h).size : Own _ V.heap.size _ _)
      replace Rb := Rb.keep hbg
      replace Rc := Pcs.keep Rc hbg
      replace Rj := Rj.keep hbg
      replace BB := Below.step BB hbg
      clear hbg hbx sg kd
      replace hne := HW.some wg4
      refine wpM_end (by kernel_rfl) rfl (by kernel_rfl) (by decide) ?_
      rintro _ ⟨sz, rfl⟩
      simp only [List.drop_succ_cons, List.drop_zero]
      go_simp
      replace Rb := Rb.keep sz.h
      replace Rc := Pcs.keep Rc sz.h
      replace Rj := Rj.keep sz.h
      replace Rd1 := Rd1.stay sz.h
      replace BB := Below.step BB sz.h
      clear hne
      generalize sz.w = W at *
      clear sz
      revert Rd1
      revert Rj
      revert Rc
      revert Rb
      revert BB
      revert qd
      revert pd
      revert qj
      revert pj
      revert gb
      revert qb
      revert pb
      revert W
      exact JN.out
    intro W pb qb gb pj qj pd qd BB Rb Rc Rj Rd1
    have R3 := R.stay BB
    have c0 := R3.cell 0
    have c1 := R3.cell 1
    have fz := R3.frozen
    simp at c0 c1
    replace BW := Below.step BW BB
    clear R R3 BB Rb Rc Rj KP KJ KD F1
    go_wp2
    refine bodyPost_ret (v := .agg #[.int .i64 0, .slice pd dg.length qd]) (by simp [results, Tryz.results98, go_sem, c0, c1]) rfl ⟨_, rfl, ?_, (BW.setCell (Nat.le_succ _) _).setCell (Nat.le_succ _) _⟩
    exact ((Rd1.set (a := ⟨w.heap.size + 1, 0, none⟩) hz.out _).set (a := ⟨w.heap.size + 1, 1, none⟩) hz.out _).lower (B' := w.heap.size) (by have := hz.out; omega)
  · rw [show adD x r ctx c = (adC x r ctx c, []) by rw [adD, if_neg h0]]
    obtain ⟨k, HK⟩ : ∃ k, Hid (adC x r ctx c = k) := ⟨_, rfl⟩
    rw [HK.out] at KA h0 ⊢
    have hd : (k != 0) = true := by rw [bne_iff_ne]; exact h0
    clear HK hr hr2 hT A h0
    go_enter Tryz.func98, Tryz.ntmps98
    go_wp2_with fail
    refine Calls.mono KA.out ?_
    rintro e w1 ⟨rfl, hb1⟩
    replace BW := Below.step BW hb1
    replace R := R.stay hb1
    have c0 := R.cell 0
    have c1 := R.cell 1
    have fz := R.frozen
    simp at c0 c1
    clear R hb1 KA
    go_wp2
    exact bodyPost_ret (v := .agg #[.int .i64 k, .slice none 0 0]) (by simp [results, Tryz.results98, go_sem, c0, c1]) rfl ⟨_, rfl, Own_nil _ _, (BW.setCell (Nat.le_succ _) _).setCell (Nat.le_succ _) _⟩
theorem fl_int {n : Int} (h0 : 0 ≤ n) (h1 : n ≤ 39) : floatToIntVal .f64 (floatOfInt .f64 n) .i64 = some n := by
  have h : ∀ m : Fin 40, floatToIntVal .f64 (floatOfInt .f64 (m.val : Int)) .i64 = some (m.val : Int) := by decide +kernel
  obtain ⟨m, rfl⟩ : ∃ m : Nat, n = m := ⟨n.toNat, by omega⟩
  exact h ⟨m, by omega⟩
theorem standOf_c (r place : Int) (w : World) : Calls Tryz.prog 124 #[.int .i64 r, .int .i64 place] w fun e w' => e = .returned (.complex .f64 (floatOfInt .f64 r) (floatOfInt .f64 place)) ∧ w' = w := by
  go_enter Tryz.func124, Tryz.ntmps124
  go_wp2
  go_ret
  exact ⟨rfl, rfl⟩
theorem roleIn_c (a b : Nat) (r : Int) (w : World) (h : floatToIntVal .f64 a .i64 = some r) : Calls Tryz.prog 141 #[.complex .f64 a b] w fun e w' => e = .returned (.int .i64 r) ∧ w' = w := by
  have hc : ∀ w, (convert 179 2 (.float .f64 a)).run Tryz.prog w = .ok (.int .i64 r) w := fun w => run_convert_float_int w 179 2 .f64 .i64 a r (by rw [Tryz.underlying179]; rfl) Tryz.underlying2 h
  go_enter Tryz.func141, Tryz.ntmps141
  go_wp2_with (simp only [hc])
  go_ret
  exact ⟨rfl, rfl⟩
theorem placeIn_c (a b : Nat) (r : Int) (w : World) (h : floatToIntVal .f64 b .i64 = some r) : Calls Tryz.prog 142 #[.complex .f64 a b] w fun e w' => e = .returned (.int .i64 r) ∧ w' = w := by
  have hc : ∀ w, (convert 179 2 (.float .f64 b)).run Tryz.prog w = .ok (.int .i64 r) w := fun w => run_convert_float_int w 179 2 .f64 .i64 b r (by rw [Tryz.underlying179]; rfl) Tryz.underlying2 h
  go_enter Tryz.func142, Tryz.ntmps142
  go_wp2_with (simp only [hc])
  go_ret
  exact ⟨rfl, rfl⟩
set_option maxRecDepth 4000 in
set_option maxHeartbeats 2000000 in
theorem packAuth_c (p p2 : Option Addr) (q q2 : Nat) (x ctx : List UInt8) (r place : Int) (c : CertD) (fa fb : Nat) (w : World) (hr : Rd w p q x) (hr2 : Rd w p2 q2 ctx) (hT : Tabs w) (h0 : adC x r ctx c = 0) (hp0 : 0 ≤ place) (hp1 : place ≤ 39) (hfa : floatToIntVal .f64 fa .i64 = some r) (hfb : floatToIntVal .f64 fb .i64 = some place) :
    Calls Tryz.prog 123 #[.slice p x.length q, .complex .f64 fa fb, .slice p2 ctx.length q2, .agg #[.int .i64 c.1, .int .i64 c.2.1, .int .i64 c.2.2]] w fun e w' => ∃ u, e = .returned (.agg #[.int .i64 0, u]) ∧ Own w' w.heap.size u (mkN x r ctx c place) ∧ Below w.heap.size w w' := by
  have BW := Below.mk (alloc_below w (.cells #[.int .i64 c.1, .int .i64 c.2.1, .int .i64 c.2.2] 62)) (.cells #[.int .i64 0, .slice none 0 0] 126)
  have A := (Arr.new w [.int .i64 c.1, .int .i64 c.2.1, .int .i64 c.2.2] 62).old _ (.cells #[.int .i64 0, .slice none 0 0] 126)
  have R := Arr.new (w.alloc (.cells #[.int .i64 c.1, .int .i64 c.2.1, .int .i64 c.2.2] 62)) [.int .i64 0, .slice none 0 0] 126
  rw [size_alloc] at R
  obtain ⟨hk, hct, hoc⟩ := adC_ok h0
  have hcl := (ctxB_parts hct).2
  have KR1 : Hid _ := roleIn_c fa fb r ((w.alloc (.cells #[.int .i64 c.1, .int .i64 c.2.1, .int .i64 c.2.2] 62)).alloc (.cells #[.int .i64 0, .slice none 0 0] 126)) hfa
  have KR2 : Hid _ := placeIn_c fa fb place ((w.alloc (.cells #[.int .i64 c.1, .int .i64 c.2.1, .int .i64 c.2.2] 62)).alloc (.cells #[.int .i64 0, .slice none 0 0] 126)) hfb
  have KG : Hid (∀ W, Below w.heap.size w W → Calls Tryz.prog 98 #[.slice p x.length q, .int .i64 r, .slice p2 ctx.length q2, .agg #[.int .i64 c.1, .int .i64 c.2.1, .int .i64 c.2.2]] W fun e w' => ∃ u, e = .returned (.agg #[.int .i64 0, u]) ∧ Own w' W.heap.size u (dgN x r ctx c) ∧ Below W.heap.size W w') := fun W hb => by
    have g := implAd_c p p2 q q2 x ctx r c W (hr.keep hb) (hr2.keep hb) (hT.keep hb)
    rw [show adD x r ctx c = (0, dgN x r ctx c) by rw [adD, if_pos h0]] at g
    exact g
  have KK : Hid (∀ W, Below w.heap.size w W → Calls Tryz.prog 118 #[.slice p x.length q, .int .i64 r, .bool true] W fun e w' => ∃ u, e = .returned (.agg #[.int .i64 0, u]) ∧ Own w' W.heap.size u (kyN x r true) ∧ Below W.heap.size W w') := fun W hb => by
    have g := implAk_c p q x r true W (hr.keep hb) (hT.keep hb)
    rw [show akD x r true = (0, kyN x r true) by rw [akD, if_pos hk]] at g
    exact g
  have KP : Hid (∀ W, Calls Tryz.prog 121 #[.agg #[.int .i64 c.1, .int .i64 c.2.1, .int .i64 c.2.2]] W fun e w' => ∃ u, e = .returned (.agg #[.int .i64 0, u]) ∧ Own w' W.heap.size u (pcL c) ∧ Below W.heap.size W w') := fun W => by
    have g := implPc_c c W
    rw [show pcD c = (0, pcL c) by simp [pcD, hoc]] at g
    exact g
  have HMK : Hid (mkN x r ctx c place = blksN [ctx, pcL c, [UInt8.ofNat place.toNat], mcN x r ctx c place]) := rfl
  have HMC : Hid (mcN x r ctx c place = macN (kyN x r true) (dgN x r ctx c ++ [UInt8.ofNat place.toNat])) := rfl
  have HL4 : Hid ((blksN [ctx, pcL c, [UInt8.ofNat place.toNat], mcN x r ctx c place]).length ≤ 61) := by show _ ≤ _; rw [four_len _ _ _ (mcN_len _ _ _ _ _)]; omega
  have HL1 : (kyN x r true).length = 32 := kyN_len _ _ _
  have HL2 : (pcL c).length ≤ 20 := by exact (show (4 : Nat) ≤ 20 by decide)
  have HL3 : (dgN x r ctx c).length = 32 := dgN_len _ _ _ _
  have HL5 : (mcN x r ctx c place).length = 32 := mcN_len _ _ _ _ _
  obtain ⟨kk, HK⟩ : ∃ kk, Hid (kyN x r true = kk) := ⟨_, rfl⟩
  obtain ⟨pc, HP⟩ : ∃ pc, Hid (pcL c = pc) := ⟨_, rfl⟩
  obtain ⟨dg, HG⟩ : ∃ dg, Hid (dgN x r ctx c = dg) := ⟨_, rfl⟩
  obtain ⟨mc, HM⟩ : ∃ mc, Hid (mcN x r ctx c place = mc) := ⟨_, rfl⟩
  obtain ⟨lb, HLB⟩ : ∃ lb, Hid (UInt8.ofNat place.toNat = lb) := ⟨_, rfl⟩
  have HCB : Hid (u8v lb = .int .u8 place) := by show _ = _; rw [← HLB.out, u8_of _ (by omega)]; congr 1; omega
  rw [HK.out] at KK HMC HL1
  rw [HP.out] at KP HMK HL2 HL4
  rw [HG.out] at KG HMC HL3
  rw [HM.out] at HMC HMK HL4 HL5
  rw [HLB.out] at HMC HMK HL4
  have KJ : Hid (∀ (W : World) (pd : Option Addr) (qd gl gb : Nat), Pcs W gb 0 [⟨pd, qd, dg⟩, ⟨some ⟨gl, 0, none⟩, 1, [lb]⟩] → Calls Tryz.prog 120 #[.slice (some ⟨gb, 0, none⟩) 2 2] W fun e w' => ∃ u, e = .returned u ∧ Own w' W.heap.size u (dg ++ [lb]) ∧ Below W.heap.size W w') := fun W pd qd gl gb hp => by
    have g := joined_c _ gb 0 2 W hp (by rw [flat_two]; simp; omega) (by simp)
    rw [flat_two] at g
    exact g
  have KM : Hid (∀ (W : World) (a : Option Addr) (d : Nat) (a2 : Option Addr) (d2 : Nat), Below w.heap.size w W → Rd W a d kk → Rd W a2 d2 (dg ++ [lb]) → Calls Tryz.prog 143 #[.slice a kk.length d, .slice a2 (dg ++ [lb]).length d2] W fun e w' => ∃ u, e = .returned (.agg #[.int .i64 0, u]) ∧ Own w' W.heap.size u mc ∧ Below W.heap.size W w') := fun W a d a2 d2 hb h1 h2 => by
    have g := implMac_c a a2 d d2 kk (dg ++ [lb]) W h1 h2 (hT.keep hb)
    have hm : macOk kk (dg ++ [lb]) = true := by simp [macOk, keyB, dataB]; omega
    rw [show macC kk (dg ++ [lb]) = 0 by simp [macC, hm], show macL kk (dg ++ [lb]) = mc by rw [HMC.out]; simp [macL, hm]] at g
    exact g
  have KB : Hid (∀ (W : World) (gc d : Nat), RdL bytC W (some ⟨gc, 0, none⟩) d [ctx, pc, [lb], mc] → Calls Tryz.prog 144 #[.slice (some ⟨gc, 0, none⟩) 4 d] W fun e w' => ∃ u, e = .returned (.agg #[.int .i64 0, u]) ∧ Own w' W.heap.size u (mkN x r ctx c place) ∧ Below W.heap.size W w') := fun W gc d h => by
    have g := implPB_c [ctx, pc, [lb], mc] (some ⟨gc, 0, none⟩) d W h
    have hz : pbC [ctx, pc, [lb], mc] = 0 := by
      unfold pbC
      rw [if_pos ⟨by simp, by simp only [okBl, List.all_cons, List.all_nil, Bool.and_true, Bool.and_eq_true, decide_eq_true_eq, List.length_singleton]; omega, Nat.le_trans HL4.out (by decide)⟩]
    rw [hz, show pbL [ctx, pc, [lb], mc] = mkN x r ctx c place by rw [pbL, if_pos hz, HMK.out]] at g
    exact g
  obtain ⟨js, HJS⟩ : ∃ js, Hid (dg ++ [lb] = js) := ⟨_, rfl⟩
  rw [HJS.out] at KM KJ
  obtain ⟨mk, HMM⟩ : ∃ mk, Hid (mkN x r ctx c place = mk) := ⟨_, rfl⟩
  rw [HMM.out] at KB ⊢
  have HR2 : Hid (Rd w p2 q2 ctx) := hr2
  clear hr hr2 hT hk hct hoc HMK HMC HL1 HL2 HL3 HL4 HL5 HK HP HG HM HJS HMM HLB h0 hcl hfa hfb
  go_enter Tryz.func123, Tryz.ntmps123
  go_wp2_with fail
  refine Calls.mono KR1.out ?_
  rintro e w1 ⟨rfl, hw⟩
  subst hw
  go_wp2_with fail
  refine Calls.mono KR2.out ?_
  rintro e w1 ⟨rfl, hw⟩
  subst hw
  have hl1 := alloc_below ((w.alloc (.cells #[.int .i64 c.1, .int .i64 c.2.1, .int .i64 c.2.2] 62)).alloc (.cells #[.int .i64 0, .slice none 0 0] 126)) (.cells #[.int .u8 place] 5)
  have rl := rd_new ((w.alloc (.cells #[.int .i64 c.1, .int .i64 c.2.1, .int .i64 c.2.2] 62)).alloc (.cells #[.int .i64 0, .slice none 0 0] 126)) [.int .u8 place] [lb] 5 1 (by simp only [List.map_cons, List.map_nil]; rw [HCB.out]) rfl (by decide)
  simp only [size_alloc] at rl
  replace BW := Below.step BW hl1
  replace A := A.stay hl1
  replace R := R.stay hl1
  clear hl1 KR1 KR2 HCB
  go_wp2_with fail
  refine (KG.out _ BW).mono ?_
  rintro e w2 ⟨u2, rfl, k2, hb2⟩
  obtain ⟨pd, qd, rfl, -⟩ := k2.rd
  have hl2 := alloc_below w2 (.cells #[.int .i64 0, .slice pd dg.length qd] 126)
  have L := Arr.new w2 [.int .i64 0, .slice pd dg.length qd] 126
  replace BW := Below.step (Below.step BW hb2) hl2
  replace A := (A.stay hb2).stay hl2
  replace R := (R.stay hb2).stay hl2
  replace rl := (rl.keep hb2).keep hl2
  have rd := (Rd.own k2).keep hl2
  clear hb2 hl2 KG k2
  go_wp2_with fail
  refine (KK.out _ BW).mono ?_
  rintro e w3 ⟨u3, rfl, k3, hb3⟩
  obtain ⟨pk, qk, rfl, -⟩ := k3.rd
  have hl3 := alloc_below w3 (.cells #[.int .i64 0, .slice pk kk.length qk] 126)
  have N := Arr.new w3 [.int .i64 0, .slice pk kk.length qk] 126
  replace BW := Below.step (Below.step BW hb3) hl3
  replace A := (A.stay hb3).stay hl3
  replace R := (R.stay hb3).stay hl3
  replace L := (L.stay hb3).stay hl3
  replace rl := (rl.keep hb3).keep hl3
  replace rd := (rd.keep hb3).keep hl3
  have rk := (Rd.own k3).keep hl3
  clear hb3 hl3 KK k3
  go_wp2_with fail
  generalize w.heap.size + 1 + 1 = gl at *
  generalize w2.heap.size = gd at *
  generalize w3.heap.size = gk at *
  generalize hV : w3.alloc (.cells #[.int .i64 0, .slice pk kk.length qk] 126) = V at *
  clear hV
  have l1 := (L.cell 1).trans (show _ = some _ from rfl)
  have n1 := (N.cell 1).trans (show _ = some _ from rfl)
  clear L N
  have F1 := bytes_f1
  apply share
  case h =>
    intro JN
    have BB := Below.refl V.heap.size V
    have hne := HW.some V
    have g0 := HW.at (n1)
    have g1 := HW.at (l1)
    refine wp_region_pick [0, 1, 2, 3, 4] 9 4 1 rfl rfl rfl (by kernel_rfl) (by kernel_rfl) (by kernel_rfl) (by kernel_rfl) ?_
    simp only [opsAt, List.getElem?_toArray, List.getElem?_cons_zero, List.getElem?_cons_succ]
    repeat (go_big_quiet_step (fail))
    refine wpQuiet_nil ?_
    clear g0 g1
    refine wpM_two (i := 5) (j := 8) (by kernel_rfl) ?_ ?_
    · skip
      refine mOp_make rfl (by go_simp) ?_
      rintro _ ⟨sg, rfl⟩
      refine ⟨.slice (some ⟨sg.w.heap.size, 0, none⟩) 2 2, sg.w.alloc (.cells #[.slice pd dg.length qd, .slice (some ⟨gl, 0, none⟩) 1 1] 22), by go_simp, ⟨⟨_, alloc_below _ _⟩, rfl⟩, ?_⟩
      have hbg := Below.step sg.h (alloc_below sg.w (.cells #[.slice pd dg.length qd, .slice (some ⟨gl, 0, none⟩) 1 1] 22))
      have Rc := (show Pcs (sg.w.alloc (.cells #[.slice pd dg.length qd, .slice (some ⟨gl, 0, none⟩) 1 1] 22)) sg.w.heap.size 0 [⟨pd, qd, dg⟩, ⟨some ⟨gl, 0, none⟩, 1, [lb]⟩] from pcs_two sg.w ⟨pd, qd, dg⟩ ⟨some ⟨gl, 0, none⟩, 1, [lb]⟩ 22 (rd.keep (Below.step BB sg.h)) (rl.keep (Below.step BB sg.h)))
      replace BB := Below.step BB hbg
      clear hbg
      replace hne := HW.some (sg.w.alloc (.cells #[.slice pd dg.length qd, .slice (some ⟨gl, 0, none⟩) 1 1] 22))
      generalize hW : (sg.w.alloc (.cells #[.slice pd dg.length qd, .slice (some ⟨gl, 0, none⟩) 1 1] 22)) = wg1 at *
      clear hW
      generalize sg.w.heap.size = gb at *
      clear sg
      refine wpM_two (i := 6) (j := 8) (by kernel_rfl) ?_ ?_
      · skip
        refine mOp_call rfl (by go_simp) 120 _ #[.slice (some ⟨gb, 0, none⟩) 2 2] (fun w => by go_simp) rfl ?_
        rintro _ ⟨sg, rfl⟩
        refine (KJ.out _ _ _ _ _ (Pcs.keep Rc sg.h)).mono ?_
        rintro e wg2 ⟨uj, rfl, kj, hbx⟩
        obtain ⟨pj, qj, rfl, -⟩ := kj.rd
        have hbg := Below.step sg.h hbx
        refine ⟨_, rfl, ⟨⟨wg2, hbx⟩, rfl⟩, ?_⟩
        have Rj := Rd.own kj
        replace Rc := Pcs.keep Rc hbg
        replace BB := Below.step BB hbg
        clear hbg hbx sg kj
        replace hne := HW.some wg2
        refine wpM_two (i := 7) (j := 8) (by kernel_rfl) ?_ ?_
        · skip
          refine mOp_call rfl (by go_simp) 143 _ #[.slice pk kk.length qk, .slice pj js.length qj] (fun w => by go_simp) rfl ?_
          rintro _ ⟨sg, rfl⟩
          refine (KM.out _ _ _ _ _ (Below.step BW (Below.step BB sg.h)) (rk.keep (Below.step BB sg.h)) (Rj.keep sg.h)).mono ?_
          rintro e wg3 ⟨um, rfl, km, hbx⟩
          obtain ⟨pm, qm, rfl, -⟩ := km.rd
          have hbg := Below.step sg.h hbx
          refine ⟨_, rfl, ⟨⟨wg3, hbx⟩, rfl⟩, ?_⟩
          have Km := (km.lower (Below.step BB sg.h).size : Own _ V.heap.size _ _)
          replace Rc := Pcs.keep Rc hbg
          replace Rj := Rj.keep hbg
          replace BB := Below.step BB hbg
          clear hbg hbx sg km
          replace hne := HW.some wg3
          refine wpM_only (i := 8) (by kernel_rfl) ?_
          refine mOp_make rfl (by go_simp) ?_
          rintro _ ⟨sg, rfl⟩
          refine ⟨.pointer (some ⟨sg.w.heap.size, 0, none⟩), sg.w.alloc (.cells #[.int .i64 0, .slice none 0 0] 126), by go_simp, ⟨⟨_, alloc_below _ _⟩, rfl⟩, ?_⟩
          have hbg := Below.step sg.h (alloc_below sg.w (.cells #[.int .i64 0, .slice none 0 0] 126))
          have AZ := Arr.new sg.w [.int .i64 0, .slice none 0 0] 126
          have GZ := (show Hid (V.heap.size ≤ sg.w.heap.size) from (Below.step BB sg.h).size)
          have NEm := (show ∀ k, (Value.slice pm mc.length qm).ownBlock = some k → k ≠ sg.w.heap.size from fun k h e => by have h1 := Km.lt k h; have h2 := sg.h.size; omega)
          replace Rc := Pcs.keep Rc hbg
          replace Rj := Rj.keep hbg
          replace Km := Km.stay hbg
          replace BB := Below.step BB hbg
          clear hbg
          replace hne := HW.some (sg.w.alloc (.cells #[.int .i64 0, .slice none 0 0] 126))
          generalize hW : (sg.w.alloc (.cells #[.int .i64 0, .slice none 0 0] 126)) = wg4 at *
          clear hW
          generalize sg.w.heap.size = gz at *
          clear sg
          refine wpM_end (by kernel_rfl) rfl (by kernel_rfl) (by decide) ?_
          rintro _ ⟨sz, rfl⟩
          simp only [List.drop_succ_cons, List.drop_zero]
          go_simp
          replace Rc := Pcs.keep Rc sz.h
          replace Rj := Rj.keep sz.h
          replace Km := Km.stay sz.h
          replace AZ := AZ.stay sz.h
          replace BB := Below.step BB sz.h
          clear hne
          generalize sz.w = W at *
          clear sz
          revert NEm
          revert GZ
          revert AZ
          revert Km
          revert Rj
          revert Rc
          revert BB
          revert gz
          revert qm
          revert pm
          revert qj
          revert pj
          revert gb
          revert W
          exact JN.out
        · skip
          refine mOp_make rfl (by go_simp) ?_
          rintro _ ⟨sg, rfl⟩
          refine ⟨.pointer (some ⟨sg.w.heap.size, 0, none⟩), sg.w.alloc (.cells #[.int .i64 0, .slice none 0 0] 126), by go_simp, ⟨⟨_, alloc_below _ _⟩, rfl⟩, ?_⟩
          have hbg := Below.step sg.h (alloc_below sg.w (.cells #[.int .i64 0, .slice none 0 0] 126))
          have AZ := Arr.new sg.w [.int .i64 0, .slice none 0 0] 126
          have GZ := (show Hid (V.heap.size ≤ sg.w.heap.size) from (Below.step BB sg.h).size)
          replace Rc := Pcs.keep Rc hbg
          replace Rj := Rj.keep hbg
          replace BB := Below.step BB hbg
          clear hbg
          replace hne := HW.some (sg.w.alloc (.cells #[.int .i64 0, .slice none 0 0] 126))
          generalize hW : (sg.w.alloc (.cells #[.int .i64 0, .slice none 0 0] 126)) = wg5 at *
          clear hW
          generalize sg.w.heap.size = gz at *
          clear sg
          refine wpM_only (i := 7) (by kernel_rfl) ?_
          refine mOp_call rfl (by go_simp) 143 _ #[.slice pk kk.length qk, .slice pj js.length qj] (fun w => by go_simp) rfl ?_
          rintro _ ⟨sg, rfl⟩
          refine (KM.out _ _ _ _ _ (Below.step BW (Below.step BB sg.h)) (rk.keep (Below.step BB sg.h)) (Rj.keep sg.h)).mono ?_
          rintro e wg6 ⟨um, rfl, km, hbx⟩
          obtain ⟨pm, qm, rfl, -⟩ := km.rd
          have hbg := Below.step sg.h hbx
          refine ⟨_, rfl, ⟨⟨wg6, hbx⟩, rfl⟩, ?_⟩
          have Km := (km.lower (Below.step BB sg.h).size : Own _ V.heap.size _ _)
          have NEm := (show ∀ k, (Value.slice pm mc.length qm).ownBlock = some k → k ≠ gz from fun k h e => by have h1 := km.ge k h; have h2 := AZ.lt; have h3 := sg.h.size; omega)
          replace Rc := Pcs.keep Rc hbg
          replace Rj := Rj.keep hbg
          replace AZ := AZ.stay hbg
          replace BB := Below.step BB hbg
          clear hbg hbx sg km
          replace hne := HW.some wg6
          refine wpM_end (by kernel_rfl) rfl (by kernel_rfl) (by decide) ?_
          rintro _ ⟨sz, rfl⟩
          simp only [List.drop_succ_cons, List.drop_zero]
          go_simp
          replace Rc := Pcs.keep Rc sz.h
          replace Rj := Rj.keep sz.h
          replace AZ := AZ.stay sz.h
          replace Km := Km.stay sz.h
          replace BB := Below.step BB sz.h
          clear hne
          generalize sz.w = W at *
          clear sz
          revert NEm
          revert GZ
          revert AZ
          revert Km
          revert Rj
          revert Rc
          revert BB
          revert gz
          revert qm
          revert pm
          revert qj
          revert pj
          revert gb
          revert W
          exact JN.out
      · skip
        refine mOp_make rfl (by go_simp) ?_
        rintro _ ⟨sg, rfl⟩
        refine ⟨.pointer (some ⟨sg.w.heap.size, 0, none⟩), sg.w.alloc (.cells #[.int .i64 0, .slice none 0 0] 126), by go_simp, ⟨⟨_, alloc_below _ _⟩, rfl⟩, ?_⟩
        have hbg := Below.step sg.h (alloc_below sg.w (.cells #[.int .i64 0, .slice none 0 0] 126))
        have AZ := Arr.new sg.w [.int .i64 0, .slice none 0 0] 126
        have GZ := (show Hid (V.heap.size ≤ sg.w.heap.size) from (Below.step BB sg.h).size)
        replace Rc := Pcs.keep Rc hbg
        replace BB := Below.step BB hbg
        clear hbg
        replace hne := HW.some (sg.w.alloc (.cells #[.int .i64 0, .slice none 0 0] 126))
        generalize hW : (sg.w.alloc (.cells #[.int .i64 0, .slice none 0 0] 126)) = wg7 at *
        clear hW
        generalize sg.w.heap.size = gz at *
        clear sg
        refine wpM_only (i := 6) (by kernel_rfl) ?_
        refine mOp_call rfl (by go_simp) 120 _ #[.slice (some ⟨gb, 0, none⟩) 2 2] (fun w => by go_simp) rfl ?_
        rintro _ ⟨sg, rfl⟩
        refine (KJ.out _ _ _ _ _ (Pcs.keep Rc sg.h)).mono ?_
        rintro e wg8 ⟨uj, rfl, kj, hbx⟩
        obtain ⟨pj, qj, rfl, -⟩ := kj.rd
        have hbg := Below.step sg.h hbx
        refine ⟨_, rfl, ⟨⟨wg8, hbx⟩, rfl⟩, ?_⟩
        have Rj := Rd.own kj
        replace Rc := Pcs.keep Rc hbg
        replace AZ := AZ.stay hbg
        replace BB := Below.step BB hbg
        clear hbg hbx sg kj
        replace hne := HW.some wg8
        refine wpM_only (i := 7) (by kernel_rfl) ?_
        refine mOp_call rfl (by go_simp) 143 _ #[.slice pk kk.length qk, .slice pj js.length qj] (fun w => by go_simp) rfl ?_
        rintro _ ⟨sg, rfl⟩
        refine (KM.out _ _ _ _ _ (Below.step BW (Below.step BB sg.h)) (rk.keep (Below.step BB sg.h)) (Rj.keep sg.h)).mono ?_
        rintro e wg9 ⟨um, rfl, km, hbx⟩
        obtain ⟨pm, qm, rfl, -⟩ := km.rd
        have hbg := Below.step sg.h hbx
        refine ⟨_, rfl, ⟨⟨wg9, hbx⟩, rfl⟩, ?_⟩
        have Km := (km.lower (Below.step BB sg.h).size : Own _ V.heap.size _ _)
        have NEm := (show ∀ k, (Value.slice pm mc.length qm).ownBlock = some k → k ≠ gz from fun k h e => by have h1 := km.ge k h; have h2 := AZ.lt; have h3 := sg.h.size; omega)
        replace Rc := Pcs.keep Rc hbg
        replace AZ := AZ.stay hbg
        replace Rj := Rj.keep hbg
        replace BB := Below.step BB hbg
        clear hbg hbx sg km
        replace hne := HW.some wg9
        refine wpM_end (by kernel_rfl) rfl (by kernel_rfl) (by decide) ?_
        rintro _ ⟨sz, rfl⟩
        simp only [List.drop_succ_cons, List.drop_zero]
        go_simp
        replace Rc := Pcs.keep Rc sz.h
        replace AZ := AZ.stay sz.h
        replace Rj := Rj.keep sz.h
        replace Km := Km.stay sz.h
        replace BB := Below.step BB sz.h
        clear hne
        generalize sz.w = W at *
        clear sz
        revert NEm
        revert GZ
        revert AZ
        revert Km
        revert Rj
        revert Rc
        revert BB
        revert gz
        revert qm
        revert pm
        revert qj
        revert pj
        revert gb
        revert W
        exact JN.out
    · skip
      refine mOp_make rfl (by go_simp) ?_
      rintro _ ⟨sg, rfl⟩
      refine ⟨.pointer (some ⟨sg.w.heap.size, 0, none⟩), sg.w.alloc (.cells #[.int .i64 0, .slice none 0 0] 126), by go_simp, ⟨⟨_, alloc_below _ _⟩, rfl⟩, ?_⟩
      have hbg := Below.step sg.h (alloc_below sg.w (.cells #[.int .i64 0, .slice none 0 0] 126))
      have AZ := Arr.new sg.w [.int .i64 0, .slice none 0 0] 126
      have GZ := (show Hid (V.heap.size ≤ sg.w.heap.size) from (Below.step BB sg.h).size)
      replace BB := Below.step BB hbg
      clear hbg
      replace hne := HW.some (sg.w.alloc (.cells #[.int .i64 0, .slice none 0 0] 126))
      generalize hW : (sg.w.alloc (.cells #[.int .i64 0, .slice none 0 0] 126)) = wg10 at *
      clear hW
      generalize sg.w.heap.size = gz at *
      clear sg
      refine wpM_only (i := 5) (by kernel_rfl) ?_
      refine mOp_make rfl (by go_simp) ?_
      rintro _ ⟨sg, rfl⟩
      refine ⟨.slice (some ⟨sg.w.heap.size, 0, none⟩) 2 2, sg.w.alloc (.cells #[.slice pd dg.length qd, .slice (some ⟨gl, 0, none⟩) 1 1] 22), by go_simp, ⟨⟨_, alloc_below _ _⟩, rfl⟩, ?_⟩
      have hbg := Below.step sg.h (alloc_below sg.w (.cells #[.slice pd dg.length qd, .slice (some ⟨gl, 0, none⟩) 1 1] 22))
      have Rc := (show Pcs (sg.w.alloc (.cells #[.slice pd dg.length qd, .slice (some ⟨gl, 0, none⟩) 1 1] 22)) sg.w.heap.size 0 [⟨pd, qd, dg⟩, ⟨some ⟨gl, 0, none⟩, 1, [lb]⟩] from pcs_two sg.w ⟨pd, qd, dg⟩ ⟨some ⟨gl, 0, none⟩, 1, [lb]⟩ 22 (rd.keep (Below.step BB sg.h)) (rl.keep (Below.step BB sg.h)))
      replace AZ := AZ.stay hbg
      replace BB := Below.step BB hbg
      clear hbg
      replace hne := HW.some (sg.w.alloc (.cells #[.slice pd dg.length qd, .slice (some ⟨gl, 0, none⟩) 1 1] 22))
      generalize hW : (sg.w.alloc (.cells #[.slice pd dg.length qd, .slice (some ⟨gl, 0, none⟩) 1 1] 22)) = wg11 at *
      clear hW
      generalize sg.w.heap.size = gb at *
      clear sg
      refine wpM_only (i := 6) (by kernel_rfl) ?_
      refine mOp_call rfl (by go_simp) 120 _ #[.slice (some ⟨gb, 0, none⟩) 2 2] (fun w => by go_simp) rfl ?_
      rintro _ ⟨sg, rfl⟩
      refine (KJ.out _ _ _ _ _ (Pcs.keep Rc sg.h)).mono ?_
      rintro e wg12 ⟨uj, rfl, kj, hbx⟩
      obtain ⟨pj, qj, rfl, -⟩ := kj.rd
      have hbg := Below.step sg.h hbx
      refine ⟨_, rfl, ⟨⟨wg12, hbx⟩, rfl⟩, ?_⟩
      have Rj := Rd.own kj
      replace AZ := AZ.stay hbg
      replace Rc := Pcs.keep Rc hbg
      replace BB := Below.step BB hbg
      clear hbg hbx sg kj
      replace hne := HW.some wg12
      refine wpM_only (i := 7) (by kernel_rfl) ?_
      refine mOp_call rfl (by go_simp) 143 _ #[.slice pk kk.length qk, .slice pj js.length qj] (fun w => by go_simp) rfl ?_
      rintro _ ⟨sg, rfl⟩
      refine (KM.out _ _ _ _ _ (Below.step BW (Below.step BB sg.h)) (rk.keep (Below.step BB sg.h)) (Rj.keep sg.h)).mono ?_
      rintro e wg13 ⟨um, rfl, km, hbx⟩
      obtain ⟨pm, qm, rfl, -⟩ := km.rd
      have hbg := Below.step sg.h hbx
      refine ⟨_, rfl, ⟨⟨wg13, hbx⟩, rfl⟩, ?_⟩
      have Km := (km.lower (Below.step BB sg.h).size : Own _ V.heap.size _ _)
      have NEm := (show ∀ k, (Value.slice pm mc.length qm).ownBlock = some k → k ≠ gz from fun k h e => by have h1 := km.ge k h; have h2 := AZ.lt; have h3 := sg.h.size; omega)
      replace AZ := AZ.stay hbg
      replace Rc := Pcs.keep Rc hbg
      replace Rj := Rj.keep hbg
      replace BB := Below.step BB hbg
      clear hbg hbx sg km
      replace hne := HW.some wg13
      refine wpM_end (by kernel_rfl) rfl (by kernel_rfl) (by decide) ?_
      rintro _ ⟨sz, rfl⟩
      simp only [List.drop_succ_cons, List.drop_zero]
      go_simp
      replace AZ := AZ.stay sz.h
      replace Rc := Pcs.keep Rc sz.h
      replace Rj := Rj.keep sz.h
      replace Km := Km.stay sz.h
      replace BB := Below.step BB sz.h
      clear hne
      generalize sz.w = W at *
      clear sz
      revert NEm
      revert GZ
      revert AZ
      revert Km
      revert Rj
      revert Rc
      revert BB
      revert gz
      revert qm
      revert pm
      revert qj
      revert pj
      revert gb
      revert W
      exact JN.out
  intro W gb pj qj pm qm gz BB Rc Rj Km AZ GZ NEm
  have hres : Hid ((Tryz.prog.info? 126).map (·.size) = some 2) := by show _ = _; kernel_rfl
  refine wpList_store_row rfl 126 _ _ rfl gz #[.int .i64 0, .slice pm mc.length qm] rfl rfl 126 #[.int .i64 0, .slice none 0 0] AZ hres.out rfl (by simp [Value.oneCell']) ?_
  have hb : Below V.heap.size V (W.setRow gz #[.int .i64 0, .slice pm mc.length qm]) := Below.row BB GZ.out _
  have M := AZ.row [.int .i64 0, .slice pm mc.length qm]
  replace Km := Km.row NEm #[.int .i64 0, .slice pm mc.length qm]
  replace BW := Below.step BW hb
  replace A := A.stay hb
  replace R := R.stay hb
  replace rl := rl.keep hb
  clear BB AZ NEm GZ hb rd rk l1 n1 Rc Rj KM KJ
  generalize W.setRow gz #[.int .i64 0, .slice pm mc.length qm] = U at *
  go_simp
  have rm := Rd.own Km
  have hz : Hid (w.heap.size + 1 < U.heap.size) := R.lt
  have a0 := (A.cell 0).trans (show _ = some _ from rfl)
  have a1 := (A.cell 1).trans (show _ = some _ from rfl)
  have a2 := (A.cell 2).trans (show _ = some _ from rfl)
  have m1 := (M.cell 1).trans (show _ = some _ from rfl)
  clear A M Km
  go_wp2_with fail
  apply share
  case h =>
    intro JN
    have BB := Below.refl U.heap.size U
    have hne := HW.some U
    have g0 := HW.at (a0)
    have g1 := HW.at (a1)
    have g2 := HW.at (a2)
    have g3 := HW.at (m1)
    refine wp_region_pick [0, 1, 4, 5, 6] 9 4 1 rfl rfl rfl (by kernel_rfl) (by kernel_rfl) (by kernel_rfl) (by kernel_rfl) ?_
    simp only [opsAt, List.getElem?_toArray, List.getElem?_cons_zero, List.getElem?_cons_succ]
    repeat (go_big_quiet_step (fail))
    refine wpQuiet_nil ?_
    clear g0 g1 g2 g3
    refine wpM_only (i := 2) (by kernel_rfl) ?_
    refine mOp_call rfl (by go_simp) 121 _ #[.agg #[.int .i64 c.1, .int .i64 c.2.1, .int .i64 c.2.2]] (fun w => by go_simp) rfl ?_
    rintro _ ⟨sg, rfl⟩
    refine (KP.out _).mono ?_
    rintro e wg1 ⟨ub, rfl, kb, hbx⟩
    obtain ⟨pb, qb, rfl, -⟩ := kb.rd
    have hbg := Below.step sg.h hbx
    refine ⟨_, rfl, ⟨⟨wg1, hbx⟩, rfl⟩, ?_⟩
    have Rb := Rd.own kb
    replace BB := Below.step BB hbg
    clear hbg hbx sg kb
    replace hne := HW.some wg1
    refine wpM_more [3] 3 2 rfl (by kernel_rfl) (by kernel_rfl) (by kernel_rfl) (by kernel_rfl) ?_
    simp only [opsAt, List.getElem?_toArray, List.getElem?_cons_zero, List.getElem?_cons_succ]
    go_simp
    repeat (go_big_quiet_step (fail))
    refine wpQuiet_nil ?_
    refine wpM_only (i := 7) (by kernel_rfl) ?_
    refine mOp_make rfl (by go_simp) ?_
    rintro _ ⟨sg, rfl⟩
    refine ⟨.slice (some ⟨sg.w.heap.size, 0, none⟩) 4 4, sg.w.alloc (.cells #[.slice p2 ctx.length q2, .slice pb pc.length qb, .slice (some ⟨gl, 0, none⟩) 1 1, .slice pm mc.length qm] 22), by go_simp, ⟨⟨_, alloc_below _ _⟩, rfl⟩, ?_⟩
    have hbg := Below.step sg.h (alloc_below sg.w (.cells #[.slice p2 ctx.length q2, .slice pb pc.length qb, .slice (some ⟨gl, 0, none⟩) 1 1, .slice pm mc.length qm] 22))
    have Rf := (show RdL bytC (sg.w.alloc (.cells #[.slice p2 ctx.length q2, .slice pb pc.length qb, .slice (some ⟨gl, 0, none⟩) 1 1, .slice pm mc.length qm] 22)) (some ⟨sg.w.heap.size, 0, none⟩) 4 [ctx, pc, [lb], mc] from rdl_four sg.w ⟨p2, q2, ctx⟩ ⟨pb, qb, pc⟩ ⟨some ⟨gl, 0, none⟩, 1, [lb]⟩ ⟨pm, qm, mc⟩ 22 (HR2.out.keep (Below.step BW (Below.step BB sg.h))) (Rb.keep sg.h) (rl.keep (Below.step BB sg.h)) (rm.keep (Below.step BB sg.h)))
    replace Rb := Rb.keep hbg
    replace BB := Below.step BB hbg
    clear hbg
    replace hne := HW.some (sg.w.alloc (.cells #[.slice p2 ctx.length q2, .slice pb pc.length qb, .slice (some ⟨gl, 0, none⟩) 1 1, .slice pm mc.length qm] 22))
    generalize hW : (sg.w.alloc (.cells #[.slice p2 ctx.length q2, .slice pb pc.length qb, .slice (some ⟨gl, 0, none⟩) 1 1, .slice pm mc.length qm] 22)) = wg2 at *
    clear hW
    generalize sg.w.heap.size = gc at *
    clear sg
    refine wpM_only (i := 8) (by kernel_rfl) ?_
    refine mOp_call rfl (by go_simp) 144 _ #[.slice (some ⟨gc, 0, none⟩) 4 4] (fun w => by go_simp) rfl ?_
    rintro _ ⟨sg, rfl⟩
    refine (KB.out _ _ _ (Rf.keep sg.h)).mono ?_
    rintro e wg3 ⟨uo, rfl, ko, hbx⟩
    obtain ⟨po, qo, rfl, -⟩ := ko.rd
    have hbg := Below.step sg.h hbx
    refine ⟨_, rfl, ⟨⟨wg3, hbx⟩, rfl⟩, ?_⟩
    have Ko := (ko.lower (Below.step BB sg.h).size : Own _ U.heap.size _ _)
    replace Rb := Rb.keep hbg
    replace Rf := Rf.keep hbg
    replace BB := Below.step BB hbg
    clear hbg hbx sg ko
    replace hne := HW.some wg3
    refine wpM_end (by kernel_rfl) rfl (by kernel_rfl) (by decide) ?_
    rintro _ ⟨sz, rfl⟩
    simp only [List.drop_succ_cons, List.drop_zero]
    go_simp
    replace Rb := Rb.keep sz.h
    replace Rf := Rf.keep sz.h
    replace Ko := Ko.stay sz.h
    replace BB := Below.step BB sz.h
    clear hne
    generalize sz.w = W at *
    clear sz
    revert Ko
    revert Rf
    revert Rb
    revert BB
    revert qo
    revert po
    revert gc
    revert qb
    revert pb
    revert W
    exact JN.out
  intro W pb qb gc po qo BB Rb Rf Ko
  have R3 := R.stay BB
  have c0 := R3.cell 0
  have c1 := R3.cell 1
  have fz := R3.frozen
  simp at c0 c1
  replace BW := Below.step BW BB
  clear R R3 BB Rb Rf KP KB F1
  go_wp2
  refine bodyPost_ret (v := .agg #[.int .i64 0, .slice po mk.length qo]) (by simp [results, Tryz.results123, go_sem, c0, c1]) rfl ⟨_, rfl, ?_, (BW.setCell (Nat.le_succ _) _).setCell (Nat.le_succ _) _⟩
  exact ((Ko.set (a := ⟨w.heap.size + 1, 0, none⟩) hz.out _).set (a := ⟨w.heap.size + 1, 1, none⟩) hz.out _).lower (B' := w.heap.size) (by have := hz.out; omega)
set_option maxRecDepth 4000 in
set_option maxHeartbeats 2000000 in
theorem implMa_c (p p2 : Option Addr) (q q2 : Nat) (x ctx : List UInt8) (r : Int) (c : CertD) (place : Int) (w : World) (hr : Rd w p q x) (hr2 : Rd w p2 q2 ctx) (hT : Tabs w) :
    Calls Tryz.prog 99 #[.slice p x.length q, .int .i64 r, .slice p2 ctx.length q2, .agg #[.int .i64 c.1, .int .i64 c.2.1, .int .i64 c.2.2], .int .i64 place] w fun e w' => ∃ u, e = .returned (.agg #[.int .i64 (maD x r ctx c place).1, u]) ∧ Own w' w.heap.size u (maD x r ctx c place).2 ∧ Below w.heap.size w w' := by
  have BW := Below.mk (alloc_below w (.cells #[.int .i64 c.1, .int .i64 c.2.1, .int .i64 c.2.2] 62)) (.cells #[.int .i64 0, .slice none 0 0] 126)
  have A := (Arr.new w [.int .i64 c.1, .int .i64 c.2.1, .int .i64 c.2.2] 62).old _ (.cells #[.int .i64 0, .slice none 0 0] 126)
  have R := Arr.new (w.alloc (.cells #[.int .i64 c.1, .int .i64 c.2.1, .int .i64 c.2.2] 62)) [.int .i64 0, .slice none 0 0] 126
  rw [size_alloc] at R
  have KA : Hid _ := authFault_c p p2 q q2 x ctx r c ((w.alloc (.cells #[.int .i64 c.1, .int .i64 c.2.1, .int .i64 c.2.2] 62)).alloc (.cells #[.int .i64 0, .slice none 0 0] 126))
  by_cases h0 : adC x r ctx c = 0
  · rw [h0] at KA
    cases h1 : inB place 0 39
    · rw [show maD x r ctx c place = (3, []) by rw [maD, maC, if_pos h0, h1]; rfl]
      have KI : Hid (∀ W, Calls Tryz.prog 122 #[.int .i64 place] W fun e w' => e = .returned (.bool false) ∧ w' = W) := fun W => by have g := isSignPlace_c place W; rw [h1] at g; exact g
      clear hr hr2 hT A h0 h1
      go_enter Tryz.func99, Tryz.ntmps99
      go_wp2_with fail
      refine Calls.mono KA.out ?_
      rintro e w1 ⟨rfl, hb1⟩
      replace BW := Below.step BW hb1
      replace R := R.stay hb1
      have c0 := R.cell 0
      have c1 := R.cell 1
      have fz := R.frozen
      simp at c0 c1
      clear R hb1 KA
      go_wp2_with fail
      refine (KI.out _).mono ?_
      rintro e w2 ⟨rfl, hw⟩
      subst hw
      go_wp2
      exact bodyPost_ret (v := .agg #[.int .i64 3, .slice none 0 0]) (by simp [results, Tryz.results99, go_sem, c0, c1]) rfl ⟨_, rfl, Own_nil _ _, (BW.setCell (Nat.le_succ _) _).setCell (Nat.le_succ _) _⟩
    · rw [show maD x r ctx c place = (0, mkN x r ctx c place) by rw [maD, maC, if_pos h0, h1]; rfl]
      have KI : Hid (∀ W, Calls Tryz.prog 122 #[.int .i64 place] W fun e w' => e = .returned (.bool true) ∧ w' = W) := fun W => by have g := isSignPlace_c place W; rw [h1] at g; exact g
      have hpl : 0 ≤ place ∧ place ≤ 39 := by simp only [inB, decide_eq_true_eq] at h1; exact h1
      have hrl : 0 ≤ r ∧ r ≤ 39 := by rcases role_two (akC_role (adC_ok h0).1).1 with rfl | rfl <;> decide
      have HF1 := fl_int hrl.1 hrl.2
      have HF2 := fl_int hpl.1 hpl.2
      have KS : Hid (∀ W, Calls Tryz.prog 124 #[.int .i64 r, .int .i64 place] W fun e w' => e = .returned (.complex .f64 (floatOfInt .f64 r) (floatOfInt .f64 place)) ∧ Below W.heap.size W w') := fun W => (standOf_c r place W).mono fun _ _ ⟨h, h'⟩ => ⟨h, by rw [h']; exact Below.refl _ _⟩
      generalize floatOfInt .f64 r = fa at *
      generalize floatOfInt .f64 place = fb at *
      have KM : Hid (∀ W, Below w.heap.size w W → Calls Tryz.prog 123 #[.slice p x.length q, .complex .f64 fa fb, .slice p2 ctx.length q2, .agg #[.int .i64 c.1, .int .i64 c.2.1, .int .i64 c.2.2]] W fun e w' => ∃ u, e = .returned (.agg #[.int .i64 0, u]) ∧ Own w' W.heap.size u (mkN x r ctx c place) ∧ Below W.heap.size W w') := fun W hb => packAuth_c p p2 q q2 x ctx r place c fa fb W (hr.keep hb) (hr2.keep hb) (hT.keep hb) h0 hpl.1 hpl.2 HF1 HF2
      obtain ⟨mk, HMM⟩ : ∃ mk, Hid (mkN x r ctx c place = mk) := ⟨_, rfl⟩
      rw [HMM.out] at KM ⊢
      clear hr hr2 hT h0 h1 hpl hrl HF1 HF2 HMM
      go_enter Tryz.func99, Tryz.ntmps99
      go_wp2_with fail
      refine Calls.mono KA.out ?_
      rintro e w1 ⟨rfl, hb1⟩
      replace BW := Below.step BW hb1
      replace A := A.stay hb1
      replace R := R.stay hb1
      clear hb1 KA
      go_wp2_with fail
      refine (KI.out _).mono ?_
      rintro e w2 ⟨rfl, hw⟩
      subst hw
      have hz : Hid (w.heap.size + 1 < w2.heap.size) := R.lt
      have a0 := (A.cell 0).trans (show _ = some _ from rfl)
      have a1 := (A.cell 1).trans (show _ = some _ from rfl)
      have a2 := (A.cell 2).trans (show _ = some _ from rfl)
      clear A KI
      go_wp2_with fail
      apply share
      case h =>
        intro JN
        have BB := Below.refl w2.heap.size w2
        have hne := HW.some w2
        have g0 := HW.at (a0)
        have g1 := HW.at (a1)
        have g2 := HW.at (a2)
        refine wp_region_pick [0, 1, 2, 4, 5] 7 2 1 rfl rfl rfl (by kernel_rfl) (by kernel_rfl) (by kernel_rfl) (by kernel_rfl) ?_
        simp only [opsAt, List.getElem?_toArray, List.getElem?_cons_zero, List.getElem?_cons_succ]
        repeat (go_big_quiet_step (fail))
        refine wpQuiet_nil ?_
        clear g0 g1 g2
        refine wpM_only (i := 3) (by kernel_rfl) ?_
        refine mOp_call rfl (by go_simp) 124 _ #[.int .i64 r, .int .i64 place] (fun w => by go_simp) rfl ?_
        rintro _ ⟨sg, rfl⟩
        refine (KS.out _).mono ?_
        rintro e wg1 ⟨rfl, hbx⟩
        have hbg := Below.step sg.h hbx
        refine ⟨_, rfl, ⟨⟨wg1, hbx⟩, rfl⟩, ?_⟩
        replace BB := Below.step BB hbg
        clear hbg hbx sg
        replace hne := HW.some wg1
        refine wpM_only (i := 6) (by kernel_rfl) ?_
        refine mOp_call rfl (by go_simp) 123 _ #[.slice p x.length q, .complex .f64 fa fb, .slice p2 ctx.length q2, .agg #[.int .i64 c.1, .int .i64 c.2.1, .int .i64 c.2.2]] (fun w => by go_simp) rfl ?_
        rintro _ ⟨sg, rfl⟩
        refine (KM.out _ (Below.step BW (Below.step BB sg.h))).mono ?_
        rintro e wg2 ⟨uo, rfl, ko, hbx⟩
        obtain ⟨po, qo, rfl, -⟩ := ko.rd
        have hbg := Below.step sg.h hbx
        refine ⟨_, rfl, ⟨⟨wg2, hbx⟩, rfl⟩, ?_⟩
        have Ko := (ko.lower (Below.step BB sg.h).size : Own _ w2.heap.size _ _)
        replace BB := Below.step BB hbg
        clear hbg hbx sg ko
        replace hne := HW.some wg2
        refine wpM_end (by kernel_rfl) rfl (by kernel_rfl) (by decide) ?_
        rintro _ ⟨sz, rfl⟩
        simp only [List.drop_succ_cons, List.drop_zero]
        go_simp
        replace Ko := Ko.stay sz.h
        replace BB := Below.step BB sz.h
        clear hne
        generalize sz.w = W at *
        clear sz
        revert Ko
        revert BB
        revert qo
        revert po
        revert W
        exact JN.out
      intro W po qo BB Ko
      have R3 := R.stay BB
      have c0 := R3.cell 0
      have c1 := R3.cell 1
      have fz := R3.frozen
      simp at c0 c1
      replace BW := Below.step BW BB
      clear R R3 BB KM KS
      go_wp2
      refine bodyPost_ret (v := .agg #[.int .i64 0, .slice po mk.length qo]) (by simp [results, Tryz.results99, go_sem, c0, c1]) rfl ⟨_, rfl, ?_, (BW.setCell (Nat.le_succ _) _).setCell (Nat.le_succ _) _⟩
      exact ((Ko.set (a := ⟨w.heap.size + 1, 0, none⟩) hz.out _).set (a := ⟨w.heap.size + 1, 1, none⟩) hz.out _).lower (B' := w.heap.size) (by have := hz.out; omega)
  · rw [show maD x r ctx c place = (adC x r ctx c, []) by rw [maD, maC, if_neg h0, if_neg h0]]
    obtain ⟨k, HK⟩ : ∃ k, Hid (adC x r ctx c = k) := ⟨_, rfl⟩
    rw [HK.out] at KA h0 ⊢
    have hd : (k != 0) = true := by rw [bne_iff_ne]; exact h0
    clear HK hr hr2 hT A h0
    go_enter Tryz.func99, Tryz.ntmps99
    go_wp2_with fail
    refine Calls.mono KA.out ?_
    rintro e w1 ⟨rfl, hb1⟩
    replace BW := Below.step BW hb1
    replace R := R.stay hb1
    have c0 := R.cell 0
    have c1 := R.cell 1
    have fz := R.frozen
    simp at c0 c1
    clear R hb1 KA
    go_wp2
    exact bodyPost_ret (v := .agg #[.int .i64 k, .slice none 0 0]) (by simp [results, Tryz.results99, go_sem, c0, c1]) rfl ⟨_, rfl, Own_nil _ _, (BW.setCell (Nat.le_succ _) _).setCell (Nat.le_succ _) _⟩
end Go.Proofs.YtbaldmmbphbinaaGreatDoor

