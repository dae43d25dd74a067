/- Chapter 13 of the program: AuthDigest and MakeAuth, at every argument, where the two tables hold what the program's text lays (Tabs). What was there stays. -/
import Derived.Test.YtdbpnibcblelbaaDoorAuthI
import Derived.Test.YtdbpnibcblelbaaDoorJoint1
namespace Go.Proofs.YtdbpnibcblelbaaDoor
open Go.ChangeShapes Go.WideShapes Go.ChangeAt Go.RowKit

set_option maxRecDepth 4000 in
set_option maxHeartbeats 2000000 in
theorem implAd_c (p p2 : Option Addr) (q q2 : Nat) (x ctx : List UInt8) (r : Int) (c : CertD) (w : World) (hr : Rd w p q x) (hr2 : Rd w p2 q2 ctx) (hT : Tabs w) :
    Calls Tryd.prog 15 #[.slice p x.length q, .int .i64 r, .slice p2 ctx.length q2, .agg #[.int .i64 c.1, .int .i64 c.2.1, .int .i64 c.2.2]] w fun e w' => ∃ u, e = .returned (.agg #[.int .i64 (adD x r ctx c).1, u]) ∧ Own w' w.heap.size u (adD x r ctx c).2 ∧ Below w.heap.size w w' := by
  have BW := Below.mk (alloc_below w (.cells #[.int .i64 c.1, .int .i64 c.2.1, .int .i64 c.2.2] 35)) (.cells #[.int .i64 0, .slice none 0 0] 24)
  have A := (Arr.new w [.int .i64 c.1, .int .i64 c.2.1, .int .i64 c.2.2] 35).old _ (.cells #[.int .i64 0, .slice none 0 0] 24)
  have R := Arr.new (w.alloc (.cells #[.int .i64 c.1, .int .i64 c.2.1, .int .i64 c.2.2] 35)) [.int .i64 0, .slice none 0 0] 24
  rw [size_alloc] at R
  have KA : Hid _ := authFault_c p p2 q q2 x ctx r c ((w.alloc (.cells #[.int .i64 c.1, .int .i64 c.2.1, .int .i64 c.2.2] 35)).alloc (.cells #[.int .i64 0, .slice none 0 0] 24))
  by_cases h0 : adC x r ctx c = 0
  · rw [show adD x r ctx c = (0, dgN x r ctx c) by rw [adD, if_pos h0]]
    obtain ⟨hk, hct, hoc⟩ := adC_ok h0
    have hcl := (ctxB_parts hct).2
    have HD : Hid (dgN x r ctx c = digestN (kyN x r false ++ [UInt8.ofNat ctx.length] ++ ctx ++ pcL c)) := rfl
    have KK : Hid (∀ W, Below w.heap.size w W → Calls Tryd.prog 7 #[.slice p x.length q, .int .i64 r, .bool false] W fun e w' => ∃ u, e = .returned (.agg #[.int .i64 0, u]) ∧ Own w' W.heap.size u (kyN x r false) ∧ Below W.heap.size W w') := fun W hb => by
      have g := implAk_c p q x r false W (hr.keep hb) (hT.keep hb)
      rw [show akD x r false = (0, kyN x r false) by rw [akD, if_pos hk]] at g
      exact g
    have KP : Hid (∀ W, Calls Tryd.prog 27 #[.agg #[.int .i64 c.1, .int .i64 c.2.1, .int .i64 c.2.2]] W fun e w' => ∃ u, e = .returned (.agg #[.int .i64 0, u]) ∧ Own w' W.heap.size u (pcL c) ∧ Below W.heap.size W w') := fun W => by
      have g := implPc_c c W
      rw [show pcD c = (0, pcL c) by simp [pcD, hoc]] at g
      exact g
    have HL1 : (kyN x r false).length = 32 := kyN_len _ _ _
    have HL2 : (pcL c).length ≤ 20 := by exact (show (4 : Nat) ≤ 20 by decide)
    obtain ⟨kk, HK⟩ : ∃ kk, Hid (kyN x r false = kk) := ⟨_, rfl⟩
    obtain ⟨pc, HP⟩ : ∃ pc, Hid (pcL c = pc) := ⟨_, rfl⟩
    rw [HK.out] at HD KK HL1
    rw [HP.out] at HD KP HL2
    obtain ⟨lb, HLB⟩ : ∃ lb, Hid (UInt8.ofNat ctx.length = lb) := ⟨_, rfl⟩
    have HCB : Hid (u8v lb = .int .u8 (ctx.length : Int)) := by show _ = _; rw [← HLB.out]; exact u8_of _ (by omega)
    rw [HLB.out] at HD
    have HJL : Hid ((kk ++ [lb] ++ ctx ++ pc).length ≤ 600) := by show _ ≤ _; simp; omega
    have KD : Hid (∀ (W : World) (a : Option Addr) (d : Nat), Below w.heap.size w W → Rd W a d (kk ++ [lb] ++ ctx ++ pc) → Calls Tryd.prog 25 #[.slice a (kk ++ [lb] ++ ctx ++ pc).length d] W fun e w' => ∃ u, e = .returned (.agg #[.int .i64 0, u]) ∧ Own w' W.heap.size u (dgN x r ctx c) ∧ Below W.heap.size W w') := fun W a d hb hra => by
      have g := implDg_c a d _ W hra (hT.keep hb)
      rw [show dgCode (kk ++ [lb] ++ ctx ++ pc) = 0 by simp only [dgCode, HJL.out, if_true], show dgList (kk ++ [lb] ++ ctx ++ pc) = dgN x r ctx c by rw [HD.out]; simp only [dgList, HJL.out, if_true]] at g
      exact g
    have KJ : Hid (∀ (W : World) (pk : Option Addr) (qk gl : Nat) (pb : Option Addr) (qb gb : Nat), Pcs W gb 0 [⟨pk, qk, kk⟩, ⟨some ⟨gl, 0, none⟩, 1, [lb]⟩, ⟨p2, q2, ctx⟩, ⟨pb, qb, pc⟩] → Calls Tryd.prog 26 #[.slice (some ⟨gb, 0, none⟩) 4 4] W fun e w' => ∃ u, e = .returned u ∧ Own w' W.heap.size u (kk ++ [lb] ++ ctx ++ pc) ∧ Below W.heap.size W w') := fun W pk qk gl pb qb gb hp => by
      have g := joined_c _ gb 0 4 W hp (by rw [flat_four]; exact Nat.le_trans HJL.out (by decide)) (by simp)
      rw [flat_four] at g
      exact g
    obtain ⟨js, HJS⟩ : ∃ js, Hid (kk ++ [lb] ++ ctx ++ pc = js) := ⟨_, rfl⟩
    rw [HJS.out] at KD KJ HJL
    obtain ⟨dg, HG⟩ : ∃ dg, Hid (dgN x r ctx c = dg) := ⟨_, rfl⟩
    rw [HG.out] at KD ⊢
    rw [h0] at KA
    have HR2 : Hid (Rd w p2 q2 ctx) := hr2
    clear hr hr2 hT hk hct hoc HD HL1 HL2 HK HP HG HJL HJS HLB h0
    go_enter Tryd.func15, Tryd.ntmps15
    go_wp2_with fail
    refine Calls.mono KA.out ?_
    rintro e w1 ⟨rfl, hb1⟩
    replace BW := Below.step BW hb1
    replace A := A.stay hb1
    replace R := R.stay hb1
    clear hb1 KA
    go_wp2_with fail
    refine (KK.out _ BW).mono ?_
    rintro e w2 ⟨u2, rfl, k2, hb2⟩
    obtain ⟨pk, qk, rfl, -⟩ := k2.rd
    have hz2 : Hid (w.heap.size + 1 < w2.heap.size) := Nat.lt_of_lt_of_le R.lt hb2.size
    have hl2 := alloc_below w2 (.cells #[.int .i64 0, .slice pk kk.length qk] 24)
    have L := Arr.new w2 [.int .i64 0, .slice pk kk.length qk] 24
    replace BW := Below.step (Below.step BW hb2) hl2
    replace A := (A.stay hb2).stay hl2
    replace R := (R.stay hb2).stay hl2
    have rk := (Rd.own k2).keep hl2
    clear hb2 hl2 KK k2
    go_wp2_with fail
    have hl3 := alloc_below (w2.alloc (.cells #[.int .i64 0, .slice pk kk.length qk] 24)) (.cells #[.int .u8 (ctx.length : Int)] 5)
    have rl := rd_new (w2.alloc (.cells #[.int .i64 0, .slice pk kk.length qk] 24)) [.int .u8 (ctx.length : Int)] [lb] 5 1 (by simp only [List.map_cons, List.map_nil]; rw [HCB.out]) rfl (by decide)
    rw [size_alloc] at rl
    replace BW := Below.step BW hl3
    replace A := A.stay hl3
    replace R := R.stay hl3
    replace L := L.stay hl3
    replace rk := rk.keep hl3
    have hz : Hid (w.heap.size + 1 < ((w2.alloc (.cells #[.int .i64 0, .slice pk kk.length qk] 24)).alloc (.cells #[.int .u8 (ctx.length : Int)] 5)).heap.size) := R.lt
    clear hl3 hz2 HCB
    generalize w2.heap.size + 1 = gl at *
    generalize w2.heap.size = gk at *
    generalize hV : ((w2.alloc (.cells #[.int .i64 0, .slice pk kk.length qk] 24)).alloc (.cells #[.int .u8 (ctx.length : Int)] 5)) = V at *
    clear hV
    have a0 := (A.cell 0).trans (show _ = some _ from rfl)
    have a1 := (A.cell 1).trans (show _ = some _ from rfl)
    have a2 := (A.cell 2).trans (show _ = some _ from rfl)
    have l1 := (L.cell 1).trans (show _ = some _ from rfl)
    clear A L
    have F1 := bytes_f1
    apply share
    case h =>
      intro JN
      have BB := Below.refl V.heap.size V
      have hne := HW.some V
      have g0 := HW.at (l1)
      have g1 := HW.at (a0)
      have g2 := HW.at (a1)
      have g3 := HW.at (a2)
      refine wp_region_pick [0, 1, 2, 3, 4] 10 5 1 rfl rfl rfl (by kernel_rfl) (by kernel_rfl) (by kernel_rfl) (by kernel_rfl) ?_
      simp only [opsAt, List.getElem?_toArray, List.getElem?_cons_zero, List.getElem?_cons_succ]
      repeat (go_big_quiet_step (fail))
      refine wpQuiet_nil ?_
      clear g0 g1 g2 g3
      refine wpM_only (i := 5) (by kernel_rfl) ?_
      refine mOp_call rfl (by go_simp) 27 _ #[.agg #[.int .i64 c.1, .int .i64 c.2.1, .int .i64 c.2.2]] (fun w => by go_simp) rfl ?_
      rintro _ ⟨sg, rfl⟩
      refine (KP.out _).mono ?_
      rintro e wg1 ⟨ub, rfl, kb, hbx⟩
      obtain ⟨pb, qb, rfl, -⟩ := kb.rd
      have hbg := Below.step sg.h hbx
      refine ⟨_, rfl, ⟨⟨wg1, hbx⟩, rfl⟩, ?_⟩
      have Rb := Rd.own kb
      replace BB := Below.step BB hbg
      clear hbg hbx sg kb
      replace hne := HW.some wg1
      refine wpM_more [6] 4 3 rfl (by kernel_rfl) (by kernel_rfl) (by kernel_rfl) (by kernel_rfl) ?_
      simp only [opsAt, List.getElem?_toArray, List.getElem?_cons_zero, List.getElem?_cons_succ]
      go_simp
      repeat (go_big_quiet_step (fail))
      refine wpQuiet_nil ?_
      refine wpM_only (i := 7) (by kernel_rfl) ?_
      refine mOp_make rfl (by go_simp) ?_
      rintro _ ⟨sg, rfl⟩
      refine ⟨.slice (some ⟨sg.w.heap.size, 0, none⟩) 4 4, sg.w.alloc (.cells #[.slice pk kk.length qk, .slice (some ⟨gl, 0, none⟩) 1 1, .slice p2 ctx.length q2, .slice pb pc.length qb] 22), by go_simp, ⟨⟨_, alloc_below _ _⟩, rfl⟩, ?_⟩
      have hbg := Below.step sg.h (alloc_below sg.w (.cells #[.slice pk kk.length qk, .slice (some ⟨gl, 0, none⟩) 1 1, .slice p2 ctx.length q2, .slice pb pc.length qb] 22))
      have Rc := (show Pcs (sg.w.alloc (.cells #[.slice pk kk.length qk, .slice (some ⟨gl, 0, none⟩) 1 1, .slice p2 ctx.length q2, .slice pb pc.length qb] 22)) sg.w.heap.size 0 [⟨pk, qk, kk⟩, ⟨some ⟨gl, 0, none⟩, 1, [lb]⟩, ⟨p2, q2, ctx⟩, ⟨pb, qb, pc⟩] from pcs_four sg.w ⟨pk, qk, kk⟩ ⟨some ⟨gl, 0, none⟩, 1, [lb]⟩ ⟨p2, q2, ctx⟩ ⟨pb, qb, pc⟩ 22 (rk.keep (Below.step BB sg.h)) (rl.keep (Below.step BB sg.h)) (HR2.out.keep (Below.step BW (Below.step BB sg.h))) (Rb.keep sg.h))
      replace Rb := Rb.keep hbg
      replace BB := Below.step BB hbg
      clear hbg
      replace hne := HW.some (sg.w.alloc (.cells #[.slice pk kk.length qk, .slice (some ⟨gl, 0, none⟩) 1 1, .slice p2 ctx.length q2, .slice pb pc.length qb] 22))
      generalize hW : (sg.w.alloc (.cells #[.slice pk kk.length qk, .slice (some ⟨gl, 0, none⟩) 1 1, .slice p2 ctx.length q2, .slice pb pc.length qb] 22)) = wg2 at *
      clear hW
      generalize sg.w.heap.size = gb at *
      clear sg
      refine wpM_only (i := 8) (by kernel_rfl) ?_
      refine mOp_call rfl (by go_simp) 26 _ #[.slice (some ⟨gb, 0, none⟩) 4 4] (fun w => by go_simp) rfl ?_
      rintro _ ⟨sg, rfl⟩
      refine (KJ.out _ _ _ _ _ _ _ (Pcs.keep Rc sg.h)).mono ?_
      rintro e wg3 ⟨uj, rfl, kj, hbx⟩
      obtain ⟨pj, qj, rfl, -⟩ := kj.rd
      have hbg := Below.step sg.h hbx
      refine ⟨_, rfl, ⟨⟨wg3, hbx⟩, rfl⟩, ?_⟩
      have Rj := Rd.own kj
      replace Rb := Rb.keep hbg
      replace Rc := Pcs.keep Rc hbg
      replace BB := Below.step BB hbg
      clear hbg hbx sg kj
      replace hne := HW.some wg3
      refine wpM_only (i := 9) (by kernel_rfl) ?_
      refine mOp_call rfl (by go_simp) 25 _ #[.slice pj js.length qj] (fun w => by go_simp) rfl ?_
      rintro _ ⟨sg, rfl⟩
      refine (KD.out _ _ _ (Below.step BW (Below.step BB sg.h)) (Rj.keep sg.h)).mono ?_
      rintro e wg4 ⟨ud, rfl, kd, hbx⟩
      obtain ⟨pd, qd, rfl, -⟩ := kd.rd
      have hbg := Below.step sg.h hbx
      refine ⟨_, rfl, ⟨⟨wg4, hbx⟩, rfl⟩, ?_⟩
      have Rd1 := (kd.lower (Below.step BB sg.h).size : Own _ V.heap.size _ _)
      replace Rb := Rb.keep hbg
      replace Rc := Pcs.keep Rc hbg
      replace Rj := Rj.keep hbg
      replace BB := Below.step BB hbg
      clear hbg hbx sg kd
      replace hne := HW.some wg4
      refine wpM_end (by kernel_rfl) rfl (by kernel_rfl) (by decide) ?_
      rintro _ ⟨sz, rfl⟩
      simp only [List.drop_succ_cons, List.drop_zero]
      go_simp
      replace Rb := Rb.keep sz.h
      replace Rc := Pcs.keep Rc sz.h
      replace Rj := Rj.keep sz.h
      replace Rd1 := Rd1.stay sz.h
      replace BB := Below.step BB sz.h
      clear hne
      generalize sz.w = W at *
      clear sz
      revert Rd1
      revert Rj
      revert Rc
      revert Rb
      revert BB
      revert qd
      revert pd
      revert qj
      revert pj
      revert gb
      revert qb
      revert pb
      revert W
      exact JN.out
    intro W pb qb gb pj qj pd qd BB Rb Rc Rj Rd1
    have R3 := R.stay BB
    have c0 := R3.cell 0
    have c1 := R3.cell 1
    have fz := R3.frozen
    simp at c0 c1
    replace BW := Below.step BW BB
    clear R R3 BB Rb Rc Rj KP KJ KD F1
    go_wp2
    refine bodyPost_ret (v := .agg #[.int .i64 0, .slice pd dg.length qd]) (by simp [results, Tryd.results15, go_sem, c0, c1]) rfl ⟨_, rfl, ?_, (BW.setCell (Nat.le_succ _) _).setCell (Nat.le_succ _) _⟩
    exact ((Rd1.set (a := ⟨w.heap.size + 1, 0, none⟩) hz.out _).set (a := ⟨w.heap.size + 1, 1, none⟩) hz.out _).lower (B' := w.heap.size) (by have := hz.out; omega)
  · rw [show adD x r ctx c = (adC x r ctx c, []) by rw [adD, if_neg h0]]
    obtain ⟨k, HK⟩ : ∃ k, Hid (adC x r ctx c = k) := ⟨_, rfl⟩
    rw [HK.out] at KA h0 ⊢
    have hd : (k != 0) = true := by rw [bne_iff_ne]; exact h0
    clear HK hr hr2 hT A h0
    go_enter Tryd.func15, Tryd.ntmps15
    go_wp2_with fail
    refine Calls.mono KA.out ?_
    rintro e w1 ⟨rfl, hb1⟩
    replace BW := Below.step BW hb1
    replace R := R.stay hb1
    have c0 := R.cell 0
    have c1 := R.cell 1
    have fz := R.frozen
    simp at c0 c1
    clear R hb1 KA
    go_wp2
    exact bodyPost_ret (v := .agg #[.int .i64 k, .slice none 0 0]) (by simp [results, Tryd.results15, go_sem, c0, c1]) rfl ⟨_, rfl, Own_nil _ _, (BW.setCell (Nat.le_succ _) _).setCell (Nat.le_succ _) _⟩
end Go.Proofs.YtdbpnibcblelbaaDoor

