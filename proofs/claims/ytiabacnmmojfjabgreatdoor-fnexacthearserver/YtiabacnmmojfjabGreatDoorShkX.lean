import Derived.Test.YtiabacnmmojfjabGreatDoorJoint19
import Derived.Test.YtiabacnmmojfjabGreatDoorJoint22
import Derived.Test.YtiabacnmmojfjabGreatDoorJoint21
import Derived.Test.YtiabacnmmojfjabGreatDoorJoint4
namespace Go.Proofs.YtiabacnmmojfjabGreatDoor
open Go.ChangeShapes Go.WideShapes Go.ChangeAt Go.RowKit
theorem secrets_of {w : World} {B : Nat} {a : SecretsD} {u1 u2 u3 u4 : Value} (o1 : Own w B u1 a.1) (o2 : Own w B u2 a.2.1) (o3 : Own w B u3 a.2.2.1) (o4 : Own w B u4 a.2.2.2) (hn : (u1.ownBlock.toList ++ (u2.ownBlock.toList ++ (u3.ownBlock.toList ++ u4.ownBlock.toList))).Nodup) :
  secretsC.own w B a [u1, u2, u3, u4] (u1.ownBlock.toList ++ (u2.ownBlock.toList ++ (u3.ownBlock.toList ++ u4.ownBlock.toList))) :=
 have n1 := List.nodup_append.1 hn
 have n2 := List.nodup_append.1 n1.2.1
 have n3 := List.nodup_append.1 n2.2.1
 own_apartK (a := a) (us := [u1]) (byt_own o1) (own_apartK (a := a.2) (us := [u2]) (byt_own o2) (own_apartK (a := a.2.2) (us := [u3]) (byt_own o3) (byt_own o4) (fun k h h2 => n3.2.2 k h k h2 rfl)) (fun k h h2 => n2.2.2 k h k h2 rfl)) (fun k h h2 => n1.2.2 k h k h2 rfl)
set_option maxRecDepth 4000 in
set_option maxHeartbeats 4000000 in
theorem l11Done_c (s : SideD) (mode : Int) (base : List UInt8) (l : List MsgD) (p p2 p3 p4 : Option Addr) (q q2 q3 q4 : Nat) (w : World) (h1 : Rd w p q s.2.1) (h2 : Rd w p2 q2 s.2.2.2) (h3 : Rd w p3 q3 base) (h4 : RdL msgC w p4 q4 l) (hs : sfC s = 0) (hb : base.length ≤ 64) (hl : 3 ≤ l.length) (hp : (packAll (l.take 3)).length ≤ 600) :
  Calls Tryz.prog 45 #[.agg #[.int .i64 s.1, .slice p s.2.1.length q, .int .i64 s.2.2.1, .slice p2 s.2.2.2.length q2], .int .i64 mode, .slice p3 base.length q3, .slice p4 l.length q4] w fun e w' => ∃ u v ub x1 x2 x3 x4 fs fx, e = .returned (.agg #[.int .i64 s.1, u, .int .i64 s.2.2.1, v, .int .i64 3, .int .i64 mode, .slice p4 l.length q4, ub, x1, x2, x3, x4]) ∧ sideC.own w' w.heap.size s [.int .i64 s.1, u, .int .i64 s.2.2.1, v] fs ∧ Own w' w.heap.size ub base ∧ secretsC.own w' w.heap.size (secsN base (digM (l.take 3))) [x1, x2, x3, x4] fx ∧ (∀ k, k ∈ fs → k ∉ ub.ownBlock.toList) ∧ (∀ k, k ∈ fs → k ∉ fx) ∧ (∀ k, k ∈ ub.ownBlock.toList → k ∉ fx) ∧ Below w.heap.size w w' := by
 suffices H : ∀ Q : Ending → World → Prop, Hid (∀ e w', (∃ u v ub x1 x2 x3 x4 fs fx, e = .returned (.agg #[.int .i64 s.1, u, .int .i64 s.2.2.1, v, .int .i64 3, .int .i64 mode, .slice p4 l.length q4, ub, x1, x2, x3, x4]) ∧ sideC.own w' w.heap.size s [.int .i64 s.1, u, .int .i64 s.2.2.1, v] fs ∧ Own w' w.heap.size ub base ∧ secretsC.own w' w.heap.size (secsN base (digM (l.take 3))) [x1, x2, x3, x4] fx ∧ (∀ k, k ∈ fs → k ∉ ub.ownBlock.toList) ∧ (∀ k, k ∈ fs → k ∉ fx) ∧ (∀ k, k ∈ ub.ownBlock.toList → k ∉ fx) ∧ Below w.heap.size w w') → Q e w') → Calls Tryz.prog 45 #[.agg #[.int .i64 s.1, .slice p s.2.1.length q, .int .i64 s.2.2.1, .slice p2 s.2.2.2.length q2], .int .i64 mode, .slice p3 base.length q3, .slice p4 l.length q4] w Q from H _ (show Hid _ from fun _ _ h => h)
 intro Q HQ
 have HR1 : Hid (Rd w p q s.2.1) := h1
 have HR2 : Hid (Rd w p2 q2 s.2.2.2) := h2
 have HRB : Hid (Rd w p3 q3 base) := h3
 have HB64 : Hid (base.length ≤ 64) := hb
 have hpp := sf_parts hs
 have HL1 : Hid (s.2.1.length ≤ 1000000) := by show _ ≤ _; rw [hpp.2.2.2.2.1]; decide
 have HL2 : Hid (s.2.2.2.length ≤ 1000000) := by show _ ≤ _; rw [hpp.2.2.2.2.2]; unfold keyW; split <;> decide
 have H3 : Hid ((l.take 3).length = 3) := by show _ = _; rw [List.length_take]; omega
 have KD : Hid (∀ W, Below w.heap.size w W → Calls Tryz.prog 43 #[.slice p4 3 q4] W fun e w' => ∃ u, e = .returned u ∧ Own w' W.heap.size u (digM (l.take 3)) ∧ Below W.heap.size W w') := fun W hW => by
  have h := l11Digest_c (l.take 3) p4 q4 W ((h4.take 3).keep hW) hp
  rw [H3.out] at h
  exact h
 have HD32 : Hid ((digM (l.take 3)).length = 32) := digM_len _
 have KC : Hid (∀ W, Below w.heap.size w W → Calls Tryz.prog 91 #[.agg #[.int .i64 s.1, .slice p s.2.1.length q, .int .i64 s.2.2.1, .slice p2 s.2.2.2.length q2]] W fun e w' => ∃ u v fp, e = .returned (.agg #[.int .i64 s.1, u, .int .i64 s.2.2.1, v]) ∧ sideC.own w' W.heap.size s [.int .i64 s.1, u, .int .i64 s.2.2.1, v] fp ∧ Below W.heap.size W w') := fun W hW => l11CopySide_c s p p2 q q2 W (HR1.out.keep hW) (HR2.out.keep hW) HL1.out HL2.out
 have hq1 : l.length ≤ q4 := h4.1
 have hq2 : q4 ≤ 2 ^ 63 - 1 := h4.2.1
 have hlI : (3 : Int) ≤ (l.length : Int) := by omega
 generalize digM (l.take 3) = dg at *
 have BW := Below.mk (alloc_below w (.cells #[.int .i64 s.1, .slice p s.2.1.length q, .int .i64 s.2.2.1, .slice p2 s.2.2.2.length q2] 32)) (.cells #[.int .i64 0, .slice none 0 0, .int .i64 0, .slice none 0 0, .int .i64 0, .int .i64 0, .slice none 0 0, .slice none 0 0, .slice none 0 0, .slice none 0 0, .slice none 0 0, .slice none 0 0] 36)
 have A := (Arr.new w [.int .i64 s.1, .slice p s.2.1.length q, .int .i64 s.2.2.1, .slice p2 s.2.2.2.length q2] 32).old _ (.cells #[.int .i64 0, .slice none 0 0, .int .i64 0, .slice none 0 0, .int .i64 0, .int .i64 0, .slice none 0 0, .slice none 0 0, .slice none 0 0, .slice none 0 0, .slice none 0 0, .slice none 0 0] 36)
 have R := Arr.new (w.alloc (.cells #[.int .i64 s.1, .slice p s.2.1.length q, .int .i64 s.2.2.1, .slice p2 s.2.2.2.length q2] 32)) [.int .i64 0, .slice none 0 0, .int .i64 0, .slice none 0 0, .int .i64 0, .int .i64 0, .slice none 0 0, .slice none 0 0, .slice none 0 0, .slice none 0 0, .slice none 0 0, .slice none 0 0] 36
 rw [size_alloc] at R
 clear h1 h2 h3 h4 hs hb hl hp hpp H3
 go_enter Tryz.func45, Tryz.ntmps45
 go_wp2_with fail
 obtain ⟨V, HV⟩ : ∃ V, Hid (V = (w.alloc (.cells #[.int .i64 s.1, .slice p s.2.1.length q, .int .i64 s.2.2.1, .slice p2 s.2.2.2.length q2] 32)).alloc (.cells #[.int .i64 0, .slice none 0 0, .int .i64 0, .slice none 0 0, .int .i64 0, .int .i64 0, .slice none 0 0, .slice none 0 0, .slice none 0 0, .slice none 0 0, .slice none 0 0, .slice none 0 0] 36)) := ⟨_, rfl⟩
 rw [← HV.out] at A R BW ⊢
 clear HV
 have hVR : Hid (w.heap.size + 2 ≤ V.heap.size) := R.lt
 have c0 := (A.cell 0).trans (show _ = some _ from rfl)
 have c1 := (A.cell 1).trans (show _ = some _ from rfl)
 have c2 := (A.cell 2).trans (show _ = some _ from rfl)
 have c3 := (A.cell 3).trans (show _ = some _ from rfl)
 clear A
 apply share
 case h =>
  intro JN
  have BB := Below.refl V.heap.size V
  have hne := HW.some V
  have g0 := HW.at (c0)
  have g1 := HW.at (c1)
  have g2 := HW.at (c2)
  have g3 := HW.at (c3)
  refine wp_region_pick [0, 2, 3, 4, 6, 7, 8] 12 5 1 rfl rfl rfl (by kernel_rfl) (by kernel_rfl) (by kernel_rfl) (by kernel_rfl) ?_
  simp only [opsAt, List.getElem?_toArray, List.getElem?_cons_zero, List.getElem?_cons_succ]
  repeat (go_big_quiet_step (fail))
  refine wpQuiet_nil ?_
  clear g0 g1 g2 g3
  refine wpM_only (i := 1) (by kernel_rfl) ?_
  refine mOp_call rfl (by go_simp) 91 _ #[.agg #[.int .i64 s.1, .slice p s.2.1.length q, .int .i64 s.2.2.1, .slice p2 s.2.2.2.length q2]] (fun w => by go_simp) rfl ?_
  rintro _ ⟨sg, rfl⟩
  refine (KC.out _ (Below.step BW (Below.step BB sg.h))).mono ?_
  rintro e wg1 ⟨us, vs, fs, rfl, ks, hbx⟩
  obtain ⟨pu, qu, pv, qv, es, -, -⟩ := side_rep (sideC.toRep ks)
  simp only [List.cons.injEq, and_true, true_and] at es
  obtain ⟨rfl, rfl⟩ := es
  have hbg := Below.step sg.h hbx
  refine ⟨_, rfl, ⟨⟨wg1, hbx⟩, rfl⟩, ?_⟩
  have Ks := sideC.low ks ((Below.step BB sg.h)).size
  replace BB := Below.step BB hbg
  clear hbg hbx sg ks
  replace hne := HW.some wg1
  refine wpM_only (i := 5) (by kernel_rfl) ?_
  refine mOp_call rfl (by go_simp) 66 _ #[.slice p3 base.length q3] (fun w => by go_simp) rfl ?_
  rintro _ ⟨sg, rfl⟩
  refine (l1Copy_c p3 q3 base _ (HRB.out.keep (Below.step BW (Below.step BB sg.h))) (by have := HB64.out; omega)).mono ?_
  rintro e wg2 ⟨ub, rfl, kb, hbx⟩
  obtain ⟨pb, qb, rfl, -⟩ := kb.rd
  have hbg := Below.step sg.h hbx
  refine ⟨_, rfl, ⟨⟨wg2, hbx⟩, rfl⟩, ?_⟩
  have Kb := kb.lower ((Below.step BB sg.h)).size
  have Dsb := (show ∀ k, k ∈ fs → k ∉ (Value.slice pb base.length qb).ownBlock.toList from fun k h h2 => by have h1 := (sideC.ins Ks k h).2; have h4 := kb.ge _ (mem_opt.1 h2); have h3 := sg.h.size; omega)
  replace Ks := sideC.stay Ks hbg
  replace BB := Below.step BB hbg
  clear hbg hbx sg kb
  replace hne := HW.some wg2
  refine wpM_only (i := 9) (by kernel_rfl) ?_
  refine mOp_call rfl (by go_simp) 43 _ #[.slice p4 3 q4] (fun w => by go_simp) rfl ?_
  rintro _ ⟨sg, rfl⟩
  refine (KD.out _ (Below.step BW (Below.step BB sg.h))).mono ?_
  rintro e wg3 ⟨ud, rfl, kd, hbx⟩
  obtain ⟨pd, qd, rfl, -⟩ := kd.rd
  have hbg := Below.step sg.h hbx
  refine ⟨_, rfl, ⟨⟨wg3, hbx⟩, rfl⟩, ?_⟩
  have Rd9 := Rd.own kd
  replace Ks := sideC.stay Ks hbg
  replace Kb := Kb.stay hbg
  replace BB := Below.step BB hbg
  clear hbg hbx sg kd
  replace hne := HW.some wg3
  refine wpM_only (i := 10) (by kernel_rfl) ?_
  refine mOp_call rfl (by go_simp) 92 _ #[.slice p3 base.length q3, .slice pd dg.length qd] (fun w => by go_simp) rfl ?_
  rintro _ ⟨sg, rfl⟩
  refine (l7Secrets_c p3 pd q3 qd base dg _ (HRB.out.keep (Below.step BW (Below.step BB sg.h))) (Rd9.keep sg.h) HB64.out (by have := HD32.out; omega)).mono ?_
  rintro e wg4 ⟨u1, u2, u3, u4, rfl, k1, k2, k3, k4, hnd, hbx⟩
  obtain ⟨a1, e1, rfl, -⟩ := k1.rd
  obtain ⟨a2, e2, rfl, -⟩ := k2.rd
  obtain ⟨a3, e3, rfl, -⟩ := k3.rd
  obtain ⟨a4, e4, rfl, -⟩ := k4.rd
  have kx := secrets_of (a := secsN base dg) k1 k2 k3 k4 hnd
  have hbg := Below.step sg.h hbx
  refine ⟨_, rfl, ⟨⟨wg4, hbx⟩, rfl⟩, ?_⟩
  have Kx := secretsC.low kx ((Below.step BB sg.h)).size
  have Dsx := (show ∀ k, k ∈ fs → k ∉ (Value.slice a1 (trafN base cApB dg).length e1).ownBlock.toList ++ ((Value.slice a2 (trafN base sApB dg).length e2).ownBlock.toList ++ ((Value.slice a3 (trafN base expMB dg).length e3).ownBlock.toList ++ (Value.slice a4 (trafN base resMB dg).length e4).ownBlock.toList)) from fun k h h2 => by have h1 := (sideC.ins Ks k h).2; have h4 := (secretsC.ins kx k h2).1; have h3 := sg.h.size; omega)
  have Dbx := (show ∀ k, k ∈ (Value.slice pb base.length qb).ownBlock.toList → k ∉ (Value.slice a1 (trafN base cApB dg).length e1).ownBlock.toList ++ ((Value.slice a2 (trafN base sApB dg).length e2).ownBlock.toList ++ ((Value.slice a3 (trafN base expMB dg).length e3).ownBlock.toList ++ (Value.slice a4 (trafN base resMB dg).length e4).ownBlock.toList)) from fun k h h2 => by have h1 := Kb.lt _ (mem_opt.1 h); have h4 := (secretsC.ins kx k h2).1; have h3 := sg.h.size; omega)
  replace Ks := sideC.stay Ks hbg
  replace Kb := Kb.stay hbg
  replace Rd9 := Rd9.keep hbg
  replace BB := Below.step BB hbg
  clear hbg hbx sg kx k1 k2 k3 k4 hnd
  replace hne := HW.some wg4
  refine wpM_more [11] 1 0 rfl (by kernel_rfl) (by kernel_rfl) (by kernel_rfl) (by kernel_rfl) ?_
  simp only [opsAt, List.getElem?_toArray, List.getElem?_cons_zero, List.getElem?_cons_succ]
  go_simp
  repeat (go_big_quiet_step (fail))
  refine wpQuiet_nil ?_
  refine wpM_end (by kernel_rfl) rfl (by kernel_rfl) (by decide) ?_
  rintro _ ⟨sz, rfl⟩
  simp only [List.drop_succ_cons, List.drop_zero]
  go_simp
  replace Ks := sideC.stay Ks sz.h
  replace Kb := Kb.stay sz.h
  replace Rd9 := Rd9.keep sz.h
  replace Kx := secretsC.stay Kx sz.h
  replace BB := Below.step BB sz.h
  clear hne
  generalize sz.w = W at *
  clear sz
  revert Dbx
  revert Dsx
  revert Dsb
  revert Kx
  revert Rd9
  revert Kb
  revert Ks
  revert BB
  revert e4
  revert a4
  revert e3
  revert a3
  revert e2
  revert a2
  revert e1
  revert a1
  revert qd
  revert pd
  revert qb
  revert pb
  revert qv
  revert pv
  revert qu
  revert pu
  revert fs
  revert W
  exact JN.out
 intro W fs pu qu pv qv pb qb pd qd a1 e1 a2 e2 a3 e3 a4 e4 BB Ks Kb Rd9 Kx Dsb Dsx Dbx
 replace R := R.stay BB
 replace BW := Below.step BW BB
 replace Ks := sideC.low Ks hVR.out
 replace Kb := Kb.lower hVR.out
 replace Kx := secretsC.low Kx hVR.out
 have t0 := (R.cell 0).trans (show _ = some _ from rfl)
 have t1 := (R.cell 1).trans (show _ = some _ from rfl)
 have t2 := (R.cell 2).trans (show _ = some _ from rfl)
 have t3 := (R.cell 3).trans (show _ = some _ from rfl)
 have t4 := (R.cell 4).trans (show _ = some _ from rfl)
 have t5 := (R.cell 5).trans (show _ = some _ from rfl)
 have t6 := (R.cell 6).trans (show _ = some _ from rfl)
 have t7 := (R.cell 7).trans (show _ = some _ from rfl)
 have t8 := (R.cell 8).trans (show _ = some _ from rfl)
 have t9 := (R.cell 9).trans (show _ = some _ from rfl)
 have t10 := (R.cell 10).trans (show _ = some _ from rfl)
 have t11 := (R.cell 11).trans (show _ = some _ from rfl)
 have ft := R.frozen
 clear R BB c0 c1 c2 c3
 go_wp2_with fail
 exact bodyPost_ret (v := .agg #[.int .i64 s.1, .slice pu s.2.1.length qu, .int .i64 s.2.2.1, .slice pv s.2.2.2.length qv, .int .i64 3, .int .i64 mode, .slice p4 l.length q4, .slice pb base.length qb, .slice a1 (trafN base cApB dg).length e1, .slice a2 (trafN base sApB dg).length e2, .slice a3 (trafN base expMB dg).length e3, .slice a4 (trafN base resMB dg).length e4]) (by simp [results, Tryz.results45, go_sem, t0, t1, t2, t3, t4, t5, t6, t7, t8, t9, t10, t11]) rfl (HQ.out _ _ ⟨_, _, _, _, _, _, _, fs, _, rfl, sideC.low (sideC.set (sideC.set (sideC.set (sideC.set (sideC.set (sideC.set (sideC.set (sideC.set (sideC.set (sideC.set (sideC.set (sideC.set Ks (show w.heap.size + 1 < w.heap.size + 2 by omega) _) (show w.heap.size + 1 < w.heap.size + 2 by omega) _) (show w.heap.size + 1 < w.heap.size + 2 by omega) _) (show w.heap.size + 1 < w.heap.size + 2 by omega) _) (show w.heap.size + 1 < w.heap.size + 2 by omega) _) (show w.heap.size + 1 < w.heap.size + 2 by omega) _) (show w.heap.size + 1 < w.heap.size + 2 by omega) _) (show w.heap.size + 1 < w.heap.size + 2 by omega) _) (show w.heap.size + 1 < w.heap.size + 2 by omega) _) (show w.heap.size + 1 < w.heap.size + 2 by omega) _) (show w.heap.size + 1 < w.heap.size + 2 by omega) _) (show w.heap.size + 1 < w.heap.size + 2 by omega) _) (by omega), Own.lower ((((((((((((Kb.set (show w.heap.size + 1 < w.heap.size + 2 by omega) _).set (show w.heap.size + 1 < w.heap.size + 2 by omega) _).set (show w.heap.size + 1 < w.heap.size + 2 by omega) _).set (show w.heap.size + 1 < w.heap.size + 2 by omega) _).set (show w.heap.size + 1 < w.heap.size + 2 by omega) _).set (show w.heap.size + 1 < w.heap.size + 2 by omega) _).set (show w.heap.size + 1 < w.heap.size + 2 by omega) _).set (show w.heap.size + 1 < w.heap.size + 2 by omega) _).set (show w.heap.size + 1 < w.heap.size + 2 by omega) _).set (show w.heap.size + 1 < w.heap.size + 2 by omega) _).set (show w.heap.size + 1 < w.heap.size + 2 by omega) _).set (show w.heap.size + 1 < w.heap.size + 2 by omega) _) (by omega), secretsC.low (secretsC.set (secretsC.set (secretsC.set (secretsC.set (secretsC.set (secretsC.set (secretsC.set (secretsC.set (secretsC.set (secretsC.set (secretsC.set (secretsC.set Kx (show w.heap.size + 1 < w.heap.size + 2 by omega) _) (show w.heap.size + 1 < w.heap.size + 2 by omega) _) (show w.heap.size + 1 < w.heap.size + 2 by omega) _) (show w.heap.size + 1 < w.heap.size + 2 by omega) _) (show w.heap.size + 1 < w.heap.size + 2 by omega) _) (show w.heap.size + 1 < w.heap.size + 2 by omega) _) (show w.heap.size + 1 < w.heap.size + 2 by omega) _) (show w.heap.size + 1 < w.heap.size + 2 by omega) _) (show w.heap.size + 1 < w.heap.size + 2 by omega) _) (show w.heap.size + 1 < w.heap.size + 2 by omega) _) (show w.heap.size + 1 < w.heap.size + 2 by omega) _) (show w.heap.size + 1 < w.heap.size + 2 by omega) _) (by omega), Dsb, Dsx, Dbx, ((((((((((((BW.setCell (show w.heap.size ≤ w.heap.size + 1 by omega) _).setCell (show w.heap.size ≤ w.heap.size + 1 by omega) _).setCell (show w.heap.size ≤ w.heap.size + 1 by omega) _).setCell (show w.heap.size ≤ w.heap.size + 1 by omega) _).setCell (show w.heap.size ≤ w.heap.size + 1 by omega) _).setCell (show w.heap.size ≤ w.heap.size + 1 by omega) _).setCell (show w.heap.size ≤ w.heap.size + 1 by omega) _).setCell (show w.heap.size ≤ w.heap.size + 1 by omega) _).setCell (show w.heap.size ≤ w.heap.size + 1 by omega) _).setCell (show w.heap.size ≤ w.heap.size + 1 by omega) _).setCell (show w.heap.size ≤ w.heap.size + 1 by omega) _).setCell (show w.heap.size ≤ w.heap.size + 1 by omega) _)⟩)
end Go.Proofs.YtiabacnmmojfjabGreatDoor
