/- The draws of chapter 13 for authenticators that are made: what comes out can be read; its bounds, no more (written by tools/draw_au.py). -/
import Derived.Test.YtflhoefocjmihaaGreatDoorDrawCt
import Derived.Test.YtflhoefocjmihaaGreatDoorJoint11
import Derived.Test.YtflhoefocjmihaaGreatDoorJoint7
import Derived.Test.YtflhoefocjmihaaGreatDoorJoint6
import Derived.Test.YtflhoefocjmihaaGreatDoorJoint12
namespace Go.Proofs.YtflhoefocjmihaaGreatDoor
open Go.ChangeShapes Go.WideShapes Go.ChangeAt Go.RowKit

set_option maxRecDepth 4000 in
theorem l13DrawRole_c (b : Nat) (p : Option Addr) (q : Nat) (cs : List UInt8) (t : Int) (w : World) (hs : Src w b p q cs t) (ht : 0 ≤ t) (ht2 : t ≤ 700000000) :
    Calls Tryz.prog 79 #[.pointer (some ⟨b, 0, none⟩)] w fun e w' => ∃ r : Int, e = .returned (.int .i64 r) ∧ 1 ≤ r ∧ r ≤ 3 ∧ Src w' b p q cs (t + 1) ∧ w.grownBy w' (some b) := by
  go_enter Tryz.func79, Tryz.ntmps79
  go_wp2_with fail
  refine (l1Pick_c b p q cs t w.heap.size [1, 2, 1, 2, 1, 2, 3] 7 _ (hs.keep (alloc_below _ _)) (by omega) (by omega) rfl (by decide) (by decide) (by have := hs.lt; omega) (new_ints _ _ _ [1, 2, 1, 2, 1, 2, 3] rfl)).mono ?_
  rintro e w2 ⟨r, hr, rfl, hs2, hg⟩
  have hg2 : w.grownBy w2 (some b) := grownBy_trans (World.grownBy_alloc _ _ _) hg
  clear hg hs
  go_wp2
  go_ret
  refine ⟨r, rfl, ?_, ?_, hs2, hg2⟩ <;> (simp at hr; omega)
set_option maxRecDepth 4000 in
set_option maxHeartbeats 1000000 in
theorem l13DrawContext_c (b : Nat) (p : Option Addr) (q : Nat) (cs : List UInt8) (t : Int) (w : World) (hs : Src w b p q cs t) (ht : 0 ≤ t) (ht2 : t ≤ 700000000) :
    Calls Tryz.prog 33 #[.pointer (some ⟨b, 0, none⟩)] w fun e w' => ∃ v x t', e = .returned v ∧ Own w' w.heap.size v x ∧ x.length ≤ 21 ∧ t ≤ t' ∧ t' ≤ t + 30 ∧ Src w' b p q cs t' ∧ w.grownBy w' (some b) := by
  go_enter Tryz.func33, Tryz.ntmps33
  go_wp2_with fail
  refine (l1Next_c b p q cs t 9 _ hs (by omega) (by omega) (by omega) (by omega)).mono ?_
  rintro e w1 ⟨n, rfl, x0, y0, hs1, hg1⟩
  clear hs
  go_wp2_with fail
  refine (l1Pick_c b p q cs (t + 1) w1.heap.size [1, 4, 8, 20, 1 + n, 0, 21] 7 _ (hs1.keep (alloc_below _ _)) (by omega) (by omega) rfl (by decide) (by decide) (by have := hs1.lt; omega) (new_ints _ _ _ [1, 4, 8, 20, 1 + n, 0, 21] rfl)).mono ?_
  rintro e w2 ⟨r, hr, rfl, hs2, hg2⟩
  have hr2 : 0 ≤ r ∧ r ≤ 21 := by simp at hr; omega
  have hg : w.grownBy w2 (some b) := grownBy_trans (grownBy_trans hg1 (World.grownBy_alloc _ _ _)) hg2
  have hz : w.heap.size ≤ w2.heap.size := hg.size
  clear hs1 hg1 hg2 hr
  go_wp2_with fail
  refine (l1Some_c b p q cs (t + 1 + 1) r _ hs2 (by omega) (by omega) hr2.1 (by omega)).mono ?_
  rintro e w3 ⟨u, bs, rfl, hbl, ko, hs3, hg3⟩
  go_wp2
  go_ret
  exact ⟨u, bs, t + 1 + 1 + r, rfl, ko.lower hz, by omega, by omega, by omega, hs3, grownBy_trans hg hg3⟩
set_option maxRecDepth 4000 in
set_option maxHeartbeats 1000000 in
theorem l13Exporter_c (b : Nat) (p : Option Addr) (q : Nat) (cs : List UInt8) (t : Int) (w : World) (hs : Src w b p q cs t) (ht : 0 ≤ t) (ht2 : t ≤ 700000000) :
    Calls Tryz.prog 78 #[.pointer (some ⟨b, 0, none⟩)] w fun e w' => ∃ v x, e = .returned v ∧ Own w' w.heap.size v x ∧ x.length ≤ 32 ∧ Src w' b p q cs (t + 1 + 1) ∧ w.grownBy w' (some b) := by
  obtain ⟨i0, hi, hz0, hz1, hz2⟩ := info_parts info8
  have hb0 : Hid (b < w.heap.size) := hs.lt
  go_enter Tryz.func78, Tryz.ntmps78
  go_wp2_with fail
  refine (l1Pick_c b p q cs t w.heap.size [32, 32, 32, 32, 32, 31] 6 _ (hs.keep (alloc_below _ _)) (by omega) (by omega) rfl (by decide) (by decide) (by have := hs.lt; omega) (new_ints _ _ _ [32, 32, 32, 32, 32, 31] rfl)).mono ?_
  rintro e w2 ⟨r, hr, rfl, hs2, hg2⟩
  obtain ⟨n, rfl, hn1, hn2⟩ : ∃ n : Nat, r = (n : Int) ∧ 31 ≤ n ∧ n ≤ 32 := ⟨r.toNat, by simp at hr; omega, by simp at hr; omega, by simp at hr; omega⟩
  have hg : w.grownBy w2 (some b) := grownBy_trans (World.grownBy_alloc _ _ _) hg2
  have hnI : (0 : Int) < (n : Int) := by omega
  have HZ : Hid (w.heap.size ≤ w2.heap.size) := hg.size
  clear hs hg2 hr
  go_wp2_with (at_make; refine wpList_make_full _ rfl (.tmp 6) (.tmp 6) 22 rfl w2.heap.size 5 i0 (.int .u8 0) 1 Tryz.underlying22 hi hz0 hz1 .i64 .i64 _ _ n rfl rfl rfl rfl (by rw [hz2]; omega) (by unfold maxLen; omega) (Nat.le_refl _) ?_; intro w3 hown hgrow; have k3 := made_zeros hown; have hb3 : Below w2.heap.size w2 w3 := (Below.refl _ _).grown hgrow (Nat.le_refl _) (fun k hk => by simp at hk); have hs3 := hs2.keep hb3; have hg3 : w.grownBy w3 (some b) := grown_newC hg hgrow (fun j hj => by cases hj); clear hown hgrow hb3 hs2 hg)
  refine (l1Next_c b p q cs (t + 1) 2 _ hs3 (by omega) (by omega) (by omega) (by omega)).mono ?_
  rintro e w4 ⟨r2, rfl, x0, y0, hs4, hg4⟩
  obtain ⟨m, rfl⟩ := Int.eq_ofNat_of_zero_le x0
  have k4 : Own w4 w2.heap.size (.slice (some ⟨w2.heap.size, 0, none⟩) n n) (zs n) := k3.other hg4 (fun k hk e => by have h1 := k3.ge k hk; have h2 := hg3.size; have h3 := hb0.out; have h4 : w.heap.size ≤ w2.heap.size := HZ.out; simp at e; omega)
  have hg5 := grownBy_trans hg3 hg4
  have k5 : w4.ownsRow w2.heap.size 5 1 (.slice (some ⟨w2.heap.size, 0, none⟩) n n) n ((zs n).map u8v) := by have h := k4; unfold Own at h; rw [zs_len] at h; exact h
  have cx : w4.cell? ⟨w2.heap.size, 0, none⟩ = some (.int .u8 0) := (World.ownsRow.cellAt k5 0 (by omega)).trans (by unfold zs; rw [List.map_replicate, List.getElem?_replicate, if_pos (by omega)]; rfl)
  have fx := World.ownsRow.frozenAt k5 0
  obtain ⟨cb, HCB⟩ : ∃ cb, Hid (UInt8.ofNat m = cb) := ⟨_, rfl⟩
  have HCV : Hid (.int .u8 (m : Int) = u8v cb) := by show _ = _; rw [← HCB.out]; exact (u8_of m (by omega)).symm
  have R1 := (World.ownsRow.stored k5 0 (.int .u8 (m : Int))).1
  have OX : Own (w4.setCell ⟨w2.heap.size, 0, none⟩ (.int .u8 (m : Int))) w2.heap.size (.slice (some ⟨w2.heap.size, 0, none⟩) n n) ((zs n).set 0 cb) := by unfold Own; rw [List.length_set, zs_len, List.map_set, ← HCV.out]; exact R1
  have HS5 : Hid (Src (w4.setCell ⟨w2.heap.size, 0, none⟩ (.int .u8 (m : Int))) b p q cs (t + 1 + 1)) := hs4.other (grownBy_set w4 w2.heap.size 0 _) (fun k hk => by simp at hk; subst hk; have h3 := hb0.out; have h4 := HZ.out; omega)
  have HG5 : Hid (w.grownBy (w4.setCell ⟨w2.heap.size, 0, none⟩ (.int .u8 (m : Int))) (some b)) := grown_newC hg5 (grownBy_set w4 w2.heap.size 0 _) (fun j hj => by simp at hj; subst hj; exact HZ.out)
  clear k3 k4 k5 R1 hs3 hs4 hg3 hg4 hg5 HCV HCB hn1
  go_wp2
  go_ret
  exact ⟨_, _, rfl, OX.lower HZ.out, by rw [List.length_set, zs_len]; exact hn2, HS5.out, HG5.out⟩
set_option maxRecDepth 4000 in
set_option maxHeartbeats 2000000 in
theorem drawAd_c (p : Option Addr) (q : Nat) (cs : List UInt8) (w : World) (hr : Rd w p q cs) :
    Calls Tryz.prog 61 #[.slice p cs.length q] w fun e w' => ∃ (x ctx : List UInt8) (r : Int) (c : CertD) (px pc : Option Addr) (qx qc : Nat), e = .returned (.tuple #[.slice px x.length qx, .int .i64 r, .slice pc ctx.length qc, .agg #[.int .i64 c.1, .int .i64 c.2.1, .int .i64 c.2.2]]) ∧ x.length ≤ 32 ∧ ctx.length ≤ 21 ∧ Rd w' px qx x ∧ Rd w' pc qc ctx ∧ (0 < x.length → ∀ y, px = some y → w.heap.size ≤ y.block ∧ y.block < w'.heap.size) ∧ (0 < ctx.length → ∀ y, pc = some y → w.heap.size ≤ y.block ∧ y.block < w'.heap.size) ∧ Below w.heap.size w w' := by
  have R := Arr.new w [.int .i64 0, .int .i64 0, .int .i64 0] 41
  have BW := alloc_below w (.cells #[.int .i64 0, .int .i64 0, .int .i64 0] 41)
  have hs0 : Hid ((w.alloc (.cells #[.int .i64 0, .int .i64 0, .int .i64 0] 41)).heap.size = w.heap.size + 1) := size_alloc _ _
  go_enter Tryz.func61, Tryz.ntmps61
  go_wp2_with fail
  refine (l1Source_c p q cs _ (hr.keep BW)).mono ?_
  rintro e w1 ⟨rfl, hs, hb, hlt⟩
  rw [hs0.out] at hs hlt
  replace R := R.stay hb
  replace BW := Below.step BW hb
  clear hb hr
  rw [hs0.out]
  go_wp2_with fail
  have hne := Gen.But.some (w.heap.size + 1) w1
  refine Gen.wp_region_pick (Gen.But.pre (w.heap.size + 1)) [0, 2, 4, 6] 13 9 1 rfl rfl rfl (by kernel_rfl) (by kernel_rfl) (by kernel_rfl) (by kernel_rfl) ?_
  simp only [opsAt, List.getElem?_toArray, List.getElem?_cons_zero, List.getElem?_cons_succ]
  repeat (go_big_quiet_step (fail))
  refine wpQuiet_nil ?_
  refine Gen.wpM_only (i := 1) (by kernel_rfl) ?_
  refine Gen.mOp_call rfl (by go_simp) 78 _ #[.pointer (some ⟨w.heap.size + 1, 0, none⟩)] (fun w => by go_simp) rfl ?_
  rintro _ ⟨n1, rfl⟩
  refine (l13Exporter_c (w.heap.size + 1) p q cs 0 _ (hs.drewN n1) (by omega) (by omega)).mono ?_
  rintro e v1 ⟨vx, x, rfl, kx, hxl, hs1, hg1⟩
  refine ⟨_, rfl, ⟨⟨v1, hg1⟩, rfl⟩, ?_⟩
  have hgw1 := grownBy_trans (grownBy_drewN _ n1 _) hg1
  clear hg1
  replace hne := Gen.But.some (w.heap.size + 1) v1
  obtain ⟨px, qx, rfl, -⟩ := kx.rd
  replace kx : Own v1 w1.heap.size (.slice px x.length qx) x := kx
  clear hs
  refine Gen.wpM_only (i := 3) (by kernel_rfl) ?_
  refine Gen.mOp_call rfl (by go_simp) 79 _ #[.pointer (some ⟨w.heap.size + 1, 0, none⟩)] (fun w => by go_simp) rfl ?_
  rintro _ ⟨n3, rfl⟩
  refine (l13DrawRole_c (w.heap.size + 1) p q cs (0 + 1 + 1) _ (hs1.drewN n3) (by omega) (by omega)).mono ?_
  rintro e v3 ⟨r, rfl, hr1, hr2, hs3, hg3⟩
  refine ⟨_, rfl, ⟨⟨v3, hg3⟩, rfl⟩, ?_⟩
  have hgw3 := grownBy_trans (grownBy_drewN _ n3 _) hg3
  clear hg3
  replace hne := Gen.But.some (w.heap.size + 1) v3
  replace kx := kx.other hgw3 (fun k hk e => by have h1 := kx.ge k hk; simp at e; omega)
  clear hs1
  refine Gen.wpM_only (i := 5) (by kernel_rfl) ?_
  refine Gen.mOp_call rfl (by go_simp) 33 _ #[.pointer (some ⟨w.heap.size + 1, 0, none⟩)] (fun w => by go_simp) rfl ?_
  rintro _ ⟨n5, rfl⟩
  refine (l13DrawContext_c (w.heap.size + 1) p q cs (0 + 1 + 1 + 1) _ (hs3.drewN n5) (by omega) (by omega)).mono ?_
  rintro e v5 ⟨vc, ctx, t5, rfl, kc, hcl, ht1, ht2, hs5, hg5⟩
  refine ⟨_, rfl, ⟨⟨v5, hg5⟩, rfl⟩, ?_⟩
  have hgw5 := grownBy_trans (grownBy_drewN _ n5 _) hg5
  clear hg5
  replace hne := Gen.But.some (w.heap.size + 1) v5
  obtain ⟨pc, qc, rfl, -⟩ := kc.rd
  have hz5 : Hid (w.heap.size + 1 < v3.heap.size) := Nat.lt_of_lt_of_le hlt (Nat.le_trans hgw1.size hgw3.size)
  replace kc : Own v5 v3.heap.size (.slice pc ctx.length qc) ctx := kc
  replace kx := kx.other hgw5 (fun k hk e => by have h1 := kx.ge k hk; simp at e; omega)
  clear hs3
  refine Gen.wpM_only (i := 7) (by kernel_rfl) ?_
  refine Gen.mOp_call rfl (by go_simp) 43 _ #[.pointer (some ⟨w.heap.size + 1, 0, none⟩)] (fun w => by go_simp) rfl ?_
  rintro _ ⟨n7, rfl⟩
  refine (l12Bent_c (w.heap.size + 1) p q cs t5 _ (hs5.drewN n7) (by omega) (by omega)).mono ?_
  rintro e v7 ⟨vl, rfl, l, xs, fp, t7, ho, hll, hl1, ht3, ht4, hs7, hg7⟩
  refine ⟨_, rfl, ⟨⟨v7, hg7⟩, rfl⟩, ?_⟩
  have hgw7 := grownBy_trans (grownBy_drewN _ n7 _) hg7
  clear hg7
  replace hne := Gen.But.some (w.heap.size + 1) v7
  replace kx := kx.other hgw7 (fun k hk e => by have h1 := kx.ge k hk; simp at e; omega)
  replace kc := kc.other hgw7 (fun k hk e => by have h1 := kc.ge k hk; have h2 := hz5.out; simp at e; omega)
  clear hs5 hs7
  obtain ⟨pl, ql, rfl, hrl⟩ := ho.rd
  have hl0 : 0 < l.length := hl1
  have hlI : (0 : Int) < (l.length : Int) := by omega
  have hql1 : l.length ≤ ql := hrl.1
  have hql2 : ql ≤ 2 ^ 63 - 1 := hrl.2.1
  obtain ⟨bl, ol, e1, hcc⟩ := hrl.2.2.2 hl0
  subst e1
  obtain ⟨c, hc⟩ : ∃ c, l[0]? = some c := ⟨l[0], by simp [hl0]⟩
  obtain ⟨us, hrep, hcell⟩ := hcc 0 c hc
  obtain rfl := cert_rep hrep
  have m0 := hcell 0 _ rfl
  have m1 := hcell 1 _ rfl
  have m2 := hcell 2 _ rfl
  rw [show certC.n = 3 from rfl] at m0 m1 m2
  simp only [Nat.zero_mul, Nat.add_zero] at m0 m1 m2
  have hbl : bl ≠ w.heap.size + 1 := by
    have h1 : v5.heap.size ≤ bl := (ho.ins bl (List.mem_append_left _ (mem_opt.2 rfl))).1
    have h2 := hgw5.size
    have h3 := hz5.out
    omega
  have g0 := Gen.But.cell (b := w.heap.size + 1) m0 hbl
  have g1 := Gen.But.cell (b := w.heap.size + 1) m1 hbl
  have g2 := Gen.But.cell (b := w.heap.size + 1) m2 hbl
  have hgall := grownBy_trans (grownBy_trans (grownBy_trans hgw1 hgw3) hgw5) hgw7
  replace R := R.other hgall (fun e => by simp at e)
  replace BW := BW.grown hgall (by omega) (fun k hk => by simp at hk; omega)
  clear hcc hcell hrep hc m0 m1 m2 hgw1 hgw3 hgw5 hgw7 hgall ho hrl hl1
  refine Gen.wpM_more (Gen.But.pre (w.heap.size + 1)) [8, 9, 10, 11, 12] 5 0 rfl (by kernel_rfl) (by kernel_rfl) (by kernel_rfl) (by kernel_rfl) ?_
  simp only [opsAt, List.getElem?_toArray, List.getElem?_cons_zero, List.getElem?_cons_succ]
  go_simp
  repeat (go_big_quiet_step (fail))
  refine wpQuiet_nil ?_
  refine Gen.wpM_end (by kernel_rfl) rfl (by kernel_rfl) (by decide) ?_
  rintro _ ⟨n9, rfl⟩
  simp only [List.drop_succ_cons, List.drop_zero]
  replace R : Arr (v7.drewN n9) w.heap.size 41 [.int .i64 0, .int .i64 0, .int .i64 0] := R
  replace BW : Below w.heap.size w (v7.drewN n9) := BW.trans ⟨rfl, rfl, rfl, Nat.le_refl _, fun _ _ => rfl⟩
  have KX : Hid (Own (v7.drewN n9) w1.heap.size (.slice px x.length qx) x) := kx
  have KC : Hid (Own (v7.drewN n9) v3.heap.size (.slice pc ctx.length qc) ctx) := kc
  have hzw : Hid (w.heap.size < w1.heap.size ∧ w.heap.size < v3.heap.size) := ⟨by omega, by have := hz5.out; omega⟩
  clear g0 g1 g2 hne kx kc
  generalize v7.drewN n9 = W at *
  have c0 := (R.cell 0).trans (show _ = some _ from rfl)
  have c1 := (R.cell 1).trans (show _ = some _ from rfl)
  have c2 := (R.cell 2).trans (show _ = some _ from rfl)
  have fz := R.frozen
  clear R
  go_wp2_with fail
  exact bodyPost_ret (v := .tuple #[.slice px x.length qx, .int .i64 r, .slice pc ctx.length qc, .agg #[.int .i64 c.1, .int .i64 c.2.1, .int .i64 c.2.2]]) (by simp [results, Tryz.results61, go_sem, c0, c1, c2]) rfl ⟨x, ctx, r, c, px, pc, qx, qc, rfl, hxl, hcl, Rd.own (((KX.out.set (a := ⟨w.heap.size, 0, none⟩) hzw.out.1 _).set (a := ⟨w.heap.size, 1, none⟩) hzw.out.1 _).set (a := ⟨w.heap.size, 2, none⟩) hzw.out.1 _), Rd.own (((KC.out.set (a := ⟨w.heap.size, 0, none⟩) hzw.out.2 _).set (a := ⟨w.heap.size, 1, none⟩) hzw.out.2 _).set (a := ⟨w.heap.size, 2, none⟩) hzw.out.2 _), (fun _ y hy => ⟨by have h := KX.out.ge y.block (by rw [hy]; rfl); have := hzw.out.1; omega, by simp only [World.size_setCell]; exact KX.out.lt y.block (by rw [hy]; rfl)⟩), (fun _ y hy => ⟨by have h := KC.out.ge y.block (by rw [hy]; rfl); have := hzw.out.2; omega, by simp only [World.size_setCell]; exact KC.out.lt y.block (by rw [hy]; rfl)⟩), ((BW.setCell (Nat.le_refl _) _).setCell (Nat.le_refl _) _).setCell (Nat.le_refl _) _⟩
set_option maxRecDepth 4000 in
set_option maxHeartbeats 2000000 in
theorem drawMa_c (p : Option Addr) (q : Nat) (cs : List UInt8) (w : World) (hr : Rd w p q cs) :
    Calls Tryz.prog 15 #[.slice p cs.length q] w fun e w' => ∃ (x ctx : List UInt8) (r place : Int) (c : CertD) (px pc : Option Addr) (qx qc : Nat), e = .returned (.tuple #[.slice px x.length qx, .int .i64 r, .slice pc ctx.length qc, .agg #[.int .i64 c.1, .int .i64 c.2.1, .int .i64 c.2.2], .int .i64 place]) ∧ x.length ≤ 32 ∧ ctx.length ≤ 21 ∧ -1 ≤ place ∧ place ≤ 40 ∧ Rd w' px qx x ∧ Rd w' pc qc ctx ∧ Below w.heap.size w w' := by
  have R := Arr.new w [.int .i64 0, .int .i64 0, .int .i64 0] 41
  have BW := alloc_below w (.cells #[.int .i64 0, .int .i64 0, .int .i64 0] 41)
  have K1 := drawAd_c p q cs _ (hr.keep BW)
  go_enter Tryz.func15, Tryz.ntmps15
  go_wp2_with fail
  refine K1.mono ?_
  rintro e w1 ⟨x, ctx, r, c, px, pc, qx, qc, rfl, hxl, hcl, rx, rc, ax, ac, hb1⟩
  have NX : Hid (0 < x.length → ∀ y, px = some y → y.block ≠ w.heap.size) := fun h y hy e => by have h1 := (ax h y hy).1; rw [size_alloc] at h1; omega
  have NC : Hid (0 < ctx.length → ∀ y, pc = some y → y.block ≠ w.heap.size) := fun h y hy e => by have h1 := (ac h y hy).1; rw [size_alloc] at h1; omega
  have HBX : Hid (0 < x.length → ∀ y, px = some y → y.block < (w1.alloc (.cells #[.int .i64 c.1, .int .i64 c.2.1, .int .i64 c.2.2] 41)).heap.size) := fun h y hy => by rw [size_alloc]; exact Nat.lt_succ_of_lt (ax h y hy).2
  have HBC : Hid (0 < ctx.length → ∀ y, pc = some y → y.block < (w1.alloc (.cells #[.int .i64 c.1, .int .i64 c.2.1, .int .i64 c.2.2] 41)).heap.size) := fun h y hy => by rw [size_alloc]; exact Nat.lt_succ_of_lt (ac h y hy).2
  have HWL : Hid (w1.heap.size < (w1.alloc (.cells #[.int .i64 c.1, .int .i64 c.2.1, .int .i64 c.2.2] 41)).heap.size) := by show _ < _; rw [size_alloc]; exact Nat.lt_succ_self _
  have HWV : Hid (w.heap.size < (w1.alloc (.cells #[.int .i64 c.1, .int .i64 c.2.1, .int .i64 c.2.2] 41)).heap.size) := by show _ < _; rw [size_alloc]; have h := hb1.size; rw [size_alloc] at h; omega
  clear ax ac
  have hl1 := alloc_below w1 (.cells #[.int .i64 c.1, .int .i64 c.2.1, .int .i64 c.2.2] 41)
  have L := Arr.new w1 [.int .i64 c.1, .int .i64 c.2.1, .int .i64 c.2.2] 41
  replace R := (R.stay hb1).stay hl1
  replace BW := Below.step (Below.step BW hb1) hl1
  replace rx := rx.keep hl1
  replace rc := rc.keep hl1
  have K2 := l1Later_c p q cs 4 _ (hr.keep BW) (by decide)
  clear hr hb1 hl1 K1
  go_wp2_with fail
  generalize hV : w1.alloc (.cells #[.int .i64 c.1, .int .i64 c.2.1, .int .i64 c.2.2] 41) = V at *
  clear hV
  refine K2.mono ?_
  rintro e w2 ⟨rfl, hs, hb2, hlt⟩
  replace R := R.stay hb2
  replace L := L.stay hb2
  replace BW := Below.step BW hb2
  replace rx := rx.keep hb2
  replace rc := rc.keep hb2
  clear hb2 K2
  go_wp2_with fail
  have hne := Gen.But.some V.heap.size w2
  have hwl : Hid (w1.heap.size < V.heap.size) := HWL.out
  have g0 := Gen.But.cell (b := V.heap.size) ((L.cell 0).trans (show _ = some _ from rfl)) (show w1.heap.size ≠ V.heap.size by have := hwl.out; omega)
  have g1 := Gen.But.cell (b := V.heap.size) ((L.cell 1).trans (show _ = some _ from rfl)) (show w1.heap.size ≠ V.heap.size by have := hwl.out; omega)
  have g2 := Gen.But.cell (b := V.heap.size) ((L.cell 2).trans (show _ = some _ from rfl)) (show w1.heap.size ≠ V.heap.size by have := hwl.out; omega)
  refine Gen.wp_region_pick (Gen.But.pre V.heap.size) [0, 1, 2, 3, 4] 10 5 2 rfl rfl rfl (by kernel_rfl) (by kernel_rfl) (by kernel_rfl) (by kernel_rfl) ?_
  simp only [opsAt, List.getElem?_toArray, List.getElem?_cons_zero, List.getElem?_cons_succ]
  repeat (go_big_quiet_step (fail))
  refine wpQuiet_nil ?_
  clear g0 g1 g2 hne L
  refine Gen.wpM_only (i := 5) (by kernel_rfl) ?_
  refine Gen.mOp_make rfl (by go_simp) ?_
  rintro _ ⟨n5, rfl⟩
  refine ⟨.slice (some ⟨(w2.drewN n5).heap.size, 0, none⟩) 5 5, (w2.drewN n5).alloc (.cells #[.int .i64 0, .int .i64 1, .int .i64 39, .int .i64 40, .int .i64 (-1)] 2), by go_simp, ⟨⟨_, World.grownBy_alloc _ _ _⟩, rfl⟩, ?_⟩
  refine Gen.wpM_only (i := 6) (by kernel_rfl) ?_
  refine Gen.mOp_call rfl (by go_simp) 44 _ #[.pointer (some ⟨V.heap.size, 0, none⟩), .slice (some ⟨(w2.drewN n5).heap.size, 0, none⟩) 5 5] (fun w => by go_simp) rfl ?_
  rintro _ ⟨n6, rfl⟩
  have hbd : Below w2.heap.size w2 (((w2.drewN n5).alloc (.cells #[.int .i64 0, .int .i64 1, .int .i64 39, .int .i64 40, .int .i64 (-1)] 2)).drewN n6) := Below.trans (Below.trans (b := w2.drewN n5) ⟨rfl, rfl, rfl, Nat.le_refl _, fun _ _ => rfl⟩ (alloc_below (w2.drewN n5) _)) ⟨rfl, rfl, rfl, Nat.le_refl _, fun _ _ => rfl⟩
  refine (l1Pick_c V.heap.size p q cs (5 + 7 * (4 : Nat)) (w2.drewN n5).heap.size [0, 1, 39, 40, -1] 5 _ (hs.keep hbd) (by omega) (by omega) rfl (by decide) (by decide) (by show V.heap.size ≠ w2.heap.size; omega) (new_ints (w2.drewN n5) _ _ [0, 1, 39, 40, -1] rfl)).mono ?_
  rintro e w3 ⟨place, hpl, rfl, -, hg6⟩
  refine ⟨_, rfl, ⟨⟨w3, hg6⟩, rfl⟩, ?_⟩
  have hp1 : -1 ≤ place ∧ place ≤ 40 := by simp at hpl; omega
  replace rx := Rd.draw (rx.keep hbd) hg6 HBX.out
  replace rc := Rd.draw (rc.keep hbd) hg6 HBC.out
  replace R := (R.stay hbd).other hg6 (fun e => by have h := HWV.out; simp at e; omega)
  replace BW := (Below.step BW hbd).grown hg6 (by have h1 := HWV.out; have h2 := hbd.size; omega) (fun k hk => by have h := HWV.out; simp at hk; omega)
  have hne := Gen.But.some V.heap.size w3
  clear hbd hg6 hpl hs
  refine Gen.wpM_more (Gen.But.pre V.heap.size) [7, 8, 9] 3 0 rfl (by kernel_rfl) (by kernel_rfl) (by kernel_rfl) (by kernel_rfl) ?_
  simp only [opsAt, List.getElem?_toArray, List.getElem?_cons_zero, List.getElem?_cons_succ]
  go_simp
  repeat (go_big_quiet_step (fail))
  refine wpQuiet_nil ?_
  refine Gen.wpM_end (by kernel_rfl) rfl (by kernel_rfl) (by decide) ?_
  rintro _ ⟨n9, rfl⟩
  simp only [List.drop_succ_cons, List.drop_zero]
  replace R : Arr (w3.drewN n9) w.heap.size 41 [.int .i64 0, .int .i64 0, .int .i64 0] := R
  replace BW : Below w.heap.size w (w3.drewN n9) := BW.trans ⟨rfl, rfl, rfl, Nat.le_refl _, fun _ _ => rfl⟩
  have HX : Hid (Rd (w3.drewN n9) px qx x) := rx
  have HC : Hid (Rd (w3.drewN n9) pc qc ctx) := rc
  clear hne rx rc
  generalize w3.drewN n9 = W at *
  have c0 := (R.cell 0).trans (show _ = some _ from rfl)
  have c1 := (R.cell 1).trans (show _ = some _ from rfl)
  have c2 := (R.cell 2).trans (show _ = some _ from rfl)
  have fz := R.frozen
  clear R
  go_wp2_with fail
  exact bodyPost_ret (v := .tuple #[.slice px x.length qx, .int .i64 r, .slice pc ctx.length qc, .agg #[.int .i64 c.1, .int .i64 c.2.1, .int .i64 c.2.2], .int .i64 place]) (by simp [results, Tryz.results15, go_sem, c0, c1, c2]) rfl ⟨x, ctx, r, place, c, px, pc, qx, qc, rfl, hxl, hcl, hp1.1, hp1.2, ((HX.out.set (x := ⟨w.heap.size, 0, none⟩) NX.out _).set (x := ⟨w.heap.size, 1, none⟩) NX.out _).set (x := ⟨w.heap.size, 2, none⟩) NX.out _, ((HC.out.set (x := ⟨w.heap.size, 0, none⟩) NC.out _).set (x := ⟨w.heap.size, 1, none⟩) NC.out _).set (x := ⟨w.heap.size, 2, none⟩) NC.out _, ((BW.setCell (Nat.le_refl _) _).setCell (Nat.le_refl _) _).setCell (Nat.le_refl _) _⟩
end Go.Proofs.YtflhoefocjmihaaGreatDoor

