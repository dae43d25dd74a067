/- SendRecord, HearRecord, UpdateStream, KeysOf of the specification, at every argument (written by tools/rec_s.py). What was there stays. -/
import Derived.Test.YtdemfbbjdnjolabDoorJoint6
import Derived.Test.YtdemfbbjdnjolabDoorAppZ
namespace Go.Proofs.YtdemfbbjdnjolabDoor
open Go.ChangeShapes Go.WideShapes Go.ChangeAt Go.RowKit

theorem lit_own (w : World) (bs : List UInt8) (B : Nat) (hB : B ≤ w.heap.size) (hl : bs.length ≤ 1000) : Own (w.alloc (.cells (bs.map u8v).toArray 5)) B (.slice (some ⟨w.heap.size, 0, none⟩) bs.length bs.length) bs := by
  have h := World.ownsRow_lit (base := B) (e := 5) (size := 1) w (bs.map u8v).toArray bs.length hB (by unfold maxLen; omega) (by simp)
  exact h
theorem byt_own {w : World} {B : Nat} {u : Value} {bs : List UInt8} (h : Own w B u bs) : bytC.own w B bs [u] u.ownBlock.toList := ⟨u, rfl, h, rfl⟩
theorem record_own {w : World} {B : Nat} {c k : Int} {bs : List UInt8} {s : StreamD} {u v : Value} (m : Nat) (h1 : Own w B u bs) (h2 : Own w B v s.1) (hl : ∀ k, u.ownBlock = some k → k < m) (hg : ∀ k, v.ownBlock = some k → m ≤ k) :
    recordResultC.own w B (c, k, bs, s) [.int .i64 c, .int .i64 k, u, v, .int .i64 s.2.1, .int .i64 s.2.2] ([] ++ ([] ++ (u.ownBlock.toList ++ (v.ownBlock.toList ++ ([] ++ []))))) :=
  own_pair 0 own_int (own_pair 0 own_int (own_pair m (byt_own h1) (own_pair (w.heap.size) (byt_own h2) (own_pair 0 own_int own_int lt_nil (fun _ _ => Nat.zero_le _)) (fun k hk => h2.lt k (mem_opt.1 hk)) (ge_app ge_nil ge_nil)) (fun k hk => hl k (mem_opt.1 hk)) (ge_app (fun k hk => hg k (mem_opt.1 hk)) (ge_app ge_nil ge_nil))) lt_nil (fun _ _ => Nat.zero_le _)) lt_nil (fun _ _ => Nat.zero_le _)
theorem badR_own (w : World) (B : Nat) (c : Int) : recordResultC.own w B (badR c) [.int .i64 c, .int .i64 0, .slice none 0 0, .slice none 0 0, .int .i64 0, .int .i64 0] [] :=
  record_own (s := zeroS) 0 (Own_nil _ _) (Own_nil _ _) (fun k hk => by simp [Value.ownBlock] at hk) (fun k hk => by simp [Value.ownBlock] at hk)

set_option maxRecDepth 4000 in
set_option maxHeartbeats 1000000 in
theorem specUs_k (x : StreamD) (us : List Value) (w : World) (h : streamC.rep w x us) :
    Calls Tryd.prog 5 #[.agg us.toArray] w fun e w' => ∃ us fp, e = .returned (.agg us.toArray) ∧ recordResultC.own w' w.heap.size (usD x) us fp ∧ Below w.heap.size w w' := by
  obtain ⟨p, q, rfl, r⟩ := stream_rep h
  have BW := Below.mk (alloc_below w (.cells #[.slice p x.1.length q, .int .i64 x.2.1, .int .i64 x.2.2] 26)) (.cells #[.int .i64 0, .int .i64 0, .slice none 0 0, .slice none 0 0, .int .i64 0, .int .i64 0] 28)
  have A := (Arr.new w [.slice p x.1.length q, .int .i64 x.2.1, .int .i64 x.2.2] 26).old _ (.cells #[.int .i64 0, .int .i64 0, .slice none 0 0, .slice none 0 0, .int .i64 0, .int .i64 0] 28)
  have R := Arr.new (w.alloc (.cells #[.slice p x.1.length q, .int .i64 x.2.1, .int .i64 x.2.2] 26)) [.int .i64 0, .int .i64 0, .slice none 0 0, .slice none 0 0, .int .i64 0, .int .i64 0] 28
  rw [size_alloc] at R
  have HR : Hid (Rd w p q x.1) := r
  clear h r
  have K := l9Fault_c w.heap.size x p q _ (fun i u hu => (A.cell i).trans hu)
  by_cases ha : stC x = 0
  · rw [ha] at K
    have hst := st_parts ha
    have ce := (A.cell 2).trans (show _ = some _ from rfl)
    by_cases hl : 99 ≤ x.2.2
    · have HE : Hid (usD x = badR 10) := by show _ = _; unfold usD usC; rw [if_pos ha, if_pos hl, if_neg (by decide)]
      clear ha hst
      go_enter Tryd.func5, Tryd.ntmps5
      go_wp2_with fail
      refine (K).mono ?_
      rintro e w1 ⟨rfl, hw⟩
      subst w1
      go_wp2_with fail
      refine (l9Bad_c 10 _).mono ?_
      rintro e w2 ⟨rfl, hb⟩
      replace BW := Below.step BW hb
      replace R := R.stay hb
      have c0 := (R.cell 0).trans (show _ = some _ from rfl)
      have c1 := (R.cell 1).trans (show _ = some _ from rfl)
      have c2 := (R.cell 2).trans (show _ = some _ from rfl)
      have c3 := (R.cell 3).trans (show _ = some _ from rfl)
      have c4 := (R.cell 4).trans (show _ = some _ from rfl)
      have c5 := (R.cell 5).trans (show _ = some _ from rfl)
      have fz := R.frozen
      clear hb R A K ce
      go_wp2_with fail
      refine bodyPost_ret (v := .agg #[.int .i64 10, .int .i64 0, .slice none 0 0, .slice none 0 0, .int .i64 0, .int .i64 0]) (by simp [results, Tryd.results5, go_sem, c0, c1, c2, c3, c4, c5]) rfl ⟨[.int .i64 10, .int .i64 0, .slice none 0 0, .slice none 0 0, .int .i64 0, .int .i64 0], [], rfl, by rw [HE.out]; exact badR_own _ _ _, ?_⟩
      exact ((((((BW.setCell (Nat.le_succ _) _).setCell (Nat.le_succ _) _).setCell (Nat.le_succ _) _).setCell (Nat.le_succ _) _).setCell (Nat.le_succ _) _).setCell (Nat.le_succ _) _)
    · have HE : Hid (usD x = (0, 0, [], (expLabN x.1 updLab [] 32, 0, x.2.2 + 1))) := by show _ = _; unfold usD usC; rw [if_pos ha, if_neg hl, if_pos rfl]
      have hx : x.1.length ≤ 64 := by omega
      have KU : Hid (∀ w, Rd w p q x.1 → Calls Tryd.prog 16 #[.slice p x.1.length q, .string ⟨#[116, 114, 97, 102, 102, 105, 99, 32, 117, 112, 100]⟩, .slice none 0 0, .int .i64 32] w fun e w' => ∃ u, e = .returned u ∧ Own w' w.heap.size u (expLabN x.1 updLab [] 32) ∧ Below w.heap.size w w') := fun w h => by
        rw [updLab_str]
        exact l3ExpandLabel_c p none q 0 x.1 updLab [] 32 w h (rd_nil w) hx (by decide) (by decide) (by decide)
      have he1 : x.2.2 < 99 := by omega
      have he0 : 0 ≤ x.2.2 := hst.2.2.2.1
      have cs := (A.cell 0).trans (show _ = some _ from rfl)
      clear ha hst hl
      go_enter Tryd.func5, Tryd.ntmps5
      go_wp2_with fail
      refine (K).mono ?_
      rintro e w1 ⟨rfl, hw⟩
      subst w1
      generalize (w.alloc (.cells #[.slice p x.1.length q, .int .i64 x.2.1, .int .i64 x.2.2] 26)).alloc (.cells #[.int .i64 0, .int .i64 0, .slice none 0 0, .slice none 0 0, .int .i64 0, .int .i64 0] 28) = w0 at *
      go_wp2_with fail
      have hz0 : Hid (w.heap.size + 2 ≤ w0.heap.size) := R.lt
      have g0 := HW.at (cs)
      have g2 := HW.at (ce)
      have hne := HW.some w0
      refine wp_region_pick [0, 1, 3, 4, 5] 6 1 3 rfl rfl rfl (by kernel_rfl) (by kernel_rfl) (by kernel_rfl) (by kernel_rfl) ?_
      simp only [opsAt, List.getElem?_toArray, List.getElem?_cons_zero, List.getElem?_cons_succ]
      repeat (go_big_quiet_step (fail))
      refine wpQuiet_nil ?_
      refine wpM_only (i := 2) (by kernel_rfl) ?_
      refine mOp_call rfl (by go_simp) 16 _ #[.slice p x.1.length q, .string ⟨#[116, 114, 97, 102, 102, 105, 99, 32, 117, 112, 100]⟩, .slice none 0 0, .int .i64 32] (fun w => by go_simp) rfl ?_
      rintro _ ⟨sd2, rfl⟩
      refine (KU.out _ (HR.out.keep (Below.step BW sd2.h))).mono ?_
      rintro e wd2 ⟨u, rfl, ko, hbx⟩
      obtain ⟨pu, qu, rfl, -⟩ := ko.rd
      rw [expLabN_len] at ko ⊢
      replace ko := ko.lower (B' := w.heap.size + 2) (Nat.le_trans hz0.out sd2.h.size)
      refine ⟨_, rfl, ⟨⟨_, hbx⟩, rfl⟩, ?_⟩
      have hbg := Below.step sd2.h hbx
      replace A := A.stay hbg
      replace R := R.stay hbg
      replace g0 := HW.down g0 hbg
      replace g2 := HW.down g2 hbg
      replace BW := Below.step BW hbg
      replace hne := HW.some wd2
      have zz2 : Hid (w0.heap.size ≤ wd2.heap.size) := hbg.size
      have zs2 : Hid (w0.heap.size ≤ sd2.w.heap.size) := sd2.h.size
      clear hbg hbx
      refine wpM_end (by kernel_rfl) rfl (by kernel_rfl) (by decide) ?_
      rintro _ ⟨sdz, rfl⟩
      simp only [List.drop_succ_cons, List.drop_zero]
      have hbg : Below _ _ sdz.w := sdz.h
      replace A := A.stay hbg
      replace R := R.stay hbg
      replace ko := ko.stay hbg
      replace BW := Below.step BW hbg
      have zzz : Hid (wd2.heap.size ≤ sdz.w.heap.size) := hbg.size
      clear hbg hne g0 g2
      generalize sdz.w = w3 at *
      clear sdz
      have c0 := (R.cell 0).trans (show _ = some _ from rfl)
      have c1 := (R.cell 1).trans (show _ = some _ from rfl)
      have c2 := (R.cell 2).trans (show _ = some _ from rfl)
      have c3 := (R.cell 3).trans (show _ = some _ from rfl)
      have c4 := (R.cell 4).trans (show _ = some _ from rfl)
      have c5 := (R.cell 5).trans (show _ = some _ from rfl)
      have fz := R.frozen
      go_wp2_with fail
      refine bodyPost_ret (v := .agg #[.int .i64 0, .int .i64 0, .slice none 0 0, .slice pu 32 qu, .int .i64 0, .int .i64 (x.2.2 + 1)]) (by simp [results, Tryd.results5, go_sem, c0, c1, c2, c3, c4, c5]) rfl ?_
      rw [HE.out]
      exact ⟨[.int .i64 0, .int .i64 0, .slice none 0 0, .slice pu 32 qu, .int .i64 0, .int .i64 (x.2.2 + 1)], _, rfl, record_own (s := (expLabN x.1 updLab [] 32, 0, x.2.2 + 1)) 0 (Own_nil _ _) (((((((ko.set (Nat.lt_succ_self _) _).set (Nat.lt_succ_self _) _).set (Nat.lt_succ_self _) _).set (Nat.lt_succ_self _) _).set (Nat.lt_succ_self _) _).set (Nat.lt_succ_self _) _).lower (Nat.le_add_right w.heap.size 2)) (fun k hk => by simp [Value.ownBlock] at hk) (fun k hk => Nat.zero_le _), ((((((BW.setCell (Nat.le_succ _) _).setCell (Nat.le_succ _) _).setCell (Nat.le_succ _) _).setCell (Nat.le_succ _) _).setCell (Nat.le_succ _) _).setCell (Nat.le_succ _) _)⟩
  · have HE : Hid (usD x = badR (stC x)) := by show _ = _; unfold usD usC; rw [if_neg ha, if_neg ha]
    have hne : (stC x != 0) = true := by rw [bne_iff_ne]; exact ha
    clear ha
    generalize stC x = ac at *
    go_enter Tryd.func5, Tryd.ntmps5
    go_wp2_with fail
    refine (K).mono ?_
    rintro e w1 ⟨rfl, hw⟩
    subst w1
    go_wp2_with fail
    refine (l9Bad_c ac _).mono ?_
    rintro e w2 ⟨rfl, hb⟩
    replace BW := Below.step BW hb
    replace R := R.stay hb
    have c0 := (R.cell 0).trans (show _ = some _ from rfl)
    have c1 := (R.cell 1).trans (show _ = some _ from rfl)
    have c2 := (R.cell 2).trans (show _ = some _ from rfl)
    have c3 := (R.cell 3).trans (show _ = some _ from rfl)
    have c4 := (R.cell 4).trans (show _ = some _ from rfl)
    have c5 := (R.cell 5).trans (show _ = some _ from rfl)
    have fz := R.frozen
    clear hb R A K
    go_wp2_with fail
    refine bodyPost_ret (v := .agg #[.int .i64 ac, .int .i64 0, .slice none 0 0, .slice none 0 0, .int .i64 0, .int .i64 0]) (by simp [results, Tryd.results5, go_sem, c0, c1, c2, c3, c4, c5]) rfl ⟨[.int .i64 ac, .int .i64 0, .slice none 0 0, .slice none 0 0, .int .i64 0, .int .i64 0], [], rfl, by rw [HE.out]; exact badR_own _ _ _, ?_⟩
    exact ((((((BW.setCell (Nat.le_succ _) _).setCell (Nat.le_succ _) _).setCell (Nat.le_succ _) _).setCell (Nat.le_succ _) _).setCell (Nat.le_succ _) _).setCell (Nat.le_succ _) _)
theorem keys_own {w : World} {B : Nat} {c : Int} {ks bs : List UInt8} {u v : Value} (m : Nat) (h1 : Own w B u ks) (h2 : Own w B v bs) (hl : ∀ k, u.ownBlock = some k → k < m) (hg : ∀ k, v.ownBlock = some k → m ≤ k) :
    keysResultC.own w B (c, ks, bs) [.int .i64 c, u, v] ([] ++ (u.ownBlock.toList ++ v.ownBlock.toList)) :=
  own_pair 0 own_int (own_pair m (byt_own h1) (byt_own h2) (fun k hk => hl k (mem_opt.1 hk)) (fun k hk => hg k (mem_opt.1 hk))) lt_nil (fun _ _ => Nat.zero_le _)
end Go.Proofs.YtdemfbbjdnjolabDoor

