/- RevokeIn and TimeIn of the specification, by their codes (written by tools/ses_t.py). What was there stays. -/
import Derived.Test.YtflhoefocjmihaaSesP
namespace Go.Proofs.Ytflhoefocjmihaa
open Go.ChangeShapes Go.WideShapes Go.ChangeAt Go.RowKit

theorem nilH_row (w : World) (B : Nat) : w.ownsRow B 40 2 (.slice none 0 0) 0 [] := World.ownsRow_nil _ _ _ _
theorem nowN_take {l : List HeldD} {now : Int} {k : Nat} {a : HeldD} (h : l[k]? = some a) : nowN (l.take (k + 1)) now = if now ≤ a.2 then nowN (l.take k) now ++ [a] else nowN (l.take k) now := by
  unfold nowN
  rw [List.take_add_one, h, List.filter_append]
  by_cases hn : now ≤ a.2
  · rw [if_pos hn]; simp [hn]
  · rw [if_neg hn]; simp [hn]
theorem nowN_le (l : List HeldD) (now : Int) (k : Nat) : (nowN (l.take k) now).length ≤ l.length := by
  have := List.length_filter_le (fun h : HeldD => decide (now ≤ h.2)) (l.take k)
  rw [List.length_take] at this
  unfold nowN; omega
set_option maxRecDepth 4000 in
set_option maxHeartbeats 4000000 in
theorem l14Time_c (x : SesD) (us : List Value) (now : Int) (w : World) (h : sessionC.rep w x us) (hS : Ses x) :
    Calls Try.prog 24 #[.agg us.toArray, .int .i64 now] w fun e w' => ∃ s1 t1 s3 t3 s4 t4 s5 n5 t5, e = .returned (.agg #[.slice s1 x.1.length t1, .int .i64 x.2.1, .slice s3 x.2.2.1.length t3, .slice s4 x.2.2.2.1.length t4, .slice s5 n5 t5]) ∧ Below w.heap.size w w' := by
  obtain ⟨p1, q1, p3, q3, p4, q4, p5, q5, rfl, r1, r3, r4, r5⟩ := session_rep h
  have A0 := Arr.new w [.slice p1 x.1.length q1, .int .i64 x.2.1, .slice p3 x.2.2.1.length q3, .slice p4 x.2.2.2.1.length q4, .slice p5 x.2.2.2.2.length q5] 27
  have B0 := alloc_below w (.cells #[.slice p1 x.1.length q1, .int .i64 x.2.1, .slice p3 x.2.2.1.length q3, .slice p4 x.2.2.2.1.length q4, .slice p5 x.2.2.2.2.length q5] 27)
  have R := Arr.new (w.alloc (.cells #[.slice p1 x.1.length q1, .int .i64 x.2.1, .slice p3 x.2.2.1.length q3, .slice p4 x.2.2.2.1.length q4, .slice p5 x.2.2.2.2.length q5] 27)) [.slice none 0 0, .int .i64 0, .slice none 0 0, .slice none 0 0, .slice none 0 0] 27
  rw [size_alloc] at R
  have A := A0.old _ (.cells #[.slice none 0 0, .int .i64 0, .slice none 0 0, .slice none 0 0, .slice none 0 0] 27)
  have BW := Below.mk B0 (.cells #[.slice none 0 0, .int .i64 0, .slice none 0 0, .slice none 0 0, .slice none 0 0] 27)
  have hz2 : Hid (((w.alloc (.cells #[.slice p1 x.1.length q1, .int .i64 x.2.1, .slice p3 x.2.2.1.length q3, .slice p4 x.2.2.2.1.length q4, .slice p5 x.2.2.2.2.length q5] 27)).alloc (.cells #[.slice none 0 0, .int .i64 0, .slice none 0 0, .slice none 0 0, .slice none 0 0] 27)).heap.size = w.heap.size + 2) := by show _ = _; rw [size_alloc, size_alloc]
  have hres : Hid ((Try.prog.info? 27).map (·.size) = some 5) := by show _ = _; kernel_rfl
  have HR : Hid (RdL holdC w p5 q5 x.2.2.2.2) := r5
  have HL : Hid (x.2.2.2.2.length ≤ 6) := hS.ln.2.2
  have hq1 : x.2.2.2.2.length ≤ q5 := r5.1
  have hq2 : q5 ≤ 2 ^ 63 - 1 := r5.2.1
  have K1 := l14Copy_c x _ _ (sessionC.keep h BW) hS
  have c0 := (A.cell 0).trans (show _ = some _ from rfl)
  have c1 := (A.cell 1).trans (show _ = some _ from rfl)
  have c2 := (A.cell 2).trans (show _ = some _ from rfl)
  have c3 := (A.cell 3).trans (show _ = some _ from rfl)
  have c4 := (A.cell 4).trans (show _ = some _ from rfl)
  clear h hS r1 r3 r4 r5 A0 B0
  go_enter Try.func24, Try.ntmps24
  go_wp2_with fail
  generalize hV : (w.alloc (.cells #[.slice p1 x.1.length q1, .int .i64 x.2.1, .slice p3 x.2.2.1.length q3, .slice p4 x.2.2.2.1.length q4, .slice p5 x.2.2.2.2.length q5] 27)).alloc (.cells #[.slice none 0 0, .int .i64 0, .slice none 0 0, .slice none 0 0, .slice none 0 0] 27) = V at *
  have hzV : Hid (V.heap.size = w.heap.size + 2) := hz2.out
  clear hV hz2
  refine K1.mono ?_
  rintro e w1 ⟨s1, t1, s3, t3, s4, t4, s5, t5, xs, fp, rfl, -, hb⟩
  replace R := R.stay hb
  replace A := A.stay hb
  replace BW := Below.step BW hb
  have hz1 : Hid (w.heap.size + 2 ≤ w1.heap.size) := by have h := hb.size; rw [hzV.out] at h; exact h
  clear K1 hb c0 c1 c2 c3 c4 hzV xs fp
  have AZ := Arr.new w1 [.slice s1 x.1.length t1, .int .i64 x.2.1, .slice s3 x.2.2.1.length t3, .slice s4 x.2.2.2.1.length t4, .slice none 0 0] 27
  replace R := R.old w1 (.cells #[.slice s1 x.1.length t1, .int .i64 x.2.1, .slice s3 x.2.2.1.length t3, .slice s4 x.2.2.2.1.length t4, .slice none 0 0] 27)
  replace A := A.old w1 (.cells #[.slice s1 x.1.length t1, .int .i64 x.2.1, .slice s3 x.2.2.1.length t3, .slice s4 x.2.2.2.1.length t4, .slice none 0 0] 27)
  have BW1 := Below.mk BW (.cells #[.slice s1 x.1.length t1, .int .i64 x.2.1, .slice s3 x.2.2.1.length t3, .slice s4 x.2.2.2.1.length t4, .slice none 0 0] 27)
  have O1 := nilH_row (w1.alloc (.cells #[.slice s1 x.1.length t1, .int .i64 x.2.1, .slice s3 x.2.2.1.length t3, .slice s4 x.2.2.2.1.length t4, .slice none 0 0] 27)) (w1.heap.size + 1)
  have hsz0 : w1.heap.size + 1 ≤ (w1.alloc (.cells #[.slice s1 x.1.length t1, .int .i64 x.2.1, .slice s3 x.2.2.1.length t3, .slice s4 x.2.2.2.1.length t4, .slice none 0 0] 27)).heap.size := by rw [size_alloc]; exact Nat.le_refl _
  go_wp2_with fail
  go_loopw [6] (fun i wr => ∃ (k : Nat) (v : Value), k ≤ x.2.2.2.2.length ∧ i = .int .i64 k ∧ Arr wr w1.heap.size 27 [.slice s1 x.1.length t1, .int .i64 x.2.1, .slice s3 x.2.2.1.length t3, .slice s4 x.2.2.2.1.length t4, v] ∧ wr.ownsRow (w1.heap.size + 1) 40 2 v (nowN (x.2.2.2.2.take k) now).length (cellsH (nowN (x.2.2.2.2.take k) now)) ∧ Arr wr w.heap.size 27 [.slice p1 x.1.length q1, .int .i64 x.2.1, .slice p3 x.2.2.1.length q3, .slice p4 x.2.2.2.1.length q4, .slice p5 x.2.2.2.2.length q5] ∧ Arr wr (w.heap.size + 1) 27 [.slice none 0 0, .int .i64 0, .slice none 0 0, .slice none 0 0, .slice none 0 0] ∧ w1.heap.size + 1 ≤ wr.heap.size ∧ Below w.heap.size w wr)
    (fun i _ => x.2.2.2.2.length - (intOf i).toNat)
  case atStart => exact ⟨0, _, Nat.zero_le _, rfl, AZ, O1, A, R, hsz0, BW1⟩
  case round =>
    clear AZ O1 A R hsz0 BW1
    obtain ⟨k, v, hk, rfl, AZ, hrow, A, R, hsz, BW⟩ := hrel
    obtain ⟨wq, hwq⟩ : ∃ z, z = wr := ⟨_, rfl⟩
    subst hwq
    obtain ⟨po, qo, rfl, -⟩ := ownsRow_raw hrow
    by_cases hlt : k < x.2.2.2.2.length
    · have hI : (k : Int) < (x.2.2.2.2.length : Int) := by omega
      obtain ⟨b, o, e1, hcc⟩ := (HR.out.keep BW).2.2.2 (by omega)
      subst e1
      obtain ⟨a, ha⟩ : ∃ a, x.2.2.2.2[k]? = some a := ⟨x.2.2.2.2[k], by simp [hlt]⟩
      obtain ⟨us, hrep, hcell⟩ := hcc k a ha
      obtain rfl := hold_rep hrep
      have m0 := hcell 0 _ rfl
      have m1 := hcell 1 _ rfl
      rw [show holdC.n = 2 from rfl] at m0 m1
      rw [Nat.add_zero] at m0
      have HBw : Hid (b < w.heap.size) := by
        have h0 := HR.out.2.2.2 (by omega)
        obtain ⟨b', o', e', hc'⟩ := h0
        cases e'
        obtain ⟨us', hrep', hcell'⟩ := hc' k a ha
        obtain rfl := hold_rep hrep'
        exact World.block_lt_of_cell? w _ (hcell' 0 _ rfl)
      clear hrep hcell hcc
      have HA : Hid (x.2.2.2.2[k]? = some a) := ha
      have c4 := (A.cell 4).trans (show _ = some _ from rfl)
      have d4 := (AZ.cell 4).trans (show _ = some _ from rfl)
      have HLO : Hid ((nowN (x.2.2.2.2.take k) now).length ≤ 10000) := by have := nowN_le x.2.2.2.2 now k; have := HL.out; show _ ≤ _; omega
      clear ha
      by_cases hn : now ≤ a.2
      · have h2 : Hid (nowN (x.2.2.2.2.take (k + 1)) now = nowN (x.2.2.2.2.take k) now ++ [a]) := by show _ = _; rw [nowN_take HA.out, if_pos hn]
        have i1 : a.2 ≥ now := hn
        have gm0 := Gen.low_cell (B := w1.heap.size + 1) m0 (by have := HBw.out; have := hz1.out; first | omega | (simp; omega) | simp)
        have gm1 := Gen.low_cell (B := w1.heap.size + 1) m1 (by have := HBw.out; have := hz1.out; first | omega | (simp; omega) | simp)
        have gc4 := Gen.low_cell (B := w1.heap.size + 1) c4 (by have := HBw.out; have := hz1.out; first | omega | (simp; omega) | simp)
        have gd4 := Gen.low_cell (B := w1.heap.size + 1) d4 (by have := HBw.out; have := hz1.out; first | omega | (simp; omega) | simp)
        have hne := Gen.low_some (w1.heap.size + 1) wq
        go_wp2_with fail
        refine Gen.wp_region_pick (Gen.low_pre (w1.heap.size + 1)) [0, 1, 2, 3, 4, 5, 6] 10 3 1 rfl rfl rfl (by kernel_rfl) (by kernel_rfl) (by kernel_rfl) (by kernel_rfl) ?_
        simp only [opsAt, List.getElem?_toArray, List.getElem?_cons_zero, List.getElem?_cons_succ]
        repeat (go_big_quiet_step (fail))
        refine wpQuiet_nil ?_
        clear gm0 gm1 gc4 gd4 hne
        refine Gen.wpM_only (i := 7) (by kernel_rfl) ?_
        refine Gen.mOp_make rfl (by go_simp) ?_
        rintro _ ⟨n7, rfl⟩
        refine ⟨.slice (some ⟨(wq.drewN n7).heap.size, 0, none⟩) 1 1, (wq.drewN n7).alloc (.cells #[.int .i64 a.1, .int .i64 a.2] 40), by go_simp, ⟨⟨_, (alloc_below _ _).mono hsz⟩, rfl⟩, ?_⟩
        refine Gen.wpM_only (i := 8) (by kernel_rfl) ?_
        refine Gen.mOp_list rfl (by go_simp) (by kernel_rfl) ?_
        rintro _ ⟨n8, rfl⟩
        obtain ⟨wv, hwv⟩ : ∃ z, z = (wq.drewN n7).drewN n8 := ⟨_, rfl⟩
        rw [show ((wq.drewN n7).alloc (.cells #[.int .i64 a.1, .int .i64 a.2] 40)).drewN n8 = wv.alloc (.cells #[.int .i64 a.1, .int .i64 a.2] 40) from by rw [hwv]; rfl]
        rw [show (wq.drewN n7).heap.size = wv.heap.size from by rw [hwv]; rfl]
        have hbq : Below wq.heap.size wq wv := by rw [hwv]; exact ⟨rfl, rfl, rfl, Nat.le_refl _, fun _ _ => rfl⟩
        clear hwv
        replace hrow := ownsRow_fr (w' := wv) hrow (fun j hj => hbq.block j (World.ownsRow.lt hrow j hj).2)
        replace m0 := cell_keep m0 hbq
        replace m1 := cell_keep m1 hbq
        replace c4 := cell_keep c4 hbq
        replace d4 := cell_keep d4 hbq
        replace A := A.stay hbq
        replace AZ := AZ.stay hbq
        replace R := R.stay hbq
        replace BW := Below.step BW hbq
        replace hsz := Nat.le_trans hsz hbq.size
        clear hbq wq
        obtain ⟨wq, hwq⟩ : ∃ z, z = wv := ⟨_, rfl⟩
        subst hwq
        refine wpList_append_held (out := nowN (x.2.2.2.2.take k) now) (h := a) rfl (.tmp 26) (.tmp 32) rfl hrow rfl rfl hsz HLO.out ?_
        intro p6 q6 w6 hrow6 hg6 hb6
        refine ⟨rfl, hb6, ?_⟩
        have hlt6 := World.ownsRow.lt hrow
        have hal := alloc_below wq (.cells #[.int .i64 a.1, .int .i64 a.2] 40)
        replace m0 := cell_keep m0 hal
        replace m1 := cell_keep m1 hal
        replace c4 := cell_keep c4 hal
        replace d4 := cell_keep d4 hal
        replace A := (A.stay hal).other hg6 (fun e => by have h1 := (hlt6 _ e).1; have h2 := hz1.out; first | omega | (simp at h1; omega))
        replace AZ := (AZ.stay hal).other hg6 (fun e => by have h1 := (hlt6 _ e).1; have h2 := hz1.out; first | omega | (simp at h1; omega))
        replace R := (R.stay hal).other hg6 (fun e => by have h1 := (hlt6 _ e).1; have h2 := hz1.out; first | omega | (simp at h1; omega))
        replace m0 := cell_other m0 hg6 (fun e => by have h1 := (hlt6 _ e).1; have h2 := HBw.out; have h3 := hz1.out; first | omega | (simp at h1; omega))
        replace m1 := cell_other m1 hg6 (fun e => by have h1 := (hlt6 _ e).1; have h2 := HBw.out; have h3 := hz1.out; first | omega | (simp at h1; omega))
        replace c4 := cell_other c4 hg6 (fun e => by have h1 := (hlt6 _ e).1; have h2 := HBw.out; have h3 := hz1.out; first | omega | (simp at h1; omega))
        replace d4 := cell_other d4 hg6 (fun e => by have h1 := (hlt6 _ e).1; have h2 := HBw.out; have h3 := hz1.out; first | omega | (simp at h1; omega))
        have hsz6 : w1.heap.size + 1 ≤ w6.heap.size := Nat.le_trans (Nat.le_trans hsz hal.size) hb6.size
        replace BW := (Below.step BW hal).trans (hb6.mono (by have := hz1.out; omega))
        clear hrow hsz hg6 hb6 hlt6 hal
        have hsz := hsz6
        clear hsz6
        have hrow := hrow6
        clear hrow6
        have hne := Gen.low_some (w1.heap.size + 1) w6
        refine Gen.wpM_more (Gen.low_pre (w1.heap.size + 1)) [9] 1 0 rfl (by kernel_rfl) (by kernel_rfl) (by kernel_rfl) (by kernel_rfl) ?_
        simp only [opsAt, List.getElem?_toArray, List.getElem?_cons_zero, List.getElem?_cons_succ]
        go_simp
        repeat (go_big_quiet_step (fail))
        refine wpQuiet_nil ?_
        clear hne
        refine Gen.wpM_end (by kernel_rfl) rfl (by kernel_rfl) (by decide) ?_
        rintro _ ⟨n9, rfl⟩
        have hbq : Below w6.heap.size w6 (w6.drewN n9) := ⟨rfl, rfl, rfl, Nat.le_refl _, fun _ _ => rfl⟩
        replace hrow := ownsRow_fr (w' := w6.drewN n9) hrow (fun j hj => hbq.block j (World.ownsRow.lt hrow j hj).2)
        replace d4 := cell_keep d4 hbq
        replace A := A.stay hbq
        replace AZ := AZ.stay hbq
        replace R := R.stay hbq
        replace BW := Below.step BW hbq
        replace hsz := Nat.le_trans hsz hbq.size
        clear hbq m0 m1 c4
        generalize w6.drewN n9 = w7 at *
        clear w6
        simp only [List.drop_succ_cons, List.drop_zero]
        go_simp
        obtain ⟨w6, hw6⟩ : ∃ z, z = w7 := ⟨_, rfl⟩
        subst hw6
        have fz := AZ.frozen 4
        have AS := AZ.set 4 (.slice p6 ((nowN (x.2.2.2.2.take k) now).length + 1) q6)
        have A2 := A.setOther (a := ⟨w1.heap.size, 4, none⟩) (by have := hz1.out; show w.heap.size ≠ w1.heap.size; omega) (.slice p6 ((nowN (x.2.2.2.2.take k) now).length + 1) q6)
        have R2 := R.setOther (a := ⟨w1.heap.size, 4, none⟩) (by have := hz1.out; show w.heap.size + 1 ≠ w1.heap.size; omega) (.slice p6 ((nowN (x.2.2.2.2.take k) now).length + 1) q6)
        have BW2 := BW.setCell (p := ⟨w1.heap.size, 4, none⟩) (by have := hz1.out; show w.heap.size ≤ w1.heap.size; omega) (.slice p6 ((nowN (x.2.2.2.2.take k) now).length + 1) q6)
        have hrow2 := ownsRow_fr (w' := w6.setCell ⟨w1.heap.size, 4, none⟩ (.slice p6 ((nowN (x.2.2.2.2.take k) now).length + 1) q6)) hrow (fun j hj => heap_setCell_other w6 ⟨w1.heap.size, 4, none⟩ j (.slice p6 ((nowN (x.2.2.2.2.take k) now).length + 1) q6) (by have h1 := (World.ownsRow.lt hrow j hj).1; show j ≠ w1.heap.size; omega))
        have hsz2 : w1.heap.size + 1 ≤ (w6.setCell ⟨w1.heap.size, 4, none⟩ (.slice p6 ((nowN (x.2.2.2.2.take k) now).length + 1) q6)).heap.size := by rw [World.size_setCell]; exact hsz
        clear A R AZ BW hrow hsz
        go_wp2_with fail
        generalize w6.setCell ⟨w1.heap.size, 4, none⟩ (.slice p6 ((nowN (x.2.2.2.2.take k) now).length + 1) q6) = w8 at *
        clear d4 fz
        go_roundw
        case rel => exact ⟨k + 1, _, by omega, by go_num, AS, by rw [h2.out, List.length_append]; exact hrow2, A2, R2, hsz2, BW2⟩
        case measure => simp [intOf]; omega
      · have h2 : Hid (nowN (x.2.2.2.2.take (k + 1)) now = nowN (x.2.2.2.2.take k) now) := by show _ = _; rw [nowN_take HA.out, if_neg hn]
        have i1 : ¬ (a.2 ≥ now) := hn
        go_wp2_with fail
        clear m0 m1 c4 d4
        go_roundw
        case rel => exact ⟨k + 1, _, by omega, by go_num, AZ, by rw [h2.out]; exact hrow, A, R, hsz, BW⟩
        case measure => simp [intOf]; omega
    · have e : k = x.2.2.2.2.length := by omega
      subst e
      simp only [List.take_length] at AZ hrow ⊢
      have c4 := (A.cell 4).trans (show _ = some _ from rfl)
      have d0 := (AZ.cell 0).trans (show _ = some _ from rfl)
      have d1 := (AZ.cell 1).trans (show _ = some _ from rfl)
      have d2 := (AZ.cell 2).trans (show _ = some _ from rfl)
      have d3 := (AZ.cell 3).trans (show _ = some _ from rfl)
      have d4 := (AZ.cell 4).trans (show _ = some _ from rfl)
      go_wp2_with (refine wpList_store_row rfl 27 _ _ rfl (w.heap.size + 1) #[.slice s1 x.1.length t1, .int .i64 x.2.1, .slice s3 x.2.2.1.length t3, .slice s4 x.2.2.2.1.length t4, .slice po (nowN x.2.2.2.2 now).length qo] rfl rfl 27 #[.slice none 0 0, .int .i64 0, .slice none 0 0, .slice none 0 0, .slice none 0 0] R hres.out rfl (by simp [Value.oneCell']) ?_)
      exact bodyPost_ret (v := .agg #[.slice s1 x.1.length t1, .int .i64 x.2.1, .slice s3 x.2.2.1.length t3, .slice s4 x.2.2.2.1.length t4, .slice po (nowN x.2.2.2.2 now).length qo]) (results_cell_row Try.results24 _ _ (w.heap.size + 1) 27 _ (0, 0) _ rfl (R.row [.slice s1 x.1.length t1, .int .i64 x.2.1, .slice s3 x.2.2.1.length t3, .slice s4 x.2.2.2.1.length t4, .slice po (nowN x.2.2.2.2 now).length qo]) Try.underlying27 rfl hres.out) rfl ⟨_, _, _, _, _, _, _, _, _, rfl, Below.row BW (Nat.le_succ _) _⟩
set_option maxRecDepth 4000 in
set_option maxHeartbeats 2000000 in
theorem specTi_k (x : SesD) (us : List Value) (now : Int) (w : World) (h : sessionC.rep w x us) :
    Calls Try.prog 8 #[.agg us.toArray, .int .i64 now] w fun e w' => ∃ vs, e = .returned (.agg (.int .i64 (tmC hdS x now) :: vs).toArray) ∧ Below w.heap.size w w' := by
  obtain ⟨p1, q1, p3, q3, p4, q4, p5, q5, rfl, r1, r3, r4, r5⟩ := session_rep h
  have A0 := Arr.new w [.slice p1 x.1.length q1, .int .i64 x.2.1, .slice p3 x.2.2.1.length q3, .slice p4 x.2.2.2.1.length q4, .slice p5 x.2.2.2.2.length q5] 27
  have B0 := alloc_below w (.cells #[.slice p1 x.1.length q1, .int .i64 x.2.1, .slice p3 x.2.2.1.length q3, .slice p4 x.2.2.2.1.length q4, .slice p5 x.2.2.2.2.length q5] 27)
  have R := Arr.new (w.alloc (.cells #[.slice p1 x.1.length q1, .int .i64 x.2.1, .slice p3 x.2.2.1.length q3, .slice p4 x.2.2.2.1.length q4, .slice p5 x.2.2.2.2.length q5] 27)) [.int .i64 0, .int .i64 0, .slice none 0 0, .int .i64 0, .slice none 0 0, .slice none 0 0, .slice none 0 0] 31
  rw [size_alloc] at R
  have A := A0.old _ (.cells #[.int .i64 0, .int .i64 0, .slice none 0 0, .int .i64 0, .slice none 0 0, .slice none 0 0, .slice none 0 0] 31)
  have BW := Below.mk B0 (.cells #[.int .i64 0, .int .i64 0, .slice none 0 0, .int .i64 0, .slice none 0 0, .slice none 0 0, .slice none 0 0] 31)
  have AT := (AtSes.new w (t := 27) (p1 := p1) (q1 := q1) (p3 := p3) (q3 := q3) (p4 := p4) (q4 := q4) (p5 := p5) (q5 := q5) (x := x)).keep (alloc_below _ (.cells #[.int .i64 0, .int .i64 0, .slice none 0 0, .int .i64 0, .slice none 0 0, .slice none 0 0, .slice none 0 0] 31))
  have hz2 : Hid (((w.alloc (.cells #[.slice p1 x.1.length q1, .int .i64 x.2.1, .slice p3 x.2.2.1.length q3, .slice p4 x.2.2.2.1.length q4, .slice p5 x.2.2.2.2.length q5] 27)).alloc (.cells #[.int .i64 0, .int .i64 0, .slice none 0 0, .int .i64 0, .slice none 0 0, .slice none 0 0, .slice none 0 0] 31)).heap.size = w.heap.size + 2) := by show _ = _; rw [size_alloc, size_alloc]
  have hres : Hid ((Try.prog.info? 31).map (·.size) = some 7) := by show _ = _; kernel_rfl
  have HREP : Hid (∀ V, Below w.heap.size w V → sessionC.rep V x [.slice p1 x.1.length q1, .int .i64 x.2.1, .slice p3 x.2.2.1.length q3, .slice p4 x.2.2.2.1.length q4, .slice p5 x.2.2.2.2.length q5]) := fun V hV => sessionC.keep h hV
  have HR5 : Hid (RdL holdC w p5 q5 x.2.2.2.2) := r5
  have HS : Hid (seF hdS x = 0 → Ses x) := seS_iff.1
  have K1 := l14Fault_c w.heap.size 0 p1 p3 p4 p5 q1 q3 q4 q5 x _ AT (r3.keep BW) (r4.keep BW) (r5.keep BW)
  have HAT : Hid (∀ V, Below ((w.alloc (.cells #[.slice p1 x.1.length q1, .int .i64 x.2.1, .slice p3 x.2.2.1.length q3, .slice p4 x.2.2.2.1.length q4, .slice p5 x.2.2.2.2.length q5] 27)).alloc (.cells #[.int .i64 0, .int .i64 0, .slice none 0 0, .int .i64 0, .slice none 0 0, .slice none 0 0, .slice none 0 0] 31)).heap.size ((w.alloc (.cells #[.slice p1 x.1.length q1, .int .i64 x.2.1, .slice p3 x.2.2.1.length q3, .slice p4 x.2.2.2.1.length q4, .slice p5 x.2.2.2.2.length q5] 27)).alloc (.cells #[.int .i64 0, .int .i64 0, .slice none 0 0, .int .i64 0, .slice none 0 0, .slice none 0 0, .slice none 0 0] 31)) V → AtSes V w.heap.size 0 p1 q1 p3 q3 p4 q4 p5 q5 x) := fun V hV => AT.keep hV
  have HE : Hid (tmC hdS x now = if seF hdS x = 0 then (if inB now 0 9999 then 0 else 3) else seF hdS x) := rfl
  clear h r1 r3 r4 r5 A0 B0 AT
  go_enter Try.func8, Try.ntmps8
  go_wp2_with fail
  refine K1.mono ?_
  rintro e w1 ⟨rfl, hb⟩
  replace R := R.stay hb
  replace A := A.stay hb
  replace BW := Below.step BW hb
  clear K1 hb HAT hz2
  by_cases h0 : seF hdS x = 0
  case neg =>
    have dk : (seF hdS x != 0) = true := by rw [bne_iff_ne]; exact h0
    have he : Hid (tmC hdS x now = seF hdS x) := by show _ = _; rw [HE.out, if_neg h0]
    clear HE HS h0 A
    generalize seF hdS x = k at *
    go_wp2_with fail
    refine (l14Bad_c k _).mono ?_
    rintro e w9 ⟨rfl, hb⟩
    replace R := R.stay hb
    replace BW := Below.step BW hb
    clear hb
    go_wp2_with (refine wpList_store_row rfl 31 _ _ rfl (w.heap.size + 1) #[.int .i64 k, .int .i64 0, .slice none 0 0, .int .i64 0, .slice none 0 0, .slice none 0 0, .slice none 0 0] rfl rfl 31 #[.int .i64 0, .int .i64 0, .slice none 0 0, .int .i64 0, .slice none 0 0, .slice none 0 0, .slice none 0 0] R hres.out rfl (by simp [Value.oneCell']) ?_)
    exact bodyPost_ret (v := .agg #[.int .i64 k, .int .i64 0, .slice none 0 0, .int .i64 0, .slice none 0 0, .slice none 0 0, .slice none 0 0]) (results_cell_row Try.results8 _ _ (w.heap.size + 1) 31 _ (0, 0) _ rfl (R.row [.int .i64 k, .int .i64 0, .slice none 0 0, .int .i64 0, .slice none 0 0, .slice none 0 0, .slice none 0 0]) Try.underlying31 rfl hres.out) rfl ⟨_, by rw [he.out], Below.row BW (Nat.le_succ _) _⟩
  have hS : Hid (Ses x) := HS.out h0
  have he : tmC hdS x now = if inB now 0 9999 then 0 else 3 := by rw [HE.out, if_pos h0]
  rw [h0]
  have c0 := (A.cell 0).trans (show _ = some _ from rfl)
  have c1 := (A.cell 1).trans (show _ = some _ from rfl)
  have c2 := (A.cell 2).trans (show _ = some _ from rfl)
  have c3 := (A.cell 3).trans (show _ = some _ from rfl)
  have c4 := (A.cell 4).trans (show _ = some _ from rfl)
  clear HE HS h0
  go_wp2_with fail
  refine (l1In_c now 0 9999 _).mono ?_
  rintro e w2 ⟨rfl, hw⟩
  rw [hw]
  clear hw w2
  cases hi : inB now 0 9999
  · have hz : Hid (tmC hdS x now = 3) := by show _ = _; rw [he, hi]; rfl
    clear he hi A c0 c1 c2 c3 c4
    go_wp2_with fail
    refine (l14Bad_c 3 _).mono ?_
    rintro e w9 ⟨rfl, hb⟩
    replace R := R.stay hb
    replace BW := Below.step BW hb
    clear hb
    go_wp2_with (refine wpList_store_row rfl 31 _ _ rfl (w.heap.size + 1) #[.int .i64 3, .int .i64 0, .slice none 0 0, .int .i64 0, .slice none 0 0, .slice none 0 0, .slice none 0 0] rfl rfl 31 #[.int .i64 0, .int .i64 0, .slice none 0 0, .int .i64 0, .slice none 0 0, .slice none 0 0, .slice none 0 0] R hres.out rfl (by simp [Value.oneCell']) ?_)
    exact bodyPost_ret (v := .agg #[.int .i64 3, .int .i64 0, .slice none 0 0, .int .i64 0, .slice none 0 0, .slice none 0 0, .slice none 0 0]) (results_cell_row Try.results8 _ _ (w.heap.size + 1) 31 _ (0, 0) _ rfl (R.row [.int .i64 3, .int .i64 0, .slice none 0 0, .int .i64 0, .slice none 0 0, .slice none 0 0, .slice none 0 0]) Try.underlying31 rfl hres.out) rfl ⟨_, by rw [hz.out], Below.row BW (Nat.le_succ _) _⟩
  · have hz : Hid (tmC hdS x now = 0) := by show _ = _; rw [he, hi]; rfl
    have KT := l14Time_c x _ now w1 (HREP.out _ BW) hS.out
    clear he hi
    go_wp2_with fail
    refine KT.mono ?_
    rintro e w3 ⟨s1, t1, s3, t3, s4, t4, s5, n5, t5, rfl, hb⟩
    replace R := R.stay hb
    replace BW := Below.step BW hb
    clear KT hb c0 c1 c2 c3 c4 A
    go_wp2_with (refine wpList_store_row rfl 31 _ _ rfl (w.heap.size + 1) #[.int .i64 0, .int .i64 0, .slice s1 x.1.length t1, .int .i64 x.2.1, .slice s3 x.2.2.1.length t3, .slice s4 x.2.2.2.1.length t4, .slice s5 n5 t5] rfl rfl 31 #[.int .i64 0, .int .i64 0, .slice none 0 0, .int .i64 0, .slice none 0 0, .slice none 0 0, .slice none 0 0] R hres.out rfl (by simp [Value.oneCell']) ?_)
    exact bodyPost_ret (v := .agg #[.int .i64 0, .int .i64 0, .slice s1 x.1.length t1, .int .i64 x.2.1, .slice s3 x.2.2.1.length t3, .slice s4 x.2.2.2.1.length t4, .slice s5 n5 t5]) (results_cell_row Try.results8 _ _ (w.heap.size + 1) 31 _ (0, 0) _ rfl (R.row [.int .i64 0, .int .i64 0, .slice s1 x.1.length t1, .int .i64 x.2.1, .slice s3 x.2.2.1.length t3, .slice s4 x.2.2.2.1.length t4, .slice s5 n5 t5]) Try.underlying31 rfl hres.out) rfl ⟨_, by rw [hz.out], Below.row BW (Nat.le_succ _) _⟩
set_option maxRecDepth 4000 in
set_option maxHeartbeats 2000000 in
/-- Where it tells a code. -/
theorem specRv_bad (x : SesD) (us : List Value) (id : Int) (w : World) (h : sessionC.rep w x us) (hc : rvC hdS x id ≠ 0) :
    Calls Try.prog 11 #[.agg us.toArray, .int .i64 id] w fun e w' => ∃ vs, e = .returned (.agg (.int .i64 (rvC hdS x id) :: vs).toArray) ∧ Below w.heap.size w w' := by
  obtain ⟨p1, q1, p3, q3, p4, q4, p5, q5, rfl, r1, r3, r4, r5⟩ := session_rep h
  have A0 := Arr.new w [.slice p1 x.1.length q1, .int .i64 x.2.1, .slice p3 x.2.2.1.length q3, .slice p4 x.2.2.2.1.length q4, .slice p5 x.2.2.2.2.length q5] 27
  have B0 := alloc_below w (.cells #[.slice p1 x.1.length q1, .int .i64 x.2.1, .slice p3 x.2.2.1.length q3, .slice p4 x.2.2.2.1.length q4, .slice p5 x.2.2.2.2.length q5] 27)
  have R := Arr.new (w.alloc (.cells #[.slice p1 x.1.length q1, .int .i64 x.2.1, .slice p3 x.2.2.1.length q3, .slice p4 x.2.2.2.1.length q4, .slice p5 x.2.2.2.2.length q5] 27)) [.int .i64 0, .int .i64 0, .slice none 0 0, .int .i64 0, .slice none 0 0, .slice none 0 0, .slice none 0 0] 31
  rw [size_alloc] at R
  have A := A0.old _ (.cells #[.int .i64 0, .int .i64 0, .slice none 0 0, .int .i64 0, .slice none 0 0, .slice none 0 0, .slice none 0 0] 31)
  have BW := Below.mk B0 (.cells #[.int .i64 0, .int .i64 0, .slice none 0 0, .int .i64 0, .slice none 0 0, .slice none 0 0, .slice none 0 0] 31)
  have AT := (AtSes.new w (t := 27) (p1 := p1) (q1 := q1) (p3 := p3) (q3 := q3) (p4 := p4) (q4 := q4) (p5 := p5) (q5 := q5) (x := x)).keep (alloc_below _ (.cells #[.int .i64 0, .int .i64 0, .slice none 0 0, .int .i64 0, .slice none 0 0, .slice none 0 0, .slice none 0 0] 31))
  have hz2 : Hid (((w.alloc (.cells #[.slice p1 x.1.length q1, .int .i64 x.2.1, .slice p3 x.2.2.1.length q3, .slice p4 x.2.2.2.1.length q4, .slice p5 x.2.2.2.2.length q5] 27)).alloc (.cells #[.int .i64 0, .int .i64 0, .slice none 0 0, .int .i64 0, .slice none 0 0, .slice none 0 0, .slice none 0 0] 31)).heap.size = w.heap.size + 2) := by show _ = _; rw [size_alloc, size_alloc]
  have hres : Hid ((Try.prog.info? 31).map (·.size) = some 7) := by show _ = _; kernel_rfl
  have HREP : Hid (∀ V, Below w.heap.size w V → sessionC.rep V x [.slice p1 x.1.length q1, .int .i64 x.2.1, .slice p3 x.2.2.1.length q3, .slice p4 x.2.2.2.1.length q4, .slice p5 x.2.2.2.2.length q5]) := fun V hV => sessionC.keep h hV
  have HR5 : Hid (RdL holdC w p5 q5 x.2.2.2.2) := r5
  have HS : Hid (seF hdS x = 0 → Ses x) := seS_iff.1
  have K1 := l14Fault_c w.heap.size 0 p1 p3 p4 p5 q1 q3 q4 q5 x _ AT (r3.keep BW) (r4.keep BW) (r5.keep BW)
  have HAT : Hid (∀ V, Below ((w.alloc (.cells #[.slice p1 x.1.length q1, .int .i64 x.2.1, .slice p3 x.2.2.1.length q3, .slice p4 x.2.2.2.1.length q4, .slice p5 x.2.2.2.2.length q5] 27)).alloc (.cells #[.int .i64 0, .int .i64 0, .slice none 0 0, .int .i64 0, .slice none 0 0, .slice none 0 0, .slice none 0 0] 31)).heap.size ((w.alloc (.cells #[.slice p1 x.1.length q1, .int .i64 x.2.1, .slice p3 x.2.2.1.length q3, .slice p4 x.2.2.2.1.length q4, .slice p5 x.2.2.2.2.length q5] 27)).alloc (.cells #[.int .i64 0, .int .i64 0, .slice none 0 0, .int .i64 0, .slice none 0 0, .slice none 0 0, .slice none 0 0] 31)) V → AtSes V w.heap.size 0 p1 q1 p3 q3 p4 q4 p5 q5 x) := fun V hV => AT.keep hV
  have HE : Hid (rvC hdS x id = if seF hdS x = 0 then (if hasH x.2.2.2.2 id then 0 else 4) else seF hdS x) := rfl
  have HC : Hid (rvC hdS x id ≠ 0) := hc
  clear h r1 r3 r4 r5 A0 B0 AT hc
  go_enter Try.func11, Try.ntmps11
  go_wp2_with fail
  refine K1.mono ?_
  rintro e w1 ⟨rfl, hb⟩
  replace R := R.stay hb
  replace A := A.stay hb
  replace BW := Below.step BW hb
  have AT := HAT.out _ hb
  clear K1 hb HAT hz2
  by_cases h0 : seF hdS x = 0
  case neg =>
    have dk : (seF hdS x != 0) = true := by rw [bne_iff_ne]; exact h0
    have he : Hid (rvC hdS x id = seF hdS x) := by show _ = _; rw [HE.out, if_neg h0]
    clear HE HS h0 A AT HC
    generalize seF hdS x = k at *
    go_wp2_with fail
    refine (l14Bad_c k _).mono ?_
    rintro e w9 ⟨rfl, hb⟩
    replace R := R.stay hb
    replace BW := Below.step BW hb
    clear hb
    go_wp2_with (refine wpList_store_row rfl 31 _ _ rfl (w.heap.size + 1) #[.int .i64 k, .int .i64 0, .slice none 0 0, .int .i64 0, .slice none 0 0, .slice none 0 0, .slice none 0 0] rfl rfl 31 #[.int .i64 0, .int .i64 0, .slice none 0 0, .int .i64 0, .slice none 0 0, .slice none 0 0, .slice none 0 0] R hres.out rfl (by simp [Value.oneCell']) ?_)
    exact bodyPost_ret (v := .agg #[.int .i64 k, .int .i64 0, .slice none 0 0, .int .i64 0, .slice none 0 0, .slice none 0 0, .slice none 0 0]) (results_cell_row Try.results11 _ _ (w.heap.size + 1) 31 _ (0, 0) _ rfl (R.row [.int .i64 k, .int .i64 0, .slice none 0 0, .int .i64 0, .slice none 0 0, .slice none 0 0, .slice none 0 0]) Try.underlying31 rfl hres.out) rfl ⟨_, by rw [he.out], Below.row BW (Nat.le_succ _) _⟩
  have he : rvC hdS x id = if hasH x.2.2.2.2 id then 0 else 4 := by rw [HE.out, if_pos h0]
  have hh : hasH x.2.2.2.2 id = false := by
    cases h1 : hasH x.2.2.2.2 id
    · rfl
    · exact absurd (by rw [he, h1]; rfl) HC.out
  have hz : Hid (rvC hdS x id = 4) := by show _ = _; rw [he, hh]; rfl
  have K2 := l14At_c w.heap.size 0 p1 p3 p4 p5 q1 q3 q4 q5 x id w1 AT (HR5.out.keep BW)
  rw [ixH_none hh] at K2
  rw [h0]
  clear HE HS h0 he hh AT HC A
  go_wp2_with fail
  refine K2.mono ?_
  rintro e w2 ⟨rfl, hw⟩
  rw [hw]
  clear hw w2 K2
  go_wp2_with fail
  refine (l14Bad_c 4 _).mono ?_
  rintro e w9 ⟨rfl, hb⟩
  replace R := R.stay hb
  replace BW := Below.step BW hb
  clear hb
  go_wp2_with (refine wpList_store_row rfl 31 _ _ rfl (w.heap.size + 1) #[.int .i64 4, .int .i64 0, .slice none 0 0, .int .i64 0, .slice none 0 0, .slice none 0 0, .slice none 0 0] rfl rfl 31 #[.int .i64 0, .int .i64 0, .slice none 0 0, .int .i64 0, .slice none 0 0, .slice none 0 0, .slice none 0 0] R hres.out rfl (by simp [Value.oneCell']) ?_)
  exact bodyPost_ret (v := .agg #[.int .i64 4, .int .i64 0, .slice none 0 0, .int .i64 0, .slice none 0 0, .slice none 0 0, .slice none 0 0]) (results_cell_row Try.results11 _ _ (w.heap.size + 1) 31 _ (0, 0) _ rfl (R.row [.int .i64 4, .int .i64 0, .slice none 0 0, .int .i64 0, .slice none 0 0, .slice none 0 0, .slice none 0 0]) Try.underlying31 rfl hres.out) rfl ⟨_, by rw [hz.out], Below.row BW (Nat.le_succ _) _⟩
end Go.Proofs.Ytflhoefocjmihaa

