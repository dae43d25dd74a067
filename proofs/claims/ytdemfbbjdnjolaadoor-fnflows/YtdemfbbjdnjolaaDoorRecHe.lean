/- HearRecord of the program, at every argument, where the two tables hold what the program's text lays (Tabs) and the library's variable holds its handle (Hnd). What was there stays. -/
import Derived.Test.YtdemfbbjdnjolaaDoorRecG
import Derived.Test.YtdemfbbjdnjolaaDoorRecSe
namespace Go.Proofs.YtdemfbbjdnjolaaDoor
open Go.ChangeShapes Go.WideShapes Go.ChangeAt Go.RowKit

theorem oL_len (x : StreamD) (r : List UInt8) : (oL x r).length ≤ 220 := by
  unfold oL openL
  split
  · rename_i h
    unfold openC at h
    split at h
    · exact absurd h (by decide)
    · split at h
      · exact absurd h (by decide)
      · unfold hideN
        simp
        simp only [List.length_drop] at *
        omega
  · simp
theorem bodyOk_len {r : List UInt8} (h : bodyOk r = true) : 5 ≤ r.length := by
  unfold bodyOk at h
  simp at h
  exact h.1.1.1.1
theorem own_apartH {α β : Type} {c : Cod α} {d : Cod β} {w : World} {B : Nat} {a : α × β} {us ts : List Value} {f g : List Nat} (h1 : c.own w B a.1 us f) (h2 : d.own w B a.2 ts g) (hd : ∀ k, k ∈ f → k ∉ g) : (prodC c d).own w B a (us ++ ts) (f ++ g) :=
  ⟨us, ts, f, g, rfl, rfl, List.nodup_append.2 ⟨c.nd h1, d.nd h2, fun _ ha _ hb e => hd _ ha (e ▸ hb)⟩, h1, h2⟩
theorem record_apartH {w : World} {B : Nat} {c k : Int} {bs : List UInt8} {s : StreamD} {u v : Value} (h1 : Own w B u bs) (h2 : Own w B v s.1) (hd : ∀ k, u.ownBlock = some k → v.ownBlock ≠ some k) :
    recordResultC.own w B (c, k, bs, s) [.int .i64 c, .int .i64 k, u, v, .int .i64 s.2.1, .int .i64 s.2.2] ([] ++ ([] ++ (u.ownBlock.toList ++ (v.ownBlock.toList ++ ([] ++ []))))) :=
  own_apartH (a := (c, k, bs, s)) (us := [.int .i64 c]) own_int (own_apartH (a := (k, bs, s)) (us := [.int .i64 k]) own_int (own_apartH (a := (bs, s)) (us := [u]) (byt_own h1) (own_apartH (a := s) (us := [v]) (byt_own h2) (own_apartH (a := s.2) (us := [.int .i64 s.2.1]) own_int own_int (fun _ h => by cases h)) (fun _ _ h => by simp at h)) (fun j hj h => by
    have h1 := mem_opt.1 hj
    simp at h
    exact hd j h1 h)) (fun _ h => by cases h)) (fun _ h => by cases h)
set_option maxRecDepth 4000 in
set_option maxHeartbeats 4000000 in
theorem implHr_k (x : StreamD) (us : List Value) (r : List UInt8) (v : Value) (w : World) (h : streamC.rep w x us) (h2 : bytC.rep w r [v]) (hl : r.length ≤ 1048576) (hT : Tabs w) (hH : Hnd w) :
    Calls Tryd.prog 10 #[.agg us.toArray, v] w fun e w' => ∃ us fp, e = .returned (.agg us.toArray) ∧ recordResultC.own w' w.heap.size (hrD x r) us fp ∧ Below w.heap.size w w' := by
  obtain ⟨p2, q2, e2, r2⟩ := h2
  simp only [List.cons.injEq, and_true] at e2
  subst e2
  have HR2 : Hid (Rd w p2 q2 r) := r2
  have HT : Hid (Tabs w) := hT
  have HH : Hid (Hnd w) := hH
  have hq1 : r.length ≤ q2 := r2.1
  have hq2 : q2 ≤ 2 ^ 63 - 1 := r2.2.1
  clear r2 hT hH
  obtain ⟨p, q, rfl, rr⟩ := stream_rep h
  have BW := Below.mk (alloc_below w (.cells #[.slice p x.1.length q, .int .i64 x.2.1, .int .i64 x.2.2] 25)) (.cells #[.int .i64 0, .int .i64 0, .slice none 0 0, .slice none 0 0, .int .i64 0, .int .i64 0] 29)
  have A := (Arr.new w [.slice p x.1.length q, .int .i64 x.2.1, .int .i64 x.2.2] 25).old _ (.cells #[.int .i64 0, .int .i64 0, .slice none 0 0, .slice none 0 0, .int .i64 0, .int .i64 0] 29)
  have R := Arr.new (w.alloc (.cells #[.slice p x.1.length q, .int .i64 x.2.1, .int .i64 x.2.2] 25)) [.int .i64 0, .int .i64 0, .slice none 0 0, .slice none 0 0, .int .i64 0, .int .i64 0] 29
  rw [size_alloc] at R
  have HR : Hid (Rd w p q x.1) := rr
  have KF : Hid (∀ w, Calls Tryd.prog 33 #[.agg #[.slice p x.1.length q, .int .i64 x.2.1, .int .i64 x.2.2]] w fun e w' => e = .returned (.int .i64 (askC x)) ∧ Below w.heap.size w w') := fun w => roomFault_c x p q w
  clear h rr
  by_cases ha : askC x = 0
  · rw [ha] at KF
    cases hb : bodyOk r
    · have HE : Hid (hrD x r = badR 5) := by show _ = _; unfold hrD hrC; simp [ha, hb]
      clear ha
      go_enter Tryd.func10, Tryd.ntmps10
      go_wp2_with fail
      refine (KF.out _).mono ?_
      rintro e w1 ⟨rfl, hb1⟩
      replace BW := Below.step BW hb1
      replace R := R.stay hb1
      replace A := A.stay hb1
      clear hb1
      go_wp2_with fail
      refine (isRecord_c p2 q2 r _ (HR2.out.keep BW)).mono ?_
      rintro e w2 ⟨rfl, hb2⟩
      rw [hb]
      replace BW := Below.step BW hb2
      replace R := R.stay hb2
      replace A := A.stay hb2
      clear hb2
      have c0 := (R.cell 0).trans (show _ = some _ from rfl)
      have c1 := (R.cell 1).trans (show _ = some _ from rfl)
      have c2 := (R.cell 2).trans (show _ = some _ from rfl)
      have c3 := (R.cell 3).trans (show _ = some _ from rfl)
      have c4 := (R.cell 4).trans (show _ = some _ from rfl)
      have c5 := (R.cell 5).trans (show _ = some _ from rfl)
      have fc := R.frozen
      clear R A
      go_wp2_with fail
      exact bodyPost_ret (v := .agg #[.int .i64 5, .int .i64 0, .slice none 0 0, .slice none 0 0, .int .i64 0, .int .i64 0]) (by simp [results, Tryd.results10, go_sem, c0, c1, c2, c3, c4, c5]) rfl ⟨[.int .i64 5, .int .i64 0, .slice none 0 0, .slice none 0 0, .int .i64 0, .int .i64 0], [], rfl, by rw [HE.out]; exact badR_own _ _ _, ((((((BW.setCell (Nat.le_succ _) _).setCell (Nat.le_succ _) _).setCell (Nat.le_succ _) _).setCell (Nat.le_succ _) _).setCell (Nat.le_succ _) _).setCell (Nat.le_succ _) _)⟩
    · have h5 := bodyOk_len hb
      obtain ⟨-, hx32, hs0, hs1, -, -⟩ := ask_parts ha
      have HX : Hid (x.1.length = 32) := hx32
      have HI32 : Hid (is32 x.1 = true) := by show _ = _; simp [is32, hx32]
      have HOL : Hid ((oL x r).length ≤ 220) := oL_len x r
      have HE3 : Hid (¬ oC x r = 0 → hrD x r = badR (oC x r)) := fun h => by unfold hrD hrC; simp [ha, hb, h]
      have HE4 : Hid (oC x r = 0 → ¬ inC (oL x r) = 0 → hrD x r = badR (inC (oL x r))) := fun h1 h2 => by unfold hrD hrC; simp [ha, hb, h1, h2]
      have HE5 : Hid (oC x r = 0 → inC (oL x r) = 0 → hrD x r = (0, inK (oL x r), inL (oL x r), nextS x)) := fun h1 h2 => by unfold hrD hrC inK inL; simp [ha, hb, h1, h2]
      clear ha hx32
      go_enter Tryd.func10, Tryd.ntmps10
      go_wp2_with fail
      refine (KF.out _).mono ?_
      rintro e w1 ⟨rfl, hb1⟩
      replace BW := Below.step BW hb1
      replace R := R.stay hb1
      replace A := A.stay hb1
      clear hb1
      go_wp2_with fail
      refine (isRecord_c p2 q2 r _ (HR2.out.keep BW)).mono ?_
      rintro e w2 ⟨rfl, hb2⟩
      rw [hb]
      replace BW := Below.step BW hb2
      replace R := R.stay hb2
      replace A := A.stay hb2
      clear hb2
      have a0 := (A.cell 0).trans (show _ = some _ from rfl)
      have a1 := (A.cell 1).trans (show _ = some _ from rfl)
      have a2 := (A.cell 2).trans (show _ = some _ from rfl)
      go_wp2_with fail
      refine (ownStream_c x p q _ (HR.out.keep BW) (by have := HX.out; omega)).mono ?_
      rintro e w3 ⟨u3, b, rfl, k3, N, hbg, hub, hb3⟩
      obtain ⟨a3, cc3, rfl, -⟩ := k3.rd
      have hz1 : Hid (w.heap.size + 2 ≤ w2.heap.size) := R.lt
      replace BW := Below.step BW hb3
      replace R := R.stay hb3
      have HZ3 : Hid (w2.heap.size ≤ w3.heap.size) := hb3.size
      have HBG : Hid (w2.heap.size < b) := hbg
      have HUB : Hid (∀ k, (Value.slice a3 x.1.length cc3).ownBlock = some k → k < b) := hub
      clear A a0 a1 a2 hb3 hbg hub
      go_wp2_with fail
      refine (openNext_c x a3 p2 cc3 q2 b r w3 N (Rd.own k3) (HR2.out.keep BW) h5 hl HI32.out hs0 (by omega) (HT.out.keep BW) (HH.out.keep BW)).mono ?_
      rintro e w4 ⟨u4, rfl, k4, N4, hg4⟩
      obtain ⟨a4, cc4, rfl, -⟩ := k4.rd
      have hbb : Hid (w.heap.size + 2 < b) := by have := hz1.out; have := HBG.out; show _ < _; omega
      have HBL : Hid (b < w3.heap.size) := N.lt
      replace R := R.other hg4 (fun e => by cases e; have := hbb.out; omega)
      replace k3 := k3.other hg4 (fun k hk e => by have h := HUB.out k hk; cases e; omega)
      replace BW := BW.grown hg4 BW.size (fun k e => by cases e; have := hbb.out; omega)
      have HZ4 : Hid (w3.heap.size ≤ w4.heap.size) := hg4.size
      clear N hg4
      have hl5 := alloc_below w4 (.cells #[.int .i64 (oC x r), .slice a4 (oL x r).length cc4] 55)
      have L5 := Arr.new w4 [.int .i64 (oC x r), .slice a4 (oL x r).length cc4] 55
      replace R := R.stay hl5
      replace k3 := k3.stay hl5
      replace k4 := k4.stay hl5
      replace N4 := N4.stay hl5
      replace BW := Below.step BW hl5
      have HZ5 : Hid (w4.heap.size + 1 ≤ (w4.alloc (.cells #[.int .i64 (oC x r), .slice a4 (oL x r).length cc4] 55)).heap.size) := by rw [size_alloc]; exact Nat.le_refl _
      clear hl5
      generalize e5 : w4.alloc (.cells #[.int .i64 (oC x r), .slice a4 (oL x r).length cc4] 55) = w5 at *
      have l0 := (L5.cell 0).trans (show _ = some _ from rfl)
      have l1 := (L5.cell 1).trans (show _ = some _ from rfl)
      by_cases hc : oC x r = 0
      · rw [if_pos hc] at N4
        have HC : Hid (oC x r = 0) := hc
        have d0 : (oC x r != 0) = false := by rw [bne_eq_false_iff_eq]; exact hc
        clear hc HE3
        go_wp2_with fail
        refine (readContent_c a4 cc4 (oL x r) w5 (Rd.own k4) (by have := HOL.out; omega)).mono ?_
        rintro e w6 ⟨u6, rfl, k6, hb6⟩
        obtain ⟨a6, cc6, rfl, -⟩ := k6.rd
        have HK6 : Hid (∀ k, (Value.slice a6 (inL (oL x r)).length cc6).ownBlock = some k → k ≠ w6.heap.size) := fun k hk e => by have h := k6.lt k hk; omega
        replace R := R.stay hb6
        replace N4 := N4.stay hb6
        replace k3 := k3.stay hb6
        replace BW := Below.step BW hb6
        have HZ6 : Hid (w5.heap.size ≤ w6.heap.size) := hb6.size
        clear hb6 k4 L5 l0 l1
        have hap : Hid (∀ k, (Value.slice a6 (inL (oL x r)).length cc6).ownBlock = some k → (Value.slice a3 x.1.length cc3).ownBlock ≠ some k) := fun k hk e => by
          have h1 := k6.ge k hk
          have h2 := HUB.out k e
          have h3 := HBL.out
          have h4 := HZ4.out
          have h5 := HZ5.out
          omega
        have k66 : Own w6 (w.heap.size + 2) (.slice a6 (inL (oL x r)).length cc6) (inL (oL x r)) := k6.lower (by have := hz1.out; have := HZ3.out; have := HZ4.out; have := HZ5.out; omega)
        have k33 : Own w6 (w.heap.size + 2) (.slice a3 x.1.length cc3) x.1 := k3.lower hz1.out
        clear k3 k6 e5
        by_cases hi : inC (oL x r) = 0
        · have HE : Hid (hrD x r = (0, inK (oL x r), inL (oL x r), nextS x)) := HE5.out HC.out hi
          have HI : Hid (inC (oL x r) = 0) := hi
          have d1 : (inC (oL x r) == 0) = true := by rw [beq_iff_eq]; exact hi
          clear hi HE4 HE5
          have hA := alloc_below w6 (.cells #[.int .i64 (inC (oL x r)), .int .i64 (inK (oL x r)), .slice a6 (inL (oL x r)).length cc6, .slice none 0 0, .int .i64 0, .int .i64 0] 29)
          have hB := alloc_below w6 (.cells #[.int .i64 (inC (oL x r)), .int .i64 (inK (oL x r)), .slice a6 (inL (oL x r)).length cc6, .slice a3 x.1.length cc3, .int .i64 (x.2.1 + 1), .int .i64 x.2.2] 29)
          replace N4 := N4.stay hA
          replace R := R.stay hB
          have n0 := (N4.cell 0).trans (show _ = some _ from rfl)
          have n1 := (N4.cell 1).trans (show _ = some _ from rfl)
          have n2 := (N4.cell 2).trans (show _ = some _ from rfl)
          have c0 := (R.cell 0).trans (show _ = some _ from rfl)
          have c1 := (R.cell 1).trans (show _ = some _ from rfl)
          have c2 := (R.cell 2).trans (show _ = some _ from rfl)
          have c3 := (R.cell 3).trans (show _ = some _ from rfl)
          have c4 := (R.cell 4).trans (show _ = some _ from rfl)
          have c5 := (R.cell 5).trans (show _ = some _ from rfl)
          have fc := R.frozen
          have K6 : Hid (Own _ (w.heap.size + 2) (.slice a6 (inL (oL x r)).length cc6) (inL (oL x r))) := k66.stay hB
          have K3 : Hid (Own _ (w.heap.size + 2) (.slice a3 x.1.length cc3) x.1) := k33.stay hB
          have B8 : Hid (Below w.heap.size w _) := Below.step BW hB
          clear R N4 k66 k33 BW hA hB HX HI32 HOL HT HH HR HR2 HK6 HZ3 HZ4 HZ5 HZ6 HBG HUB HBL hbb hq1 hq2 h5 hb hl hs0 hs1 HC KF d0
          go_wp2_with fail
          refine bodyPost_ret (v := .agg #[.int .i64 (inC (oL x r)), .int .i64 (inK (oL x r)), .slice a6 (inL (oL x r)).length cc6, .slice a3 x.1.length cc3, .int .i64 (x.2.1 + 1), .int .i64 x.2.2]) (by simp [results, Tryd.results10, go_sem, c0, c1, c2, c3, c4, c5]) rfl ?_
          rw [HE.out, show ((0, inK (oL x r), inL (oL x r), nextS x) : RecordResultD) = (inC (oL x r), inK (oL x r), inL (oL x r), nextS x) by rw [HI.out]]
          exact ⟨[.int .i64 (inC (oL x r)), .int .i64 (inK (oL x r)), .slice a6 (inL (oL x r)).length cc6, .slice a3 x.1.length cc3, .int .i64 (x.2.1 + 1), .int .i64 x.2.2], _, rfl, record_apartH (s := nextS x) (((((((K6.out.set (Nat.lt_succ_self _) _).set (Nat.lt_succ_self _) _).set (Nat.lt_succ_self _) _).set (Nat.lt_succ_self _) _).set (Nat.lt_succ_self _) _).set (Nat.lt_succ_self _) _).lower (Nat.le_add_right _ 2)) (((((((K3.out.set (Nat.lt_succ_self _) _).set (Nat.lt_succ_self _) _).set (Nat.lt_succ_self _) _).set (Nat.lt_succ_self _) _).set (Nat.lt_succ_self _) _).set (Nat.lt_succ_self _) _).lower (Nat.le_add_right _ 2)) hap.out, ((((((B8.out.setCell (Nat.le_succ _) _).setCell (Nat.le_succ _) _).setCell (Nat.le_succ _) _).setCell (Nat.le_succ _) _).setCell (Nat.le_succ _) _).setCell (Nat.le_succ _) _)⟩
        · have HE : Hid (hrD x r = badR (inC (oL x r))) := HE4.out HC.out hi
          have HIL : Hid (inL (oL x r) = []) := by show _ = _; rw [inL, if_neg hi]
          have HIK : Hid (inK (oL x r) = 0) := by show _ = _; rw [inK, if_neg hi]
          have d1 : (inC (oL x r) == 0) = false := by rw [beq_eq_false_iff_ne]; exact hi
          clear hi HE4 HE5
          have hA := alloc_below w6 (.cells #[.int .i64 (inC (oL x r)), .int .i64 (inK (oL x r)), .slice a6 (inL (oL x r)).length cc6, .slice none 0 0, .int .i64 0, .int .i64 0] 29)
          replace R := R.stay hA
          have c0 := (R.cell 0).trans (show _ = some _ from rfl)
          have c1 := (R.cell 1).trans (show _ = some _ from rfl)
          have c2 := (R.cell 2).trans (show _ = some _ from rfl)
          have c3 := (R.cell 3).trans (show _ = some _ from rfl)
          have c4 := (R.cell 4).trans (show _ = some _ from rfl)
          have c5 := (R.cell 5).trans (show _ = some _ from rfl)
          have fc := R.frozen
          have K6 : Hid (Own _ (w.heap.size + 2) (.slice a6 (inL (oL x r)).length cc6) (inL (oL x r))) := k66.stay hA
          have B8 : Hid (Below w.heap.size w _) := Below.step BW hA
          clear R N4 k66 k33 BW hA HX HI32 HOL HT HH HR HR2 HK6 HZ3 HZ4 HZ5 HZ6 HBG HUB HBL hbb hq1 hq2 h5 hb hl hs0 hs1 HC KF d0
          go_wp2_with fail
          refine bodyPost_ret (v := .agg #[.int .i64 (inC (oL x r)), .int .i64 (inK (oL x r)), .slice a6 (inL (oL x r)).length cc6, .slice none 0 0, .int .i64 0, .int .i64 0]) (by simp [results, Tryd.results10, go_sem, c0, c1, c2, c3, c4, c5]) rfl ?_
          rw [HE.out, show badR (inC (oL x r)) = (inC (oL x r), inK (oL x r), inL (oL x r), zeroS) by rw [HIK.out, HIL.out]; rfl]
          exact ⟨[.int .i64 (inC (oL x r)), .int .i64 (inK (oL x r)), .slice a6 (inL (oL x r)).length cc6, .slice none 0 0, .int .i64 0, .int .i64 0], _, rfl, record_apartH (s := zeroS) (((((((K6.out.set (Nat.lt_succ_self _) _).set (Nat.lt_succ_self _) _).set (Nat.lt_succ_self _) _).set (Nat.lt_succ_self _) _).set (Nat.lt_succ_self _) _).set (Nat.lt_succ_self _) _).lower (Nat.le_add_right _ 2)) (Own_nil _ _) (fun k _ e => by simp [Value.ownBlock] at e), ((((((B8.out.setCell (Nat.le_succ _) _).setCell (Nat.le_succ _) _).setCell (Nat.le_succ _) _).setCell (Nat.le_succ _) _).setCell (Nat.le_succ _) _).setCell (Nat.le_succ _) _)⟩
      · have HE : Hid (hrD x r = badR (oC x r)) := HE3.out hc
        have d0 : (oC x r != 0) = true := by rw [bne_iff_ne]; exact hc
        clear hc HE3 HE4 HE5
        have c0 := (R.cell 0).trans (show _ = some _ from rfl)
        have c1 := (R.cell 1).trans (show _ = some _ from rfl)
        have c2 := (R.cell 2).trans (show _ = some _ from rfl)
        have c3 := (R.cell 3).trans (show _ = some _ from rfl)
        have c4 := (R.cell 4).trans (show _ = some _ from rfl)
        have c5 := (R.cell 5).trans (show _ = some _ from rfl)
        have fc := R.frozen
        clear R N4 k3 k4 L5
        go_wp2_with fail
        exact bodyPost_ret (v := .agg #[.int .i64 (oC x r), .int .i64 0, .slice none 0 0, .slice none 0 0, .int .i64 0, .int .i64 0]) (by simp [results, Tryd.results10, go_sem, c0, c1, c2, c3, c4, c5]) rfl ⟨[.int .i64 (oC x r), .int .i64 0, .slice none 0 0, .slice none 0 0, .int .i64 0, .int .i64 0], [], rfl, by rw [HE.out]; exact badR_own _ _ _, ((((((BW.setCell (Nat.le_succ _) _).setCell (Nat.le_succ _) _).setCell (Nat.le_succ _) _).setCell (Nat.le_succ _) _).setCell (Nat.le_succ _) _).setCell (Nat.le_succ _) _)⟩
  · have HE : Hid (hrD x r = badR (askC x)) := by show _ = _; unfold hrD hrC; rw [if_neg ha, if_neg ha]
    have hne : (askC x != 0) = true := by rw [bne_iff_ne]; exact ha
    clear ha
    generalize askC x = ac at *
    go_enter Tryd.func10, Tryd.ntmps10
    go_wp2_with fail
    refine (KF.out _).mono ?_
    rintro e w1 ⟨rfl, hb1⟩
    replace BW := Below.step BW hb1
    replace R := R.stay hb1
    replace A := A.stay hb1
    clear hb1
    have c0 := (R.cell 0).trans (show _ = some _ from rfl)
    have c1 := (R.cell 1).trans (show _ = some _ from rfl)
    have c2 := (R.cell 2).trans (show _ = some _ from rfl)
    have c3 := (R.cell 3).trans (show _ = some _ from rfl)
    have c4 := (R.cell 4).trans (show _ = some _ from rfl)
    have c5 := (R.cell 5).trans (show _ = some _ from rfl)
    have fc := R.frozen
    clear R A
    go_wp2_with fail
    exact bodyPost_ret (v := .agg #[.int .i64 ac, .int .i64 0, .slice none 0 0, .slice none 0 0, .int .i64 0, .int .i64 0]) (by simp [results, Tryd.results10, go_sem, c0, c1, c2, c3, c4, c5]) rfl ⟨[.int .i64 ac, .int .i64 0, .slice none 0 0, .slice none 0 0, .int .i64 0, .int .i64 0], [], rfl, by rw [HE.out]; exact badR_own _ _ _, ((((((BW.setCell (Nat.le_succ _) _).setCell (Nat.le_succ _) _).setCell (Nat.le_succ _) _).setCell (Nat.le_succ _) _).setCell (Nat.le_succ _) _).setCell (Nat.le_succ _) _)⟩
end Go.Proofs.YtdemfbbjdnjolaaDoor

