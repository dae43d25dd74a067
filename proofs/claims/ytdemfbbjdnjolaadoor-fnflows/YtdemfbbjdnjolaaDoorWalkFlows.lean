/- The walk of FnFlows, where the two tables and the library's handle are as the program's text lays them (written by tools/walk_flows.py). -/
import Derived.Test.YtdemfbbjdnjolaaDoorJoint18
import Derived.Test.YtdemfbbjdnjolaaDoorJoint17
import Derived.Test.YtdemfbbjdnjolaaDoorJoint16
import Derived.Test.YtdemfbbjdnjolaaDoorPad
namespace Go.Proofs.YtdemfbbjdnjolaaDoor
open Go.ChangeShapes Go.WideShapes Go.ChangeAt Go.RowKit

/-- A record's answer, written out, with its own memory. -/
theorem Own.setNot {w : World} {B n q g : Nat} {p : Option Addr} {bs : List UInt8} (h : Own w B (.slice p n q) bs) (NE : NotIn p n q g) (i : Nat) (u : Value) : Own (w.setCell ⟨g, i, none⟩ u) B (.slice p n q) bs :=
  h.other (grownBy_set w g i u) (fun k hk e => NE k hk (by simp at e; omega))
theorem Own.setOut {w : World} {B g : Nat} {v : Value} {bs : List UInt8} (h : Own w B v bs) (i : Nat) (u : Value) (NE : ∀ k, v.ownBlock = some k → k ≠ g) : Own (w.setCell ⟨g, i, none⟩ u) B v bs :=
  h.other (grownBy_set w g i u) (fun k hk e => NE k hk (by simp at e; omega))
theorem ask_ok {x : StreamD} (h : x.1.length = 32) (h0 : 0 ≤ x.2.1) (h1 : x.2.1 < 200) (h2 : 0 ≤ x.2.2) (h3 : x.2.2 ≤ 99) : askC x = 0 := by
  have hs : stC x = 0 := by
    unfold stC
    rw [if_pos (by simp [is32, h]), if_pos (by simp [inB]; omega)]
  unfold askC
  rw [if_pos hs, if_neg (by omega)]
theorem record_outO {w w' : World} {d : RecordResultD} {us : List Value} {fp : List Nat} {c k : Int} {bs : List UInt8} {s : StreamD} (h : recordResultC.own w' w.heap.size d us fp) (hd : d = (c, k, bs, s)) :
    ∃ pb qb pt qt, us = [.int .i64 c, .int .i64 k, .slice pb bs.length qb, .slice pt s.1.length qt, .int .i64 s.2.1, .int .i64 s.2.2] ∧ Own w' w.heap.size (.slice pb bs.length qb) bs ∧ Own w' w.heap.size (.slice pt s.1.length qt) s.1 := by
  subst hd
  obtain ⟨us0, ts0, f0, g0, rfl, rfl, -, k0, us1, ts1, f1, g1, rfl, rfl, -, k1, us2, ts2, f2, g2, rfl, rfl, -, k2, us3, ts3, f3, g3, rfl, rfl, -, k3, us4, ts4, f4, g4, rfl, rfl, -, k4, k5⟩ := h
  obtain ⟨rfl, -⟩ := k0
  obtain ⟨rfl, -⟩ := k1
  obtain ⟨v2, rfl, o2, -⟩ := k2
  obtain ⟨v3, rfl, o3, -⟩ := k3
  obtain ⟨rfl, -⟩ := k4
  obtain ⟨rfl, -⟩ := k5
  obtain ⟨pb, qb, rfl, -⟩ := o2.rd
  obtain ⟨pt, qt, rfl, -⟩ := o3.rd
  exact ⟨pb, qb, pt, qt, rfl, o2, o3⟩

set_option maxRecDepth 4000 in
set_option maxHeartbeats 8000000 in
theorem fnFlows_walk (a : Option Addr) (cap : Nat) (cs : List UInt8) (w : World) (r0 : Rd w a cap cs) (hT : Tabs w) (hH : Hnd w) :
    Calls Tryd.prog 3 #[.slice a cs.length cap] w fun e w' => e = .returned (.bool true) ∧ Below w.heap.size w w' := by
  by_cases hl0 : 1048576 < cs.length
  · go_enter Tryd.func3, Tryd.ntmps3
    go_wp2_with fail
    refine (lwBig_yes _ _ _ _ hl0).mono ?_
    rintro e w1 ⟨rfl, rfl⟩
    go_wp2
    go_ret
    exact ⟨rfl, Below.refl _ _⟩
  replace hl0 : cs.length ≤ 1048576 := by omega
  have HR : Hid (Rd w a cap cs) := r0
  have HT : Hid (Tabs w ∧ Hnd w) := ⟨hT, hH⟩
  have KA : Hid (∀ (w' : World) (i n : Nat), i ≤ 1000 → n ≤ 1000000 → Below w.heap.size w w' → Calls Tryd.prog 8 #[.slice a cs.length cap, .int .i64 (i : Int), .int .i64 (n : Int)] w' fun e w'' => e = .returned (.int .i64 (lwN cs i n)) ∧ Below w'.heap.size w' w'') := fun w' i n hi hn hb => lwAt_e a cap cs i n w' (HR.out.keep hb) hl0 hi hn
  clear r0 hT hH
  obtain ⟨S0, HS0⟩ : ∃ S, Hid (S = lwS cs) := ⟨_, rfl⟩
  have HSl : Hid (S0.length = 32) := by show _ = _; rw [HS0.out, lwS_len]
  have KL : Hid (∀ w', Below w.heap.size w w' → Calls Tryd.prog 7 #[.slice a cs.length cap] w' fun e w'' => ∃ p q, e = .returned (.agg #[.slice p S0.length q, .int .i64 0, .int .i64 0]) ∧ Rd w'' p q S0 ∧ Below w'.heap.size w' w'') := fun w' hb => by
    refine (lwStream_c a cap cs w' (HR.out.keep hb) hl0).mono ?_
    rintro e w'' ⟨u, rfl, ho, hb2⟩
    rw [← HS0.out] at ho
    obtain ⟨p, q, rfl, r⟩ := ho.rd
    exact ⟨p, q, rfl, r, hb2⟩
  go_enter Tryd.func3, Tryd.ntmps3
  go_wp2_with fail
  refine (lwBig_no _ _ _ _ hl0).mono ?_
  rintro e w1 ⟨rfl, hw1⟩
  subst w1
  go_wp2_with fail
  refine (KL.out _ (Below.refl _ _)).mono ?_
  rintro e w1 ⟨pa, qa, rfl, ra, BW⟩
  have hg0 : Hid (w.heap.size ≤ w1.heap.size) := BW.size
  have A := Arr.new w1 [.slice pa S0.length qa, .int .i64 0, .int .i64 0] 25
  have BL := alloc_below w1 (.cells #[.slice pa S0.length qa, .int .i64 0, .int .i64 0] 25)
  replace ra := ra.keep BL
  replace BW := Below.step BW BL
  clear BL
  go_wp2_with fail
  refine (KL.out _ BW).mono ?_
  rintro e w2 ⟨pb, qb, rfl, rb, hb2⟩
  replace A := A.stay hb2
  replace ra := ra.keep hb2
  replace BW := Below.step BW hb2
  have hg1 : Hid (w1.heap.size < w2.heap.size) := A.lt
  have B := Arr.new w2 [.slice pb S0.length qb, .int .i64 0, .int .i64 0] 25
  have BL := alloc_below w2 (.cells #[.slice pb S0.length qb, .int .i64 0, .int .i64 0] 25)
  have hs2 : Hid ((w2.alloc (.cells #[.slice pb S0.length qb, .int .i64 0, .int .i64 0] 25)).heap.size = w2.heap.size + 1) := size_alloc _ _
  replace A := A.stay BL
  replace ra := ra.keep BL
  replace rb := rb.keep BL
  replace BW := Below.step BW BL
  have oa := (none_own8 (w2.alloc (.cells #[.slice pb S0.length qb, .int .i64 0, .int .i64 0] 25)) (w2.heap.size + 1) (by rw [hs2.out]; exact Nat.le_refl _)).stay (alloc_below _ (.cells #[] 5))
  have oh := none_own8 ((w2.alloc (.cells #[.slice pb S0.length qb, .int .i64 0, .int .i64 0] 25)).alloc (.cells #[] 5)) (w2.heap.size + 1) (by rw [size_alloc, hs2.out]; omega)
  rw [size_alloc, hs2.out] at oh
  rw [hs2.out] at oa
  have BM := Below.mk (alloc_below (w2.alloc (.cells #[.slice pb S0.length qb, .int .i64 0, .int .i64 0] 25)) (.cells #[] 5)) (.cells #[] 5)
  replace A := A.stay BM
  replace B := B.stay BM
  replace ra := ra.keep BM
  replace rb := rb.keep BM
  replace BW := Below.step BW BM
  clear BL BM hb2 KL
  go_wp2_with fail
  go_loopw [5, 6, 7] (fun va vh kk wr => ∃ (k : Nat) (x : StreamD) (L : List UInt8) (pa pb : Option Addr) (qa qb : Nat), k ≤ 5 ∧ kk = .int .i64 k ∧ x.1.length = 32 ∧ 0 ≤ x.2.1 ∧ x.2.1 ≤ k ∧ 0 ≤ x.2.2 ∧ x.2.2 ≤ k ∧ L.length ≤ 6 * k ∧ Own wr (w2.heap.size + 1) va L ∧ Own wr (w2.heap.size + 1) vh L ∧ (∀ j, va.ownBlock = some j → vh.ownBlock ≠ some j) ∧ Arr wr w1.heap.size 25 [.slice pa x.1.length qa, .int .i64 x.2.1, .int .i64 x.2.2] ∧ Arr wr w2.heap.size 25 [.slice pb x.1.length qb, .int .i64 x.2.1, .int .i64 x.2.2] ∧ Rd wr pa qa x.1 ∧ Rd wr pb qb x.1 ∧ Below w.heap.size w wr)
    (fun _ _ kk _ => 5 - (intOf kk).toNat)
  case atStart => exact ⟨0, (S0, 0, 0), [], pa, pb, qa, qb, by decide, rfl, HSl.out, Int.le_refl _, Int.le_refl _, Int.le_refl _, Int.le_refl _, by decide, oa, oh, fun j hj => by simp [Value.ownBlock] at hj ⊢; omega, A, B, ra, rb, BW⟩
  case round =>
    clear oa oh A B ra rb BW
    obtain ⟨k, x, L, pa, pb, qa, qb, hk, rfl, hx, hq0, hq1, he0, he1, hL, oa, oh, hap, A, B, ra, rb, BW⟩ := hrel
    have HX : Hid (x.1.length = 32) := hx
    have HAp : Hid (∀ j, _ = some j → _ ≠ some j) := hap
    clear hx hap
    by_cases hlt : k < 5
    · have hI : (k : Int) < 5 := by omega
      obtain ⟨c9, HC9⟩ : ∃ n : Nat, Hid (lwN cs (k + 9) 6 = (n : Int)) := ⟨(lwN cs (k + 9) 6).toNat, by have := lwN_lo cs (k + 9) 6; show _ = _; omega⟩
      have hc9 : c9 ≤ 5 := by have := lwN_hi cs (k + 9) 6 (by decide); have := HC9.out; omega
      have K9 : Hid (∀ w', Below w.heap.size w w' → Calls Tryd.prog 8 #[.slice a cs.length cap, .int .i64 ((k : Int) + 9), .int .i64 6] w' fun e w'' => e = .returned (.int .i64 (c9 : Int)) ∧ Below w'.heap.size w' w'') := fun w' hb => by
        have h := KA.out w' (k + 9) 6 (by omega) (by decide) hb
        rw [HC9.out] at h
        exact h
      obtain ⟨w3, e3⟩ : ∃ v, v = wr := ⟨_, rfl⟩
      have lB3 : Hid (w2.heap.size < wr.heap.size) := B.lt
      subst e3
      have op0 := none_own8 w3 w3.heap.size (Nat.le_refl _)
      have B0 := alloc_below w3 (.cells #[] 5)
      clear HC9
      go_wp2_with fail
      go_loopw [8, 9] (fun vp ii wi => ∃ (i : Nat) (pl : List UInt8), i ≤ c9 ∧ ii = .int .i64 i ∧ pl.length = i ∧ Own wi w3.heap.size vp pl ∧ Below w3.heap.size w3 wi)
        (fun _ ii _ => c9 - (intOf ii).toNat)
      case atStart => exact ⟨0, [], Nat.zero_le _, rfl, rfl, op0, B0⟩
      case round =>
        clear op0 B0
        obtain ⟨i, pl, hi, rfl, hpl, op, BI⟩ := hrel
        have HPL : Hid (pl.length = i) := hpl
        clear hpl
        obtain ⟨pp, qp, rfl, -⟩ := op.rd
        go_wp2_with fail
        refine (K9.out _ (Below.step BW BI)).mono ?_
        rintro e w5 ⟨rfl, hb5⟩
        replace op := op.stay hb5
        replace BI := Below.step BI hb5
        by_cases hic : i < c9
        · have hicI : (i : Int) < (c9 : Int) := by omega
          have hv0 := lwN_lo cs (k + i) 256
          have hv1 : lwN cs (k + i) 256 ≤ 255 := by have := lwN_hi cs (k + i) 256 (by decide); omega
          have KI : Hid (∀ w', Below w.heap.size w w' → Calls Tryd.prog 8 #[.slice a cs.length cap, .int .i64 ((k : Int) + (i : Int)), .int .i64 256] w' fun e w'' => e = .returned (.int .i64 (lwN cs (k + i) 256)) ∧ Below w'.heap.size w' w'') := fun w' hb => KA.out w' (k + i) 256 (by omega) (by decide) hb
          generalize lwN cs (k + i) 256 = va at *
          obtain ⟨bv, HBV⟩ : ∃ u : UInt8, Hid (va = (u.toNat : Int)) := ⟨UInt8.ofNat va.toNat, by show _ = _; rw [UInt8.toNat_ofNat']; omega⟩
          go_wp2_with fail
          refine (KI.out _ (Below.step BW BI)).mono ?_
          rintro e w6 ⟨rfl, hb6⟩
          have op6 := (op.stay hb6).stay (alloc_below w6 (.cells #[.int .u8 va] 5))
          have B6 := Below.mk (Below.step BI hb6) (.cells #[.int .u8 va] 5)
          clear op hb6
          go_wp2_with (at_builtin; refine wpList_append_rd rfl (.tmp 35) (.tmp 42) rfl w3.heap.size (.slice pp pl.length qp) pl rfl op6 _ 1 [bv] rfl (rd_one w6 bv _ _ HBV.out) (by have := HPL.out; simp; omega) B6.size ?_; intro v7 w7 o7 hg7; have B7 := B6.grown hg7 B6.size (fun k hk => op6.ge k hk); clear hg7)
          go_roundw
          case rel => exact ⟨i + 1, pl ++ [bv], by omega, by go_num, by rw [List.length_append, HPL.out]; rfl, o7, B7⟩
          case measure => simp [intOf]; omega
        · have e : i = c9 := by omega
          subst e
          go_wp2_with fail
          replace A := A.stay BI
          replace B := B.stay BI
          replace ra := ra.keep BI
          replace rb := rb.keep BI
          replace oa := oa.stay BI
          replace oh := oh.stay BI
          replace BW := Below.step BW BI
          have hz5 : Hid (w3.heap.size ≤ w5.heap.size) := BI.size
          have la5 : Hid (∀ j, _ = some j → j < w5.heap.size) := oa.lt
          have lh5 : Hid (∀ j, _ = some j → j < w5.heap.size) := oh.lt
          have lB5 : Hid (w2.heap.size < w5.heap.size) := B.lt
          clear BI
          have hpl5 : pl.length ≤ 5 := by have := HPL.out; omega
          obtain ⟨cp, HCP⟩ : ∃ n : Int, Hid (lwN cs (k + 20) 3 = n) := ⟨_, rfl⟩
          have hcp0 : 0 ≤ cp := by have := lwN_lo cs (k + 20) 3; have := HCP.out; omega
          have hcp1 : cp ≤ 2 := by have := lwN_hi cs (k + 20) 3 (by decide); have := HCP.out; omega
          have KP : Hid (∀ w', Below w.heap.size w w' → Calls Tryd.prog 8 #[.slice a cs.length cap, .int .i64 ((k : Int) + 20), .int .i64 3] w' fun e w'' => e = .returned (.int .i64 cp) ∧ Below w'.heap.size w' w'') := fun w' hb => by
            have h := KA.out w' (k + 20) 3 (by omega) (by decide) hb
            rw [HCP.out] at h
            exact h
          obtain ⟨RC, HRC⟩ : ∃ R, Hid (R = recN x (innerN 23 pl cp)) := ⟨_, rfl⟩
          have hask : askC x = 0 := ask_ok HX.out hq0 (by omega) he0 (by omega)
          have hsr : srC x 23 pl cp = 0 := by
            unfold srC
            rw [if_pos hask, if_pos (by simp [kindB, inB]; omega), if_pos (by omega)]
          have HSR : Hid (srC x 23 pl cp = 0) := hsr
          have KS : Hid (∀ w', Rd w' pa qa x.1 → Rd w' pp qp pl → Tabs w' → Calls Tryd.prog 9 #[.agg #[.slice pa x.1.length qa, .int .i64 x.2.1, .int .i64 x.2.2], .int .i64 23, .slice pp pl.length qp, .int .i64 cp] w' fun e w'' => ∃ pr qr pt qt, e = .returned (.agg #[.int .i64 0, .int .i64 23, .slice pr RC.length qr, .slice pt x.1.length qt, .int .i64 (x.2.1 + 1), .int .i64 x.2.2]) ∧ Own w'' w'.heap.size (.slice pr RC.length qr) RC ∧ Own w'' w'.heap.size (.slice pt x.1.length qt) x.1 ∧ Below w'.heap.size w' w'') := fun w' h1 h2 ht => by
            refine (implSr_k x _ 23 pl _ cp w' (stream_mk h1) ⟨pp, qp, rfl, h2⟩ ht).mono ?_
            rintro e w'' ⟨us, fp, rfl, ko, hb⟩
            obtain ⟨pr, qr, pt, qt, rfl, o1, o2⟩ := record_outO (s := nextS x) ko (show _ = (0, 23, RC, nextS x) by rw [HRC.out, srD, if_pos hsr])
            exact ⟨pr, qr, pt, qt, rfl, o1, o2, hb⟩
          have HASK : Hid (askC x = 0) := hask
          clear hsr hask HCP
          have cA0 := (A.cell 0).trans (show _ = some _ from rfl)
          have cA1 := (A.cell 1).trans (show _ = some _ from rfl)
          have cA2 := (A.cell 2).trans (show _ = some _ from rfl)
          apply share
          case h =>
            intro JN
            have BB := Below.refl w5.heap.size w5
            have hne := HW.some w5
            have g0 := HW.at (cA0)
            have g1 := HW.at (cA1)
            have g2 := HW.at (cA2)
            refine wp_region_pick [0, 1, 2, 3, 4] 8 3 1 rfl rfl rfl (by kernel_rfl) (by kernel_rfl) (by kernel_rfl) (by kernel_rfl) ?_
            simp only [opsAt, List.getElem?_toArray, List.getElem?_cons_zero, List.getElem?_cons_succ]
            repeat (go_big_quiet_step (fail))
            refine wpQuiet_nil ?_
            clear g0 g1 g2
            refine wpM_two (i := 5) (j := 7) (by kernel_rfl) ?_ ?_
            · skip
              refine mOp_call rfl (by go_simp) 8 _ #[.slice a cs.length cap, .int .i64 ((k : Int) + 20), .int .i64 3] (fun w => by go_simp) rfl ?_
              rintro _ ⟨sg, rfl⟩
              refine (KP.out _ (Below.step BW (Below.step BB sg.h))).mono ?_
              rintro e wg ⟨rfl, hbx⟩
              have hbg := Below.step sg.h hbx
              refine ⟨_, rfl, ⟨⟨wg, hbx⟩, rfl⟩, ?_⟩
              replace BB := Below.step BB hbg
              clear hbg hbx sg
              replace hne := HW.some wg
              refine wpM_two (i := 6) (j := 7) (by kernel_rfl) ?_ ?_
              · skip
                refine mOp_call rfl (by go_simp) 9 _ #[.agg #[.slice pa x.1.length qa, .int .i64 x.2.1, .int .i64 x.2.2], .int .i64 23, .slice pp pl.length qp, .int .i64 cp] (fun w => by go_simp) rfl ?_
                rintro _ ⟨sg, rfl⟩
                refine (KS.out _ (ra.keep (Below.step BB sg.h)) (Rd.own (op.stay (Below.step BB sg.h))) (HT.out.1.keep (Below.step BW (Below.step BB sg.h)))).mono ?_
                rintro e wg ⟨pr, qr, pt, qt, rfl, o1, o2, hbx⟩
                have hbg := Below.step sg.h hbx
                refine ⟨_, rfl, ⟨⟨wg, hbx⟩, rfl⟩, ?_⟩
                have KNE1 : ∀ k, (Value.slice pr RC.length qr).ownBlock = some k → k < wg.heap.size := o1.lt
                have KNE2 : ∀ k, (Value.slice pt x.1.length qt).ownBlock = some k → k < wg.heap.size := o2.lt
                replace o1 := o1.lower (B' := w5.heap.size) (Below.step BB sg.h).size
                replace o2 := o2.lower (B' := w5.heap.size) (Below.step BB sg.h).size
                replace BB := Below.step BB hbg
                clear hbg hbx sg
                replace hne := HW.some wg
                refine wpM_only (i := 7) (by kernel_rfl) ?_
                refine mOp_make rfl (by go_simp) ?_
                rintro _ ⟨sa, rfl⟩
                refine ⟨.pointer (some ⟨sa.w.heap.size, 0, none⟩), sa.w.alloc (.cells #[.int .i64 0, .int .i64 0, .slice none 0 0, .slice none 0 0, .int .i64 0, .int .i64 0] 29), by go_simp, ⟨⟨_, alloc_below _ _⟩, rfl⟩, ?_⟩
                have AA := Arr.new sa.w [.int .i64 0, .int .i64 0, .slice none 0 0, .slice none 0 0, .int .i64 0, .int .i64 0] 29
                have hbg := Below.step sa.h (alloc_below sa.w (.cells #[.int .i64 0, .int .i64 0, .slice none 0 0, .slice none 0 0, .int .i64 0, .int .i64 0] 29))
                replace o1 := o1.stay hbg
                replace o2 := o2.stay hbg
                have GG : w5.heap.size ≤ sa.w.heap.size := (Below.step BB sa.h).size
                replace BB := Below.step BB hbg
                have NE1 : NotIn pr RC.length qr sa.w.heap.size := fun k hk e => by have := KNE1 k hk; have := sa.h.size; omega
                have NE2 : NotIn pt x.1.length qt sa.w.heap.size := fun k hk e => by have := KNE2 k hk; have := sa.h.size; omega
                clear KNE1 KNE2
                clear hbg
                replace hne := HW.some (sa.w.alloc (.cells #[.int .i64 0, .int .i64 0, .slice none 0 0, .slice none 0 0, .int .i64 0, .int .i64 0] 29))
                generalize hW : sa.w.alloc (.cells #[.int .i64 0, .int .i64 0, .slice none 0 0, .slice none 0 0, .int .i64 0, .int .i64 0] 29) = wa at *
                clear hW
                generalize sa.w.heap.size = gg at *
                clear sa
                refine wpM_end (by kernel_rfl) rfl (by kernel_rfl) (by decide) ?_
                rintro _ ⟨sz, rfl⟩
                simp only [List.drop_succ_cons, List.drop_zero]
                go_simp
                replace AA := AA.stay sz.h
                replace o1 := o1.stay sz.h
                replace o2 := o2.stay sz.h
                replace BB := Below.step BB sz.h
                clear hne
                generalize sz.w = W at *
                clear sz
                revert NE1
                revert NE2
                revert o1
                revert o2
                revert GG
                revert AA
                revert BB
                revert qt
                revert pt
                revert qr
                revert pr
                revert gg
                revert W
                exact JN.out
              · skip
                refine mOp_make rfl (by go_simp) ?_
                rintro _ ⟨sa, rfl⟩
                refine ⟨.pointer (some ⟨sa.w.heap.size, 0, none⟩), sa.w.alloc (.cells #[.int .i64 0, .int .i64 0, .slice none 0 0, .slice none 0 0, .int .i64 0, .int .i64 0] 29), by go_simp, ⟨⟨_, alloc_below _ _⟩, rfl⟩, ?_⟩
                have AA := Arr.new sa.w [.int .i64 0, .int .i64 0, .slice none 0 0, .slice none 0 0, .int .i64 0, .int .i64 0] 29
                have hbg := Below.step sa.h (alloc_below sa.w (.cells #[.int .i64 0, .int .i64 0, .slice none 0 0, .slice none 0 0, .int .i64 0, .int .i64 0] 29))
                have GG : w5.heap.size ≤ sa.w.heap.size := (Below.step BB sa.h).size
                replace BB := Below.step BB hbg
                clear hbg
                replace hne := HW.some (sa.w.alloc (.cells #[.int .i64 0, .int .i64 0, .slice none 0 0, .slice none 0 0, .int .i64 0, .int .i64 0] 29))
                generalize hW : sa.w.alloc (.cells #[.int .i64 0, .int .i64 0, .slice none 0 0, .slice none 0 0, .int .i64 0, .int .i64 0] 29) = wa at *
                clear hW
                generalize sa.w.heap.size = gg at *
                clear sa
                refine wpM_only (i := 6) (by kernel_rfl) ?_
                refine mOp_call rfl (by go_simp) 9 _ #[.agg #[.slice pa x.1.length qa, .int .i64 x.2.1, .int .i64 x.2.2], .int .i64 23, .slice pp pl.length qp, .int .i64 cp] (fun w => by go_simp) rfl ?_
                rintro _ ⟨sg, rfl⟩
                refine (KS.out _ (ra.keep (Below.step BB sg.h)) (Rd.own (op.stay (Below.step BB sg.h))) (HT.out.1.keep (Below.step BW (Below.step BB sg.h)))).mono ?_
                rintro e wg ⟨pr, qr, pt, qt, rfl, o1, o2, hbx⟩
                have hbg := Below.step sg.h hbx
                refine ⟨_, rfl, ⟨⟨wg, hbx⟩, rfl⟩, ?_⟩
                have NE1 : NotIn pr RC.length qr gg := fun k hk e => by have := o1.ge k hk; have := AA.lt; have := sg.h.size; omega
                have NE2 : NotIn pt x.1.length qt gg := fun k hk e => by have := o2.ge k hk; have := AA.lt; have := sg.h.size; omega
                replace o1 := o1.lower (B' := w5.heap.size) (Below.step BB sg.h).size
                replace o2 := o2.lower (B' := w5.heap.size) (Below.step BB sg.h).size
                replace AA := AA.stay hbg
                replace BB := Below.step BB hbg
                clear hbg hbx sg
                replace hne := HW.some wg
                refine wpM_end (by kernel_rfl) rfl (by kernel_rfl) (by decide) ?_
                rintro _ ⟨sz, rfl⟩
                simp only [List.drop_succ_cons, List.drop_zero]
                go_simp
                replace AA := AA.stay sz.h
                replace o1 := o1.stay sz.h
                replace o2 := o2.stay sz.h
                replace BB := Below.step BB sz.h
                clear hne
                generalize sz.w = W at *
                clear sz
                revert NE1
                revert NE2
                revert o1
                revert o2
                revert GG
                revert AA
                revert BB
                revert qt
                revert pt
                revert qr
                revert pr
                revert gg
                revert W
                exact JN.out
            · skip
              refine mOp_make rfl (by go_simp) ?_
              rintro _ ⟨sa, rfl⟩
              refine ⟨.pointer (some ⟨sa.w.heap.size, 0, none⟩), sa.w.alloc (.cells #[.int .i64 0, .int .i64 0, .slice none 0 0, .slice none 0 0, .int .i64 0, .int .i64 0] 29), by go_simp, ⟨⟨_, alloc_below _ _⟩, rfl⟩, ?_⟩
              have AA := Arr.new sa.w [.int .i64 0, .int .i64 0, .slice none 0 0, .slice none 0 0, .int .i64 0, .int .i64 0] 29
              have hbg := Below.step sa.h (alloc_below sa.w (.cells #[.int .i64 0, .int .i64 0, .slice none 0 0, .slice none 0 0, .int .i64 0, .int .i64 0] 29))
              have GG : w5.heap.size ≤ sa.w.heap.size := (Below.step BB sa.h).size
              replace BB := Below.step BB hbg
              clear hbg
              replace hne := HW.some (sa.w.alloc (.cells #[.int .i64 0, .int .i64 0, .slice none 0 0, .slice none 0 0, .int .i64 0, .int .i64 0] 29))
              generalize hW : sa.w.alloc (.cells #[.int .i64 0, .int .i64 0, .slice none 0 0, .slice none 0 0, .int .i64 0, .int .i64 0] 29) = wa at *
              clear hW
              generalize sa.w.heap.size = gg at *
              clear sa
              refine wpM_only (i := 5) (by kernel_rfl) ?_
              refine mOp_call rfl (by go_simp) 8 _ #[.slice a cs.length cap, .int .i64 ((k : Int) + 20), .int .i64 3] (fun w => by go_simp) rfl ?_
              rintro _ ⟨sg, rfl⟩
              refine (KP.out _ (Below.step BW (Below.step BB sg.h))).mono ?_
              rintro e wg ⟨rfl, hbx⟩
              have hbg := Below.step sg.h hbx
              refine ⟨_, rfl, ⟨⟨wg, hbx⟩, rfl⟩, ?_⟩
              replace AA := AA.stay hbg
              replace BB := Below.step BB hbg
              clear hbg hbx sg
              replace hne := HW.some wg
              refine wpM_only (i := 6) (by kernel_rfl) ?_
              refine mOp_call rfl (by go_simp) 9 _ #[.agg #[.slice pa x.1.length qa, .int .i64 x.2.1, .int .i64 x.2.2], .int .i64 23, .slice pp pl.length qp, .int .i64 cp] (fun w => by go_simp) rfl ?_
              rintro _ ⟨sg, rfl⟩
              refine (KS.out _ (ra.keep (Below.step BB sg.h)) (Rd.own (op.stay (Below.step BB sg.h))) (HT.out.1.keep (Below.step BW (Below.step BB sg.h)))).mono ?_
              rintro e wg ⟨pr, qr, pt, qt, rfl, o1, o2, hbx⟩
              have hbg := Below.step sg.h hbx
              refine ⟨_, rfl, ⟨⟨wg, hbx⟩, rfl⟩, ?_⟩
              have NE1 : NotIn pr RC.length qr gg := fun k hk e => by have := o1.ge k hk; have := AA.lt; have := sg.h.size; omega
              have NE2 : NotIn pt x.1.length qt gg := fun k hk e => by have := o2.ge k hk; have := AA.lt; have := sg.h.size; omega
              replace o1 := o1.lower (B' := w5.heap.size) (Below.step BB sg.h).size
              replace o2 := o2.lower (B' := w5.heap.size) (Below.step BB sg.h).size
              replace AA := AA.stay hbg
              replace BB := Below.step BB hbg
              clear hbg hbx sg
              replace hne := HW.some wg
              refine wpM_end (by kernel_rfl) rfl (by kernel_rfl) (by decide) ?_
              rintro _ ⟨sz, rfl⟩
              simp only [List.drop_succ_cons, List.drop_zero]
              go_simp
              replace AA := AA.stay sz.h
              replace o1 := o1.stay sz.h
              replace o2 := o2.stay sz.h
              replace BB := Below.step BB sz.h
              clear hne
              generalize sz.w = W at *
              clear sz
              revert NE1
              revert NE2
              revert o1
              revert o2
              revert GG
              revert AA
              revert BB
              revert qt
              revert pt
              revert qr
              revert pr
              revert gg
              revert W
              exact JN.out
          intro W gg pr qr pt qt BB AA GG o2 o1 NE2 NE1
          have S : Arr ((((((W.setCell ⟨gg, 0, none⟩ (.int .i64 0)).setCell ⟨gg, 1, none⟩ (.int .i64 23)).setCell ⟨gg, 2, none⟩ (.slice pr RC.length qr)).setCell ⟨gg, 3, none⟩ (.slice pt x.1.length qt)).setCell ⟨gg, 4, none⟩ (.int .i64 (x.2.1 + 1))).setCell ⟨gg, 5, none⟩ (.int .i64 x.2.2)) gg 29 [.int .i64 0, .int .i64 23, .slice pr RC.length qr, .slice pt x.1.length qt, .int .i64 (x.2.1 + 1), .int .i64 x.2.2] := ((((((AA.set 0 _).set 1 _).set 2 _).set 3 _).set 4 _).set 5 _)
          have B6 : Below w5.heap.size w5 ((((((W.setCell ⟨gg, 0, none⟩ (.int .i64 0)).setCell ⟨gg, 1, none⟩ (.int .i64 23)).setCell ⟨gg, 2, none⟩ (.slice pr RC.length qr)).setCell ⟨gg, 3, none⟩ (.slice pt x.1.length qt)).setCell ⟨gg, 4, none⟩ (.int .i64 (x.2.1 + 1))).setCell ⟨gg, 5, none⟩ (.int .i64 x.2.2)) := ((((((BB.setCell GG _).setCell GG _).setCell GG _).setCell GG _).setCell GG _).setCell GG _)
          have q1 : Own ((((((W.setCell ⟨gg, 0, none⟩ (.int .i64 0)).setCell ⟨gg, 1, none⟩ (.int .i64 23)).setCell ⟨gg, 2, none⟩ (.slice pr RC.length qr)).setCell ⟨gg, 3, none⟩ (.slice pt x.1.length qt)).setCell ⟨gg, 4, none⟩ (.int .i64 (x.2.1 + 1))).setCell ⟨gg, 5, none⟩ (.int .i64 x.2.2)) w5.heap.size (.slice pr RC.length qr) RC := ((((((o1.setNot NE1 0 _).setNot NE1 1 _).setNot NE1 2 _).setNot NE1 3 _).setNot NE1 4 _).setNot NE1 5 _)
          have q2 : Own ((((((W.setCell ⟨gg, 0, none⟩ (.int .i64 0)).setCell ⟨gg, 1, none⟩ (.int .i64 23)).setCell ⟨gg, 2, none⟩ (.slice pr RC.length qr)).setCell ⟨gg, 3, none⟩ (.slice pt x.1.length qt)).setCell ⟨gg, 4, none⟩ (.int .i64 (x.2.1 + 1))).setCell ⟨gg, 5, none⟩ (.int .i64 x.2.2)) w5.heap.size (.slice pt x.1.length qt) x.1 := ((((((o2.setNot NE2 0 _).setNot NE2 1 _).setNot NE2 2 _).setNot NE2 3 _).setNot NE2 4 _).setNot NE2 5 _)
          have z0 := (AA.cell 0).trans (show _ = some _ from rfl)
          have z1 := (AA.cell 1).trans (show _ = some _ from rfl)
          have z2 := (AA.cell 2).trans (show _ = some _ from rfl)
          have z3 := (AA.cell 3).trans (show _ = some _ from rfl)
          have z4 := (AA.cell 4).trans (show _ = some _ from rfl)
          have z5 := (AA.cell 5).trans (show _ = some _ from rfl)
          have fz := AA.frozen
          replace A := A.stay B6
          replace B := B.stay B6
          replace ra := ra.keep B6
          replace rb := rb.keep B6
          replace oa := oa.stay B6
          replace oh := oh.stay B6
          replace op := op.stay B6
          replace BW := Below.step BW B6
          have hgg : Hid (w5.heap.size ≤ gg) := GG
          have cB0 := (B.cell 0).trans (show _ = some _ from rfl)
          have cB1 := (B.cell 1).trans (show _ = some _ from rfl)
          have cB2 := (B.cell 2).trans (show _ = some _ from rfl)
          have cS2 := (S.cell 2).trans (show _ = some _ from rfl)
          clear AA BB GG o1 o2 NE1 NE2 B6 KS KP K9
          have KH : Hid (∀ w', Rd w' pb qb x.1 → Rd w' pr qr RC → Tabs w' → Hnd w' → Calls Tryd.prog 10 #[.agg #[.slice pb x.1.length qb, .int .i64 x.2.1, .int .i64 x.2.2], .slice pr RC.length qr] w' fun e w'' => ∃ ph qh pu qu, e = .returned (.agg #[.int .i64 0, .int .i64 23, .slice ph pl.length qh, .slice pu x.1.length qu, .int .i64 (x.2.1 + 1), .int .i64 x.2.2]) ∧ Own w'' w'.heap.size (.slice ph pl.length qh) pl ∧ Own w'' w'.heap.size (.slice pu x.1.length qu) x.1 ∧ Below w'.heap.size w' w'') := fun w' h1 h2 ht hh => by
            refine (implHr_k x _ RC _ w' (stream_mk h1) ⟨pr, qr, rfl, h2⟩ (by rw [HRC.out, recN_len, innerN_len]; omega) ht hh).mono ?_
            rintro e w'' ⟨us, fp, rfl, ko, hb⟩
            obtain ⟨ph, qh, pu, qu, rfl, o1, o2⟩ := record_outO (s := nextS x) ko (show _ = (0, 23, pl, nextS x) by rw [HRC.out]; exact sent_heard HSR.out)
            exact ⟨ph, qh, pu, qu, rfl, o1, o2, hb⟩
          go_wp2_with fail
          clear z0 z1 z2 z3 z4 z5 cB0 cB1 cB2 cS2
          generalize ((((((W.setCell ⟨gg, 0, none⟩ (.int .i64 0)).setCell ⟨gg, 1, none⟩ (.int .i64 23)).setCell ⟨gg, 2, none⟩ (.slice pr RC.length qr)).setCell ⟨gg, 3, none⟩ (.slice pt x.1.length qt)).setCell ⟨gg, 4, none⟩ (.int .i64 (x.2.1 + 1))).setCell ⟨gg, 5, none⟩ (.int .i64 x.2.2)) = v6 at *
          refine (KH.out _ rb (Rd.own q1) (HT.out.1.keep BW) (HT.out.2.keep BW)).mono ?_
          rintro e w7 ⟨ph, qh, pu, qu, rfl, oph, opu, hb7⟩
          have hS6 : Hid (gg < v6.heap.size) := S.lt
          have hv6 : Hid (v6.heap.size ≤ w7.heap.size) := hb7.size
          replace S := S.stay hb7
          replace A := A.stay hb7
          replace B := B.stay hb7
          replace ra := ra.keep hb7
          replace rb := rb.keep hb7
          replace oa := oa.stay hb7
          replace oh := oh.stay hb7
          replace op := op.stay hb7
          replace q1 := q1.stay hb7
          replace q2 := q2.stay hb7
          replace BW := Below.step BW hb7
          have H := Arr.new w7 [.int .i64 0, .int .i64 23, .slice ph pl.length qh, .slice pu x.1.length qu, .int .i64 (x.2.1 + 1), .int .i64 x.2.2] 29
          have BL := alloc_below w7 (.cells #[.int .i64 0, .int .i64 23, .slice ph pl.length qh, .slice pu x.1.length qu, .int .i64 (x.2.1 + 1), .int .i64 x.2.2] 29)
          replace S := S.stay BL
          replace A := A.stay BL
          replace B := B.stay BL
          replace ra := ra.keep BL
          replace rb := rb.keep BL
          replace oa := oa.stay BL
          replace oh := oh.stay BL
          replace op := op.stay BL
          replace q1 := q1.stay BL
          replace q2 := q2.stay BL
          replace BW := Below.step BW BL
          replace oph := oph.stay BL
          replace opu := opu.stay BL
          clear BL hb7 KH
          have s0 := (S.cell 0).trans (show _ = some _ from rfl)
          have s1 := (S.cell 1).trans (show _ = some _ from rfl)
          have s2 := (S.cell 2).trans (show _ = some _ from rfl)
          have s3 := (S.cell 3).trans (show _ = some _ from rfl)
          have s4 := (S.cell 4).trans (show _ = some _ from rfl)
          have s5 := (S.cell 5).trans (show _ = some _ from rfl)
          have h0 := (H.cell 0).trans (show _ = some _ from rfl)
          have h1 := (H.cell 1).trans (show _ = some _ from rfl)
          have h2 := (H.cell 2).trans (show _ = some _ from rfl)
          have h3 := (H.cell 3).trans (show _ = some _ from rfl)
          have h4 := (H.cell 4).trans (show _ = some _ from rfl)
          have h5 := (H.cell 5).trans (show _ = some _ from rfl)
          generalize e7 : w7.alloc (.cells #[.int .i64 0, .int .i64 23, .slice ph pl.length qh, .slice pu x.1.length qu, .int .i64 (x.2.1 + 1), .int .i64 x.2.2] 29) = v7 at *
          have l12 : w1.heap.size < w2.heap.size := hg1.out
          have l23 : w2.heap.size < w3.heap.size := lB3.out
          have l25 : w2.heap.size < w5.heap.size := lB5.out
          have lv6 : w5.heap.size ≤ v6.heap.size := Nat.le_of_lt_succ (Nat.lt_succ_of_lt (Nat.lt_of_le_of_lt hgg.out hS6.out))
          have l67 : v6.heap.size ≤ w7.heap.size := hv6.out
          have lg6 : gg < v6.heap.size := hS6.out
          have l5g : w5.heap.size ≤ gg := hgg.out
          have l01 : w.heap.size ≤ w1.heap.size := hg0.out
          have l02 : w.heap.size ≤ w2.heap.size := by omega
          have A1 : Arr (((v7.setCell ⟨w1.heap.size, 0, none⟩ (.slice pt x.1.length qt)).setCell ⟨w1.heap.size, 1, none⟩ (.int .i64 (x.2.1 + 1))).setCell ⟨w1.heap.size, 2, none⟩ (.int .i64 x.2.2)) w1.heap.size 25 [.slice pt x.1.length qt, .int .i64 (x.2.1 + 1), .int .i64 x.2.2] := (((A.set 0 _).set 1 _).set 2 _)
          have H1 : Arr (((v7.setCell ⟨w1.heap.size, 0, none⟩ (.slice pt x.1.length qt)).setCell ⟨w1.heap.size, 1, none⟩ (.int .i64 (x.2.1 + 1))).setCell ⟨w1.heap.size, 2, none⟩ (.int .i64 x.2.2)) w7.heap.size 29 [.int .i64 0, .int .i64 23, .slice ph pl.length qh, .slice pu x.1.length qu, .int .i64 (x.2.1 + 1), .int .i64 x.2.2] := (((H.setOther (by simp; omega) _).setOther (by simp; omega) _).setOther (by simp; omega) _)
          have B1 : Arr (((v7.setCell ⟨w1.heap.size, 0, none⟩ (.slice pt x.1.length qt)).setCell ⟨w1.heap.size, 1, none⟩ (.int .i64 (x.2.1 + 1))).setCell ⟨w1.heap.size, 2, none⟩ (.int .i64 x.2.2)) w2.heap.size 25 [.slice pb x.1.length qb, .int .i64 x.2.1, .int .i64 x.2.2] := (((B.setOther (by simp; omega) _).setOther (by simp; omega) _).setOther (by simp; omega) _)
          have A2 : Arr ((((((v7.setCell ⟨w1.heap.size, 0, none⟩ (.slice pt x.1.length qt)).setCell ⟨w1.heap.size, 1, none⟩ (.int .i64 (x.2.1 + 1))).setCell ⟨w1.heap.size, 2, none⟩ (.int .i64 x.2.2)).setCell ⟨w2.heap.size, 0, none⟩ (.slice pu x.1.length qu)).setCell ⟨w2.heap.size, 1, none⟩ (.int .i64 (x.2.1 + 1))).setCell ⟨w2.heap.size, 2, none⟩ (.int .i64 x.2.2)) w1.heap.size 25 [.slice pt x.1.length qt, .int .i64 (x.2.1 + 1), .int .i64 x.2.2] := (((A1.setOther (by simp; omega) _).setOther (by simp; omega) _).setOther (by simp; omega) _)
          have B2 : Arr ((((((v7.setCell ⟨w1.heap.size, 0, none⟩ (.slice pt x.1.length qt)).setCell ⟨w1.heap.size, 1, none⟩ (.int .i64 (x.2.1 + 1))).setCell ⟨w1.heap.size, 2, none⟩ (.int .i64 x.2.2)).setCell ⟨w2.heap.size, 0, none⟩ (.slice pu x.1.length qu)).setCell ⟨w2.heap.size, 1, none⟩ (.int .i64 (x.2.1 + 1))).setCell ⟨w2.heap.size, 2, none⟩ (.int .i64 x.2.2)) w2.heap.size 25 [.slice pu x.1.length qu, .int .i64 (x.2.1 + 1), .int .i64 x.2.2] := (((B1.set 0 _).set 1 _).set 2 _)
          have H2 : Arr ((((((v7.setCell ⟨w1.heap.size, 0, none⟩ (.slice pt x.1.length qt)).setCell ⟨w1.heap.size, 1, none⟩ (.int .i64 (x.2.1 + 1))).setCell ⟨w1.heap.size, 2, none⟩ (.int .i64 x.2.2)).setCell ⟨w2.heap.size, 0, none⟩ (.slice pu x.1.length qu)).setCell ⟨w2.heap.size, 1, none⟩ (.int .i64 (x.2.1 + 1))).setCell ⟨w2.heap.size, 2, none⟩ (.int .i64 x.2.2)) w7.heap.size 29 [.int .i64 0, .int .i64 23, .slice ph pl.length qh, .slice pu x.1.length qu, .int .i64 (x.2.1 + 1), .int .i64 x.2.2] := (((H1.setOther (by simp; omega) _).setOther (by simp; omega) _).setOther (by simp; omega) _)
          replace oa : Own ((((((v7.setCell ⟨w1.heap.size, 0, none⟩ (.slice pt x.1.length qt)).setCell ⟨w1.heap.size, 1, none⟩ (.int .i64 (x.2.1 + 1))).setCell ⟨w1.heap.size, 2, none⟩ (.int .i64 x.2.2)).setCell ⟨w2.heap.size, 0, none⟩ (.slice pu x.1.length qu)).setCell ⟨w2.heap.size, 1, none⟩ (.int .i64 (x.2.1 + 1))).setCell ⟨w2.heap.size, 2, none⟩ (.int .i64 x.2.2)) (w2.heap.size + 1) u5 L := ((((((oa.setOut 0 _ (fun k hk e => by have := oa.ge k hk; omega) (g := w1.heap.size)).setOut 1 _ (fun k hk e => by have := oa.ge k hk; omega) (g := w1.heap.size)).setOut 2 _ (fun k hk e => by have := oa.ge k hk; omega) (g := w1.heap.size)).setOut 0 _ (fun k hk e => by have := oa.ge k hk; omega) (g := w2.heap.size)).setOut 1 _ (fun k hk e => by have := oa.ge k hk; omega) (g := w2.heap.size)).setOut 2 _ (fun k hk e => by have := oa.ge k hk; omega) (g := w2.heap.size))
          replace oh : Own ((((((v7.setCell ⟨w1.heap.size, 0, none⟩ (.slice pt x.1.length qt)).setCell ⟨w1.heap.size, 1, none⟩ (.int .i64 (x.2.1 + 1))).setCell ⟨w1.heap.size, 2, none⟩ (.int .i64 x.2.2)).setCell ⟨w2.heap.size, 0, none⟩ (.slice pu x.1.length qu)).setCell ⟨w2.heap.size, 1, none⟩ (.int .i64 (x.2.1 + 1))).setCell ⟨w2.heap.size, 2, none⟩ (.int .i64 x.2.2)) (w2.heap.size + 1) u6 L := ((((((oh.setOut 0 _ (fun k hk e => by have := oh.ge k hk; omega) (g := w1.heap.size)).setOut 1 _ (fun k hk e => by have := oh.ge k hk; omega) (g := w1.heap.size)).setOut 2 _ (fun k hk e => by have := oh.ge k hk; omega) (g := w1.heap.size)).setOut 0 _ (fun k hk e => by have := oh.ge k hk; omega) (g := w2.heap.size)).setOut 1 _ (fun k hk e => by have := oh.ge k hk; omega) (g := w2.heap.size)).setOut 2 _ (fun k hk e => by have := oh.ge k hk; omega) (g := w2.heap.size))
          replace op : Own ((((((v7.setCell ⟨w1.heap.size, 0, none⟩ (.slice pt x.1.length qt)).setCell ⟨w1.heap.size, 1, none⟩ (.int .i64 (x.2.1 + 1))).setCell ⟨w1.heap.size, 2, none⟩ (.int .i64 x.2.2)).setCell ⟨w2.heap.size, 0, none⟩ (.slice pu x.1.length qu)).setCell ⟨w2.heap.size, 1, none⟩ (.int .i64 (x.2.1 + 1))).setCell ⟨w2.heap.size, 2, none⟩ (.int .i64 x.2.2)) (w3.heap.size) (.slice pp pl.length qp) pl := ((((((op.setOut 0 _ (fun k hk e => by have := op.ge k hk; omega) (g := w1.heap.size)).setOut 1 _ (fun k hk e => by have := op.ge k hk; omega) (g := w1.heap.size)).setOut 2 _ (fun k hk e => by have := op.ge k hk; omega) (g := w1.heap.size)).setOut 0 _ (fun k hk e => by have := op.ge k hk; omega) (g := w2.heap.size)).setOut 1 _ (fun k hk e => by have := op.ge k hk; omega) (g := w2.heap.size)).setOut 2 _ (fun k hk e => by have := op.ge k hk; omega) (g := w2.heap.size))
          replace q2 : Own ((((((v7.setCell ⟨w1.heap.size, 0, none⟩ (.slice pt x.1.length qt)).setCell ⟨w1.heap.size, 1, none⟩ (.int .i64 (x.2.1 + 1))).setCell ⟨w1.heap.size, 2, none⟩ (.int .i64 x.2.2)).setCell ⟨w2.heap.size, 0, none⟩ (.slice pu x.1.length qu)).setCell ⟨w2.heap.size, 1, none⟩ (.int .i64 (x.2.1 + 1))).setCell ⟨w2.heap.size, 2, none⟩ (.int .i64 x.2.2)) (w5.heap.size) (.slice pt x.1.length qt) x.1 := ((((((q2.setOut 0 _ (fun k hk e => by have := q2.ge k hk; omega) (g := w1.heap.size)).setOut 1 _ (fun k hk e => by have := q2.ge k hk; omega) (g := w1.heap.size)).setOut 2 _ (fun k hk e => by have := q2.ge k hk; omega) (g := w1.heap.size)).setOut 0 _ (fun k hk e => by have := q2.ge k hk; omega) (g := w2.heap.size)).setOut 1 _ (fun k hk e => by have := q2.ge k hk; omega) (g := w2.heap.size)).setOut 2 _ (fun k hk e => by have := q2.ge k hk; omega) (g := w2.heap.size))
          replace oph : Own ((((((v7.setCell ⟨w1.heap.size, 0, none⟩ (.slice pt x.1.length qt)).setCell ⟨w1.heap.size, 1, none⟩ (.int .i64 (x.2.1 + 1))).setCell ⟨w1.heap.size, 2, none⟩ (.int .i64 x.2.2)).setCell ⟨w2.heap.size, 0, none⟩ (.slice pu x.1.length qu)).setCell ⟨w2.heap.size, 1, none⟩ (.int .i64 (x.2.1 + 1))).setCell ⟨w2.heap.size, 2, none⟩ (.int .i64 x.2.2)) (v6.heap.size) (.slice ph pl.length qh) pl := ((((((oph.setOut 0 _ (fun k hk e => by have := oph.ge k hk; omega) (g := w1.heap.size)).setOut 1 _ (fun k hk e => by have := oph.ge k hk; omega) (g := w1.heap.size)).setOut 2 _ (fun k hk e => by have := oph.ge k hk; omega) (g := w1.heap.size)).setOut 0 _ (fun k hk e => by have := oph.ge k hk; omega) (g := w2.heap.size)).setOut 1 _ (fun k hk e => by have := oph.ge k hk; omega) (g := w2.heap.size)).setOut 2 _ (fun k hk e => by have := oph.ge k hk; omega) (g := w2.heap.size))
          replace opu : Own ((((((v7.setCell ⟨w1.heap.size, 0, none⟩ (.slice pt x.1.length qt)).setCell ⟨w1.heap.size, 1, none⟩ (.int .i64 (x.2.1 + 1))).setCell ⟨w1.heap.size, 2, none⟩ (.int .i64 x.2.2)).setCell ⟨w2.heap.size, 0, none⟩ (.slice pu x.1.length qu)).setCell ⟨w2.heap.size, 1, none⟩ (.int .i64 (x.2.1 + 1))).setCell ⟨w2.heap.size, 2, none⟩ (.int .i64 x.2.2)) (v6.heap.size) (.slice pu x.1.length qu) x.1 := ((((((opu.setOut 0 _ (fun k hk e => by have := opu.ge k hk; omega) (g := w1.heap.size)).setOut 1 _ (fun k hk e => by have := opu.ge k hk; omega) (g := w1.heap.size)).setOut 2 _ (fun k hk e => by have := opu.ge k hk; omega) (g := w1.heap.size)).setOut 0 _ (fun k hk e => by have := opu.ge k hk; omega) (g := w2.heap.size)).setOut 1 _ (fun k hk e => by have := opu.ge k hk; omega) (g := w2.heap.size)).setOut 2 _ (fun k hk e => by have := opu.ge k hk; omega) (g := w2.heap.size))
          replace BW : Below w.heap.size w ((((((v7.setCell ⟨w1.heap.size, 0, none⟩ (.slice pt x.1.length qt)).setCell ⟨w1.heap.size, 1, none⟩ (.int .i64 (x.2.1 + 1))).setCell ⟨w1.heap.size, 2, none⟩ (.int .i64 x.2.2)).setCell ⟨w2.heap.size, 0, none⟩ (.slice pu x.1.length qu)).setCell ⟨w2.heap.size, 1, none⟩ (.int .i64 (x.2.1 + 1))).setCell ⟨w2.heap.size, 2, none⟩ (.int .i64 x.2.2)) := ((((((BW.setCell l01 _).setCell l01 _).setCell l01 _).setCell l02 _).setCell l02 _).setCell l02 _)
          have a0 := (A.cell 0).trans (show _ = some _ from rfl)
          have a1 := (A.cell 1).trans (show _ = some _ from rfl)
          have a2 := (A.cell 2).trans (show _ = some _ from rfl)
          have fa := A.frozen
          have b0 := (B1.cell 0).trans (show _ = some _ from rfl)
          have b1 := (B1.cell 1).trans (show _ = some _ from rfl)
          have b2 := (B1.cell 2).trans (show _ = some _ from rfl)
          have fb := B1.frozen
          have x3 := (H1.cell 3).trans (show _ = some _ from rfl)
          have x4 := (H1.cell 4).trans (show _ = some _ from rfl)
          have x5 := (H1.cell 5).trans (show _ = some _ from rfl)
          have x2 := (H2.cell 2).trans (show _ = some _ from rfl)
          clear S q1 ra rb A B A1 B1 H1 H
          have YA2 : Hid _ := A2
          clear A2
          have YB2 : Hid _ := B2
          clear B2
          have YH2 : Hid _ := H2
          clear H2
          have Yoa : Hid _ := oa
          clear oa
          have Yoh : Hid _ := oh
          clear oh
          have Yop : Hid _ := op
          clear op
          have Yq2 : Hid _ := q2
          clear q2
          have Yoph : Hid _ := oph
          clear oph
          have Yopu : Hid _ := opu
          clear opu
          have YBW : Hid _ := BW
          clear BW
          go_wp2_with (at_builtin; refine Hid.out ?_)
          generalize ((((((v7.setCell ⟨w1.heap.size, 0, none⟩ (.slice pt x.1.length qt)).setCell ⟨w1.heap.size, 1, none⟩ (.int .i64 (x.2.1 + 1))).setCell ⟨w1.heap.size, 2, none⟩ (.int .i64 x.2.2)).setCell ⟨w2.heap.size, 0, none⟩ (.slice pu x.1.length qu)).setCell ⟨w2.heap.size, 1, none⟩ (.int .i64 (x.2.1 + 1))).setCell ⟨w2.heap.size, 2, none⟩ (.int .i64 x.2.2)) = v8 at *
          clear s0 s1 s2 s3 s4 s5 h0 h1 h2 h3 h4 h5 a0 a1 a2 b0 b1 b2 fa fb x2 x3 x4 x5 e7
          have A2 : Arr v8 w1.heap.size 25 [.slice pt x.1.length qt, .int .i64 (x.2.1 + 1), .int .i64 x.2.2] := YA2.out
          clear YA2
          have B2 : Arr v8 w2.heap.size 25 [.slice pu x.1.length qu, .int .i64 (x.2.1 + 1), .int .i64 x.2.2] := YB2.out
          clear YB2
          have H2 : Arr v8 w7.heap.size 29 [.int .i64 0, .int .i64 23, .slice ph pl.length qh, .slice pu x.1.length qu, .int .i64 (x.2.1 + 1), .int .i64 x.2.2] := YH2.out
          clear YH2
          have oa : Own v8 (w2.heap.size + 1) u5 L := Yoa.out
          clear Yoa
          have oh : Own v8 (w2.heap.size + 1) u6 L := Yoh.out
          clear Yoh
          have op : Own v8 (w3.heap.size) (.slice pp pl.length qp) pl := Yop.out
          clear Yop
          have q2 : Own v8 (w5.heap.size) (.slice pt x.1.length qt) x.1 := Yq2.out
          clear Yq2
          have oph : Own v8 (v6.heap.size) (.slice ph pl.length qh) pl := Yoph.out
          clear Yoph
          have opu : Own v8 (v6.heap.size) (.slice pu x.1.length qu) x.1 := Yopu.out
          clear Yopu
          have BW : Below w.heap.size w v8 := YBW.out
          clear YBW
          have l78 : Hid (w7.heap.size < v8.heap.size) := H2.lt
          unfold Hid
          refine wpList_append_loc rfl (.tmp 72) (.tmp 73) rfl (w2.heap.size + 1) u5 L rfl oa pp qp pl rfl (Rd.own op) (by omega) B2.lt ?_
          intro v5 w9 o9 g9 l9
          replace A2 := A2.other g9 (fun e => by have := oa.ge _ e; omega)
          replace B2 := B2.other g9 (fun e => by have := oa.ge _ e; omega)
          replace H2 := H2.other g9 (fun e => by have := la5.out _ e; omega)
          replace oh := oh.other g9 (fun k hk e => HAp.out _ e hk)
          replace q2 := q2.other g9 (fun k hk e => by have := la5.out _ e; have := q2.ge k hk; omega)
          replace oph := oph.other g9 (fun k hk e => by have := la5.out _ e; have := oph.ge k hk; omega)
          replace opu := opu.other g9 (fun k hk e => by have := la5.out _ e; have := opu.ge k hk; omega)
          replace BW := BW.grown g9 BW.size (fun k hk => by have := oa.ge k hk; omega)
          have L9 : Hid (_ ∨ _) := l9
          clear oa g9 l9 op
          have x2 := (H2.cell 2).trans (show _ = some _ from rfl)
          go_wp2_with (at_builtin; refine Hid.out ?_)
          unfold Hid
          refine wpList_append_loc rfl _ _ rfl (w2.heap.size + 1) u6 L rfl oh ph qh pl rfl (Rd.own oph) (by omega) B2.lt ?_
          intro v6h w10 o10 g10 l10
          have HA2 : Hid (∀ j, v5.ownBlock = some j → v6h.ownBlock ≠ some j) := fun j hj e => by
            rcases l10 with h | h
            · rcases L9.out with h2 | h2
              · exact HAp.out j (h2 ▸ hj) (h ▸ e)
              · have e1 : j = v8.heap.size := by rw [h2] at hj; exact (Option.some.inj hj).symm
                have := lh5.out j (h ▸ e)
                have := l78.out
                omega
            · have e1 : j = w9.heap.size := by rw [h] at e; exact (Option.some.inj e).symm
              have := o9.lt j hj
              omega
          replace o9 := o9.other g10 (fun j hj e => by
            rcases L9.out with h2 | h2
            · exact HAp.out j (h2 ▸ hj) e
            · have e1 : j = v8.heap.size := by rw [h2] at hj; exact (Option.some.inj hj).symm
              have := lh5.out j e
              have := l78.out
              omega)
          replace A2 := A2.other g10 (fun e => by have := oh.ge _ e; omega)
          replace B2 := B2.other g10 (fun e => by have := oh.ge _ e; omega)
          replace q2 := q2.other g10 (fun k hk e => by have := lh5.out _ e; have := q2.ge k hk; omega)
          replace opu := opu.other g10 (fun k hk e => by have := lh5.out _ e; have := opu.ge k hk; omega)
          replace BW := BW.grown g10 BW.size (fun k hk => by have := oh.ge k hk; omega)
          clear oh oph H2 g10 l10 x2 L9
          obtain ⟨c30, HC30⟩ : ∃ n : Int, Hid (lwN cs (k + 30) 3 = n) := ⟨_, rfl⟩
          have KU : Hid (∀ w', Below w.heap.size w w' → Calls Tryd.prog 8 #[.slice a cs.length cap, .int .i64 ((k : Int) + 30), .int .i64 3] w' fun e w'' => e = .returned (.int .i64 c30) ∧ Below w'.heap.size w' w'') := fun w' hb => by
            have h := KA.out w' (k + 30) 3 (by omega) (by decide) hb
            rw [HC30.out] at h
            exact h
          clear HC30
          go_wp2_with fail
          refine (KU.out _ BW).mono ?_
          rintro e w11 ⟨rfl, hb11⟩
          replace A2 := A2.stay hb11
          replace B2 := B2.stay hb11
          replace o9 := o9.stay hb11
          replace o10 := o10.stay hb11
          replace q2 := q2.stay hb11
          replace opu := opu.stay hb11
          replace BW := Below.step BW hb11
          clear hb11 KU
          by_cases hz : c30 = 0
          · subst hz
            obtain ⟨E, HE⟩ : ∃ E, Hid (E = expLabN x.1 updLab [] 32) := ⟨_, rfl⟩
            have HEl : Hid (E.length = 32) := by show _ = _; rw [HE.out, expLabN_len]
            have l11 : Hid (w2.heap.size < w11.heap.size) := B2.lt
            have KUs : Hid (∀ w' p q, Rd w' p q x.1 → Tabs w' → Calls Tryd.prog 11 #[.agg #[.slice p x.1.length q, .int .i64 (x.2.1 + 1), .int .i64 x.2.2]] w' fun e w'' => ∃ pr qr pt qt, e = .returned (.agg #[.int .i64 0, .int .i64 0, .slice pr 0 qr, .slice pt E.length qt, .int .i64 0, .int .i64 (x.2.2 + 1)]) ∧ Own w'' w'.heap.size (.slice pt E.length qt) E ∧ Below w'.heap.size w' w'') := fun w' p q h1 ht => by
              refine (implUs_k (nextS x) _ w' (stream_mk (a := nextS x) h1) ht).mono ?_
              rintro e w'' ⟨us, fp, rfl, ko, hb⟩
              have hs := nextS_ok HASK.out
              have hu : usC (nextS x) = 0 := by unfold usC; rw [if_pos hs, if_neg (by show ¬ 99 ≤ x.2.2; omega)]
              obtain ⟨pr, qr, pt, qt, rfl, -, o2⟩ := record_outO (s := (E, 0, x.2.2 + 1)) ko (show _ = (0, 0, [], (E, 0, x.2.2 + 1)) by rw [HE.out]; unfold usD; rw [if_pos hu]; rfl)
              exact ⟨pr, qr, pt, qt, rfl, o2, hb⟩
            have a0 := (A2.cell 0).trans (show _ = some _ from rfl)
            have a1 := (A2.cell 1).trans (show _ = some _ from rfl)
            have a2 := (A2.cell 2).trans (show _ = some _ from rfl)
            go_wp2_with fail
            refine (KUs.out _ pt qt (Rd.own q2) (HT.out.1.keep BW)).mono ?_
            rintro e w12 ⟨r1, k1, pm, qm, rfl, om, hb12⟩
            clear a0 a1 a2
            replace A2 := A2.stay hb12
            replace B2 := B2.stay hb12
            replace o9 := o9.stay hb12
            replace o10 := o10.stay hb12
            replace q2 := q2.stay hb12
            replace opu := opu.stay hb12
            replace BW := Below.step BW hb12
            have lB12 : Hid (w2.heap.size < w12.heap.size) := B2.lt
            have U := Arr.new w12 [.int .i64 0, .int .i64 0, .slice r1 0 k1, .slice pm E.length qm, .int .i64 0, .int .i64 (x.2.2 + 1)] 29
            have BL := alloc_below w12 (.cells #[.int .i64 0, .int .i64 0, .slice r1 0 k1, .slice pm E.length qm, .int .i64 0, .int .i64 (x.2.2 + 1)] 29)
            replace A2 := A2.stay BL
            replace B2 := B2.stay BL
            replace o9 := o9.stay BL
            replace o10 := o10.stay BL
            replace q2 := q2.stay BL
            replace opu := opu.stay BL
            replace BW := Below.step BW BL
            replace om := om.stay BL
            have l12s : Hid (w11.heap.size ≤ (w12.alloc (.cells #[.int .i64 0, .int .i64 0, .slice r1 0 k1, .slice pm E.length qm, .int .i64 0, .int .i64 (x.2.2 + 1)] 29)).heap.size) := Nat.le_trans hb12.size BL.size
            clear BL hb12
            have b0 := (B2.cell 0).trans (show _ = some _ from rfl)
            have b1 := (B2.cell 1).trans (show _ = some _ from rfl)
            have b2 := (B2.cell 2).trans (show _ = some _ from rfl)
            go_wp2_with fail
            refine (KUs.out _ pu qu (Rd.own opu) (HT.out.1.keep BW)).mono ?_
            rintro e w13 ⟨r2, k2, pn, qn, rfl, on, hb13⟩
            clear b0 b1 b2
            replace on := on.lower l12s.out
            have l23s : Hid (w11.heap.size ≤ w13.heap.size) := Nat.le_trans l12s.out hb13.size
            replace A2 := A2.stay hb13
            replace B2 := B2.stay hb13
            replace o9 := o9.stay hb13
            replace o10 := o10.stay hb13
            replace q2 := q2.stay hb13
            replace opu := opu.stay hb13
            replace BW := Below.step BW hb13
            replace U := U.stay hb13
            replace om := om.stay hb13
            have lB13 : Hid (w2.heap.size < w13.heap.size) := B2.lt
            have Y := Arr.new w13 [.int .i64 0, .int .i64 0, .slice r2 0 k2, .slice pn E.length qn, .int .i64 0, .int .i64 (x.2.2 + 1)] 29
            have BL := alloc_below w13 (.cells #[.int .i64 0, .int .i64 0, .slice r2 0 k2, .slice pn E.length qn, .int .i64 0, .int .i64 (x.2.2 + 1)] 29)
            replace A2 := A2.stay BL
            replace B2 := B2.stay BL
            replace o9 := o9.stay BL
            replace o10 := o10.stay BL
            replace q2 := q2.stay BL
            replace opu := opu.stay BL
            replace BW := Below.step BW BL
            replace U := U.stay BL
            replace om := om.stay BL
            replace on := on.stay BL
            clear BL hb13 KUs q2 opu
            have a0 := (A2.cell 0).trans (show _ = some _ from rfl)
            have a1 := (A2.cell 1).trans (show _ = some _ from rfl)
            have a2 := (A2.cell 2).trans (show _ = some _ from rfl)
            have m0 := (U.cell 0).trans (show _ = some _ from rfl)
            have m1 := (U.cell 1).trans (show _ = some _ from rfl)
            have m2 := (U.cell 2).trans (show _ = some _ from rfl)
            have m3 := (U.cell 3).trans (show _ = some _ from rfl)
            have m4 := (U.cell 4).trans (show _ = some _ from rfl)
            have m5 := (U.cell 5).trans (show _ = some _ from rfl)
            have n0 := (Y.cell 0).trans (show _ = some _ from rfl)
            have n1 := (Y.cell 1).trans (show _ = some _ from rfl)
            have n2 := (Y.cell 2).trans (show _ = some _ from rfl)
            have n3 := (Y.cell 3).trans (show _ = some _ from rfl)
            have n4 := (Y.cell 4).trans (show _ = some _ from rfl)
            have n5 := (Y.cell 5).trans (show _ = some _ from rfl)
            go_wp2_with fail
            refine (lwSame_yes pm pn qm qn _ _ E _ rfl rfl (Rd.own om) (Rd.own on)).mono ?_
            rintro e w14 ⟨rfl, hw14⟩
            clear a0 a1 a2 m0 m1 m2 m3 m4 m5 n0 n1 n2 n3 n4 n5
            rw [← hw14] at A2 B2 U Y o9 o10 om on BW
            clear hw14
            have j12 := lB12.out
            have j13 := lB13.out
            have j11 := l11.out
            have A3 : Arr (((w14.setCell ⟨w1.heap.size, 0, none⟩ (.slice pm E.length qm)).setCell ⟨w1.heap.size, 1, none⟩ (.int .i64 0)).setCell ⟨w1.heap.size, 2, none⟩ (.int .i64 (x.2.2 + 1))) w1.heap.size 25 [.slice pm E.length qm, .int .i64 0, .int .i64 (x.2.2 + 1)] := (((A2.set 0 _).set 1 _).set 2 _)
            have Y1 : Arr (((w14.setCell ⟨w1.heap.size, 0, none⟩ (.slice pm E.length qm)).setCell ⟨w1.heap.size, 1, none⟩ (.int .i64 0)).setCell ⟨w1.heap.size, 2, none⟩ (.int .i64 (x.2.2 + 1))) w13.heap.size 29 [.int .i64 0, .int .i64 0, .slice r2 0 k2, .slice pn E.length qn, .int .i64 0, .int .i64 (x.2.2 + 1)] := (((Y.setOther (by simp; omega) _).setOther (by simp; omega) _).setOther (by simp; omega) _)
            have B3 : Arr (((w14.setCell ⟨w1.heap.size, 0, none⟩ (.slice pm E.length qm)).setCell ⟨w1.heap.size, 1, none⟩ (.int .i64 0)).setCell ⟨w1.heap.size, 2, none⟩ (.int .i64 (x.2.2 + 1))) w2.heap.size 25 [.slice pu x.1.length qu, .int .i64 (x.2.1 + 1), .int .i64 x.2.2] := (((B2.setOther (by simp; omega) _).setOther (by simp; omega) _).setOther (by simp; omega) _)
            have A4 : Arr ((((((w14.setCell ⟨w1.heap.size, 0, none⟩ (.slice pm E.length qm)).setCell ⟨w1.heap.size, 1, none⟩ (.int .i64 0)).setCell ⟨w1.heap.size, 2, none⟩ (.int .i64 (x.2.2 + 1))).setCell ⟨w2.heap.size, 0, none⟩ (.slice pn E.length qn)).setCell ⟨w2.heap.size, 1, none⟩ (.int .i64 0)).setCell ⟨w2.heap.size, 2, none⟩ (.int .i64 (x.2.2 + 1))) w1.heap.size 25 [.slice pm E.length qm, .int .i64 0, .int .i64 (x.2.2 + 1)] := (((A3.setOther (by simp; omega) _).setOther (by simp; omega) _).setOther (by simp; omega) _)
            have B4 : Arr ((((((w14.setCell ⟨w1.heap.size, 0, none⟩ (.slice pm E.length qm)).setCell ⟨w1.heap.size, 1, none⟩ (.int .i64 0)).setCell ⟨w1.heap.size, 2, none⟩ (.int .i64 (x.2.2 + 1))).setCell ⟨w2.heap.size, 0, none⟩ (.slice pn E.length qn)).setCell ⟨w2.heap.size, 1, none⟩ (.int .i64 0)).setCell ⟨w2.heap.size, 2, none⟩ (.int .i64 (x.2.2 + 1))) w2.heap.size 25 [.slice pn E.length qn, .int .i64 0, .int .i64 (x.2.2 + 1)] := (((B3.set 0 _).set 1 _).set 2 _)
            replace o9 : Own ((((((w14.setCell ⟨w1.heap.size, 0, none⟩ (.slice pm E.length qm)).setCell ⟨w1.heap.size, 1, none⟩ (.int .i64 0)).setCell ⟨w1.heap.size, 2, none⟩ (.int .i64 (x.2.2 + 1))).setCell ⟨w2.heap.size, 0, none⟩ (.slice pn E.length qn)).setCell ⟨w2.heap.size, 1, none⟩ (.int .i64 0)).setCell ⟨w2.heap.size, 2, none⟩ (.int .i64 (x.2.2 + 1))) (w2.heap.size + 1) v5 (L ++ pl) := ((((((o9.setOut 0 _ (fun k hk e => by have := o9.ge k hk; omega) (g := w1.heap.size)).setOut 1 _ (fun k hk e => by have := o9.ge k hk; omega) (g := w1.heap.size)).setOut 2 _ (fun k hk e => by have := o9.ge k hk; omega) (g := w1.heap.size)).setOut 0 _ (fun k hk e => by have := o9.ge k hk; omega) (g := w2.heap.size)).setOut 1 _ (fun k hk e => by have := o9.ge k hk; omega) (g := w2.heap.size)).setOut 2 _ (fun k hk e => by have := o9.ge k hk; omega) (g := w2.heap.size))
            replace o10 : Own ((((((w14.setCell ⟨w1.heap.size, 0, none⟩ (.slice pm E.length qm)).setCell ⟨w1.heap.size, 1, none⟩ (.int .i64 0)).setCell ⟨w1.heap.size, 2, none⟩ (.int .i64 (x.2.2 + 1))).setCell ⟨w2.heap.size, 0, none⟩ (.slice pn E.length qn)).setCell ⟨w2.heap.size, 1, none⟩ (.int .i64 0)).setCell ⟨w2.heap.size, 2, none⟩ (.int .i64 (x.2.2 + 1))) (w2.heap.size + 1) v6h (L ++ pl) := ((((((o10.setOut 0 _ (fun k hk e => by have := o10.ge k hk; omega) (g := w1.heap.size)).setOut 1 _ (fun k hk e => by have := o10.ge k hk; omega) (g := w1.heap.size)).setOut 2 _ (fun k hk e => by have := o10.ge k hk; omega) (g := w1.heap.size)).setOut 0 _ (fun k hk e => by have := o10.ge k hk; omega) (g := w2.heap.size)).setOut 1 _ (fun k hk e => by have := o10.ge k hk; omega) (g := w2.heap.size)).setOut 2 _ (fun k hk e => by have := o10.ge k hk; omega) (g := w2.heap.size))
            replace om : Own ((((((w14.setCell ⟨w1.heap.size, 0, none⟩ (.slice pm E.length qm)).setCell ⟨w1.heap.size, 1, none⟩ (.int .i64 0)).setCell ⟨w1.heap.size, 2, none⟩ (.int .i64 (x.2.2 + 1))).setCell ⟨w2.heap.size, 0, none⟩ (.slice pn E.length qn)).setCell ⟨w2.heap.size, 1, none⟩ (.int .i64 0)).setCell ⟨w2.heap.size, 2, none⟩ (.int .i64 (x.2.2 + 1))) (w11.heap.size) (.slice pm E.length qm) E := ((((((om.setOut 0 _ (fun k hk e => by have := om.ge k hk; omega) (g := w1.heap.size)).setOut 1 _ (fun k hk e => by have := om.ge k hk; omega) (g := w1.heap.size)).setOut 2 _ (fun k hk e => by have := om.ge k hk; omega) (g := w1.heap.size)).setOut 0 _ (fun k hk e => by have := om.ge k hk; omega) (g := w2.heap.size)).setOut 1 _ (fun k hk e => by have := om.ge k hk; omega) (g := w2.heap.size)).setOut 2 _ (fun k hk e => by have := om.ge k hk; omega) (g := w2.heap.size))
            replace on : Own ((((((w14.setCell ⟨w1.heap.size, 0, none⟩ (.slice pm E.length qm)).setCell ⟨w1.heap.size, 1, none⟩ (.int .i64 0)).setCell ⟨w1.heap.size, 2, none⟩ (.int .i64 (x.2.2 + 1))).setCell ⟨w2.heap.size, 0, none⟩ (.slice pn E.length qn)).setCell ⟨w2.heap.size, 1, none⟩ (.int .i64 0)).setCell ⟨w2.heap.size, 2, none⟩ (.int .i64 (x.2.2 + 1))) (w11.heap.size) (.slice pn E.length qn) E := ((((((on.setOut 0 _ (fun k hk e => by have := on.ge k hk; omega) (g := w1.heap.size)).setOut 1 _ (fun k hk e => by have := on.ge k hk; omega) (g := w1.heap.size)).setOut 2 _ (fun k hk e => by have := on.ge k hk; omega) (g := w1.heap.size)).setOut 0 _ (fun k hk e => by have := on.ge k hk; omega) (g := w2.heap.size)).setOut 1 _ (fun k hk e => by have := on.ge k hk; omega) (g := w2.heap.size)).setOut 2 _ (fun k hk e => by have := on.ge k hk; omega) (g := w2.heap.size))
            replace BW : Below w.heap.size w ((((((w14.setCell ⟨w1.heap.size, 0, none⟩ (.slice pm E.length qm)).setCell ⟨w1.heap.size, 1, none⟩ (.int .i64 0)).setCell ⟨w1.heap.size, 2, none⟩ (.int .i64 (x.2.2 + 1))).setCell ⟨w2.heap.size, 0, none⟩ (.slice pn E.length qn)).setCell ⟨w2.heap.size, 1, none⟩ (.int .i64 0)).setCell ⟨w2.heap.size, 2, none⟩ (.int .i64 (x.2.2 + 1))) := ((((((BW.setCell l01 _).setCell l01 _).setCell l01 _).setCell l02 _).setCell l02 _).setCell l02 _)
            have m3 := (U.cell 3).trans (show _ = some _ from rfl)
            have m4 := (U.cell 4).trans (show _ = some _ from rfl)
            have m5 := (U.cell 5).trans (show _ = some _ from rfl)
            have a0 := (A2.cell 0).trans (show _ = some _ from rfl)
            have a1 := (A2.cell 1).trans (show _ = some _ from rfl)
            have a2 := (A2.cell 2).trans (show _ = some _ from rfl)
            have fa := A2.frozen
            have n3 := (Y1.cell 3).trans (show _ = some _ from rfl)
            have n4 := (Y1.cell 4).trans (show _ = some _ from rfl)
            have n5 := (Y1.cell 5).trans (show _ = some _ from rfl)
            have b0 := (B3.cell 0).trans (show _ = some _ from rfl)
            have b1 := (B3.cell 1).trans (show _ = some _ from rfl)
            have b2 := (B3.cell 2).trans (show _ = some _ from rfl)
            have fb := B3.frozen
            clear A2 B2 A3 B3 U Y Y1
            have YA4 : Hid _ := A4
            clear A4
            have YB4 : Hid _ := B4
            clear B4
            have Yo9 : Hid _ := o9
            clear o9
            have Yo10 : Hid _ := o10
            clear o10
            have Yom : Hid _ := om
            clear om
            have Yon : Hid _ := on
            clear on
            have YBW : Hid _ := BW
            clear BW
            go_wp2_with fail
            go_roundw
            case rel => exact ⟨k + 1, (E, 0, x.2.2 + 1), L ++ pl, pm, pn, qm, qn, by omega, by go_num, HEl.out, Int.le_refl _, by simp; omega, by simp; omega, by simp; omega, by rw [List.length_append]; omega, Yo9.out, Yo10.out, HA2.out, YA4.out, YB4.out, Rd.own Yom.out, Rd.own Yon.out, YBW.out⟩
            case measure => simp [intOf]; omega
          · go_wp2_with fail
            go_roundw
            case rel => exact ⟨k + 1, nextS x, L ++ pl, pt, pu, qt, qu, by omega, by go_num, HX.out, by simp [nextS]; omega, by simp [nextS]; omega, he0, by simp [nextS]; omega, by rw [List.length_append]; omega, o9, o10, HA2.out, A2, B2, Rd.own q2, Rd.own opu, BW⟩
            case measure => simp [intOf]; omega
    · have e : k = 5 := by omega
      subst e
      obtain ⟨p5, q5, rfl, -⟩ := oa.rd
      obtain ⟨p6, q6, rfl, -⟩ := oh.rd
      have c0 := (A.cell 0).trans (show _ = some _ from rfl)
      have c1 := (A.cell 1).trans (show _ = some _ from rfl)
      have c2 := (A.cell 2).trans (show _ = some _ from rfl)
      have d0 := (B.cell 0).trans (show _ = some _ from rfl)
      have d1 := (B.cell 1).trans (show _ = some _ from rfl)
      have d2 := (B.cell 2).trans (show _ = some _ from rfl)
      go_wp2_with fail
      refine (lwSame_yes p5 p6 q5 q6 _ _ L _ rfl rfl (Rd.own oa) (Rd.own oh)).mono ?_
      rintro e w8 ⟨rfl, hw8⟩
      subst w8
      go_wp2_with fail
      refine (lwSame_yes pa pb qa qb _ _ x.1 _ rfl rfl ra rb).mono ?_
      rintro e w9 ⟨rfl, hw9⟩
      subst w9
      go_wp2_with fail
      go_ret
      exact ⟨rfl, BW⟩
end Go.Proofs.YtdemfbbjdnjolaaDoor

