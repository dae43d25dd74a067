/- The walk of FnRecords, where the two tables and the library's handle are as the program's text lays them (written by tools/walk_records.py). -/
import Derived.Test.YtdemfbbjdnjolaaGreatDoorJoint21
import Derived.Test.YtdemfbbjdnjolaaGreatDoorJoint22
import Derived.Test.YtdemfbbjdnjolaaGreatDoorOdd
import Derived.Test.YtdemfbbjdnjolaaGreatDoorPick
namespace Go.Proofs.YtdemfbbjdnjolaaGreatDoor
open Go.ChangeShapes Go.WideShapes Go.ChangeAt Go.RowKit

theorem rec_f0 (c k s e : Int) (a b : Option Addr) (n m n2 m2 : Nat) (w : World) : (Instr.field 29 (.agg #[.int .i64 c, .int .i64 k, .slice a n m, .slice b n2 m2, .int .i64 s, .int .i64 e]) 0).run Tryz.prog w = .ok (.int .i64 c) w := by kernel_rfl
/-- A record's answer, written out. -/
theorem record_out {w w' : World} {d : RecordResultD} {us : List Value} {fp : List Nat} {c k : Int} {bs : List UInt8} {s : StreamD} (h : recordResultC.own w' w.heap.size d us fp) (hd : d = (c, k, bs, s)) :
    ∃ pb qb pt qt, us = [.int .i64 c, .int .i64 k, .slice pb bs.length qb, .slice pt s.1.length qt, .int .i64 s.2.1, .int .i64 s.2.2] ∧ Rd w' pb qb bs ∧ Rd w' pt qt s.1 := by
  subst hd
  obtain ⟨pb, qb, pt, qt, e, r1, r2⟩ := recordResult_rep (recordResultC.toRep h)
  exact ⟨pb, qb, pt, qt, e, r1, r2⟩
theorem keys_out {w w' : World} {d : KeysResultD} {us : List Value} {fp : List Nat} {c : Int} {ks bs : List UInt8} (h : keysResultC.own w' w.heap.size d us fp) (hd : d = (c, ks, bs)) :
    ∃ p1 q1 p2 q2, us = [.int .i64 c, .slice p1 ks.length q1, .slice p2 bs.length q2] ∧ Rd w' p1 q1 ks ∧ Rd w' p2 q2 bs := by
  subst hd
  obtain ⟨p1, q1, p2, q2, e, r1, r2⟩ := keysResult_rep (keysResultC.toRep h)
  exact ⟨p1, q1, p2, q2, e, r1, r2⟩

set_option maxRecDepth 4000 in
set_option maxHeartbeats 8000000 in
theorem fnRecords_walk (a : Option Addr) (cap : Nat) (bs0 : List UInt8) (w : World) (r0 : Rd w a cap bs0) (hT : Tabs w) (hH : Hnd w) :
    Calls Tryz.prog 3 #[.slice a bs0.length cap] w fun e w' => e = .returned (.bool true) ∧ Below w.heap.size w w' := by
  by_cases hl0 : 1048576 < bs0.length
  · go_enter Tryz.func3, Tryz.ntmps3
    go_wp2_with fail
    refine (lwBig_yes _ _ _ _ hl0).mono ?_
    rintro e w1 ⟨rfl, rfl⟩
    go_wp2
    go_ret
    exact ⟨rfl, Below.refl _ _⟩
  replace hl0 : bs0.length ≤ 1048576 := by omega
  go_enter Tryz.func3, Tryz.ntmps3
  go_wp2_with fail
  refine (lwBig_no _ _ _ _ hl0).mono ?_
  rintro e w1 ⟨rfl, hw1⟩
  rw [hw1]
  clear hw1 w1
  go_wp2_with fail
  refine (drawSend_c _ _ bs0 _ r0).mono ?_
  rintro e w1 ⟨ps, pp, qs, qp, x, kind, plain, pad, rfl, hxl, hpl, hp0, hp1, rx, rp, BW⟩
  have HT : Hid (Tabs w1 ∧ Hnd w1) := ⟨hT.keep BW, hH.keep BW⟩
  clear hT hH r0 hl0
  have BA := alloc_below w1 (.cells #[.slice ps x.1.length qs, .int .i64 x.2.1, .int .i64 x.2.2] 25)
  have A := Arr.new w1 [.slice ps x.1.length qs, .int .i64 x.2.1, .int .i64 x.2.2] 25
  replace rx := rx.keep BA
  replace rp := rp.keep BA
  replace BW := Below.step BW BA
  replace HT : Hid (Tabs (w1.alloc (.cells #[.slice ps x.1.length qs, .int .i64 x.2.1, .int .i64 x.2.2] 25)) ∧ Hnd (w1.alloc (.cells #[.slice ps x.1.length qs, .int .i64 x.2.1, .int .i64 x.2.2] 25))) := ⟨HT.out.1.keep BA, HT.out.2.keep BA⟩
  have hpq : plain.length ≤ qp ∧ qp ≤ 2 ^ 63 - 1 := ⟨rp.1, rp.2.1⟩
  by_cases hc : srC x kind plain pad = 0
  · obtain ⟨ha, hkd, hpd, hp200⟩ := sr_parts hc
    obtain ⟨hst0, hx32, hq0, hq1, he0, he1⟩ := ask_parts ha
    have HX : Hid (x.1.length = 32) := hx32
    obtain ⟨RC, HRC⟩ : ∃ R, Hid (R = recN x (innerN kind plain pad)) := ⟨_, rfl⟩
    have HIL : Hid ((innerN kind plain pad).length ≤ 220) := by show _ ≤ _; rw [innerN_len]; omega
    have HRL : Hid ((RC.length : Int) = (plain.length : Int) + pad + 22) := by show _ = _; rw [HRC.out, recN_len, innerN_len]; omega
    have hrl : RC.length ≤ 240 := by have := HRL.out; omega
    have KS : Hid (∀ w, Rd w ps qs x.1 → Rd w pp qp plain → Tabs w → Calls Tryz.prog 7 #[.agg #[.slice ps x.1.length qs, .int .i64 x.2.1, .int .i64 x.2.2], .int .i64 kind, .slice pp plain.length qp, .int .i64 pad] w fun e w' => ∃ pb qb pt qt, e = .returned (.agg #[.int .i64 0, .int .i64 kind, .slice pb RC.length qb, .slice pt x.1.length qt, .int .i64 (x.2.1 + 1), .int .i64 x.2.2]) ∧ Rd w' pb qb RC ∧ Rd w' pt qt x.1 ∧ Below w.heap.size w w') := fun w h1 h2 ht => by
      refine (implSr_k x _ kind plain _ pad w (stream_mk h1) ⟨pp, qp, rfl, h2⟩ ht).mono ?_
      rintro e w' ⟨us, fp, rfl, ko, hb⟩
      obtain ⟨pb, qb, pt, qt, rfl, r1, r2⟩ := record_out (s := nextS x) ko (show _ = (0, kind, RC, nextS x) by rw [HRC.out, srD, if_pos hc])
      exact ⟨pb, qb, pt, qt, rfl, r1, r2, hb⟩
    have KH : Hid (∀ w pb qb, Rd w ps qs x.1 → Rd w pb qb RC → Tabs w → Hnd w → Calls Tryz.prog 9 #[.agg #[.slice ps x.1.length qs, .int .i64 x.2.1, .int .i64 x.2.2], .slice pb RC.length qb] w fun e w' => ∃ pb qb pt qt, e = .returned (.agg #[.int .i64 0, .int .i64 kind, .slice pb plain.length qb, .slice pt x.1.length qt, .int .i64 (x.2.1 + 1), .int .i64 x.2.2]) ∧ Rd w' pb qb plain ∧ Rd w' pt qt x.1 ∧ Below w.heap.size w w') := fun w pb qb h1 h2 ht hh => by
      refine (implHr_k x _ RC _ w (stream_mk h1) ⟨pb, qb, rfl, h2⟩ (by omega) ht hh).mono ?_
      rintro e w' ⟨us, fp, rfl, ko, hb⟩
      obtain ⟨pb, qb, pt, qt, rfl, r1, r2⟩ := record_out (s := nextS x) ko (show _ = (0, kind, plain, nextS x) by rw [HRC.out]; exact sent_heard hc)
      exact ⟨pb, qb, pt, qt, rfl, r1, r2, hb⟩
    have KC : Hid (∀ w pb qb, Rd w pb qb RC → Calls Tryz.prog 10 #[.slice pb RC.length qb] w fun e w' => ∃ bv ov qv pc qc, e = .returned (.agg #[.int .i64 0, .slice (some ⟨bv, ov, none⟩) 1 qv]) ∧ w'.cell? ⟨bv, ov, none⟩ = some (.slice pc RC.length qc) ∧ Rd w' pc qc RC ∧ 1 ≤ qv ∧ qv ≤ 2 ^ 63 - 1 ∧ Below w.heap.size w w') := fun w pb qb h2 => by
      refine (implCr_c RC pb qb w h2).mono ?_
      rintro e w' ⟨v, rfl, ⟨xs, fp, ko⟩, hb⟩
      obtain ⟨hc1, hc2⟩ := cut_one (x := x) (inner := innerN kind plain pad) HIL.out
      rw [← HRC.out] at hc1 hc2
      rw [hc2] at ko
      obtain ⟨pv, qv, rfl, hr⟩ := ko.rd
      obtain ⟨b, o, rfl, hcell⟩ := hr.2.2.2 (by simp)
      obtain ⟨us, hu, huc⟩ := hcell 0 RC rfl
      obtain ⟨pc, qc, rfl, rc⟩ := hu
      have h0 := huc 0 _ rfl
      rw [Nat.zero_mul, Nat.add_zero] at h0
      exact ⟨b, o, qv, pc, qc, by rw [hc1]; rfl, h0, rc, hr.1, hr.2.1, hb⟩
    have KK : Hid (∀ w, Rd w ps qs x.1 → Tabs w → Calls Tryz.prog 11 #[.slice ps x.1.length qs] w fun e w' => ∃ p1 q1 p2 q2, e = .returned (.agg #[.int .i64 0, .slice p1 32 q1, .slice p2 12 q2]) ∧ Rd w' p1 q1 (keyN x.1) ∧ Rd w' p2 q2 (baseN x.1) ∧ Below w.heap.size w w') := fun w h1 ht => by
      refine (implKo_k x.1 _ w ⟨ps, qs, rfl, h1⟩ ht).mono ?_
      rintro e w' ⟨us, fp, rfl, ko, hb⟩
      obtain ⟨p1, q1, p2, q2, rfl, r1, r2⟩ := keys_out ko (show _ = (0, keyN x.1, baseN x.1) by rw [koD, if_pos (by simp [is32, HX.out])])
      rw [keyN_len, baseN_len]
      exact ⟨p1, q1, p2, q2, rfl, r1, r2, hb⟩
    have KF : Hid (∀ w pt qt, Rd w pt qt x.1 → Calls Tryz.prog 13 #[.agg #[.slice pt x.1.length qt, .int .i64 (x.2.1 + 1), .int .i64 x.2.2]] w fun e w' => e = .returned (.int .i64 0) ∧ Below w.heap.size w w') := fun w pt qt h1 => by
      have h := implSf_k (nextS x) _ w (stream_mk (a := nextS x) h1)
      rw [nextS_ok ha] at h
      exact h
    clear hc ha hkd hst0 hx32 HIL
    have cA0 := (A.cell 0).trans (show _ = some _ from rfl)
    have cA1 := (A.cell 1).trans (show _ = some _ from rfl)
    have cA2 := (A.cell 2).trans (show _ = some _ from rfl)
    go_wp2_with fail
    refine (KS.out _ rx rp HT.out.1).mono ?_
    rintro e w2 ⟨pb, qb, pt, qt, rfl, rb, rt, hb2⟩
    clear cA0 cA1 cA2
    replace A := A.stay hb2
    replace rx := rx.keep hb2
    replace rp := rp.keep hb2
    replace BW := Below.step BW hb2
    replace HT : Hid (Tabs w2 ∧ Hnd w2) := ⟨HT.out.1.keep hb2, HT.out.2.keep hb2⟩
    clear hb2
    have S := Arr.new w2 [.int .i64 0, .int .i64 kind, .slice pb RC.length qb, .slice pt x.1.length qt, .int .i64 (x.2.1 + 1), .int .i64 x.2.2] 29
    have BL := alloc_below w2 (.cells #[.int .i64 0, .int .i64 kind, .slice pb RC.length qb, .slice pt x.1.length qt, .int .i64 (x.2.1 + 1), .int .i64 x.2.2] 29)
    replace A := A.stay BL
    replace rx := rx.keep BL
    replace rp := rp.keep BL
    replace rb := rb.keep BL
    replace rt := rt.keep BL
    replace BW := Below.step BW BL
    replace HT : Hid (Tabs (w2.alloc (.cells #[.int .i64 0, .int .i64 kind, .slice pb RC.length qb, .slice pt x.1.length qt, .int .i64 (x.2.1 + 1), .int .i64 x.2.2] 29)) ∧ Hnd (w2.alloc (.cells #[.int .i64 0, .int .i64 kind, .slice pb RC.length qb, .slice pt x.1.length qt, .int .i64 (x.2.1 + 1), .int .i64 x.2.2] 29))) := ⟨HT.out.1.keep BL, HT.out.2.keep BL⟩
    clear BL
    have cA0 := (A.cell 0).trans (show _ = some _ from rfl)
    have cA1 := (A.cell 1).trans (show _ = some _ from rfl)
    have cA2 := (A.cell 2).trans (show _ = some _ from rfl)
    have cS0 := (S.cell 0).trans (show _ = some _ from rfl)
    have cS1 := (S.cell 1).trans (show _ = some _ from rfl)
    have cS2 := (S.cell 2).trans (show _ = some _ from rfl)
    have cS3 := (S.cell 3).trans (show _ = some _ from rfl)
    have cS4 := (S.cell 4).trans (show _ = some _ from rfl)
    have cS5 := (S.cell 5).trans (show _ = some _ from rfl)
    go_wp2_with fail
    refine (KH.out _ pb qb rx rb HT.out.1 HT.out.2).mono ?_
    rintro e w3 ⟨ph, qh, pu, qu, rfl, rh, ru, hb3⟩
    clear cA0 cA1 cA2 cS0 cS1 cS2 cS3 cS4 cS5
    replace A := A.stay hb3
    replace S := S.stay hb3
    replace rx := rx.keep hb3
    replace rp := rp.keep hb3
    replace rb := rb.keep hb3
    replace rt := rt.keep hb3
    replace BW := Below.step BW hb3
    replace HT : Hid (Tabs w3 ∧ Hnd w3) := ⟨HT.out.1.keep hb3, HT.out.2.keep hb3⟩
    clear hb3
    have H := Arr.new w3 [.int .i64 0, .int .i64 kind, .slice ph plain.length qh, .slice pu x.1.length qu, .int .i64 (x.2.1 + 1), .int .i64 x.2.2] 29
    have BL := alloc_below w3 (.cells #[.int .i64 0, .int .i64 kind, .slice ph plain.length qh, .slice pu x.1.length qu, .int .i64 (x.2.1 + 1), .int .i64 x.2.2] 29)
    replace A := A.stay BL
    replace S := S.stay BL
    replace rx := rx.keep BL
    replace rp := rp.keep BL
    replace rb := rb.keep BL
    replace rt := rt.keep BL
    replace rh := rh.keep BL
    replace ru := ru.keep BL
    replace BW := Below.step BW BL
    replace HT : Hid (Tabs (w3.alloc (.cells #[.int .i64 0, .int .i64 kind, .slice ph plain.length qh, .slice pu x.1.length qu, .int .i64 (x.2.1 + 1), .int .i64 x.2.2] 29)) ∧ Hnd (w3.alloc (.cells #[.int .i64 0, .int .i64 kind, .slice ph plain.length qh, .slice pu x.1.length qu, .int .i64 (x.2.1 + 1), .int .i64 x.2.2] 29))) := ⟨HT.out.1.keep BL, HT.out.2.keep BL⟩
    clear BL
    have cA0 := (A.cell 0).trans (show _ = some _ from rfl)
    have cA1 := (A.cell 1).trans (show _ = some _ from rfl)
    have cA2 := (A.cell 2).trans (show _ = some _ from rfl)
    have cS0 := (S.cell 0).trans (show _ = some _ from rfl)
    have cS1 := (S.cell 1).trans (show _ = some _ from rfl)
    have cS2 := (S.cell 2).trans (show _ = some _ from rfl)
    have cS3 := (S.cell 3).trans (show _ = some _ from rfl)
    have cS4 := (S.cell 4).trans (show _ = some _ from rfl)
    have cS5 := (S.cell 5).trans (show _ = some _ from rfl)
    have cH0 := (H.cell 0).trans (show _ = some _ from rfl)
    have cH1 := (H.cell 1).trans (show _ = some _ from rfl)
    have cH2 := (H.cell 2).trans (show _ = some _ from rfl)
    have cH3 := (H.cell 3).trans (show _ = some _ from rfl)
    have cH4 := (H.cell 4).trans (show _ = some _ from rfl)
    have cH5 := (H.cell 5).trans (show _ = some _ from rfl)
    go_wp2_with fail
    refine (KC.out _ pb qb rb).mono ?_
    rintro e w4 ⟨bv, ov, qv, pc, qc, rfl, cv, rc, hv1, hv2, hb4⟩
    clear cA0 cA1 cA2 cS0 cS1 cS2 cS3 cS4 cS5 cH0 cH1 cH2 cH3 cH4 cH5
    replace A := A.stay hb4
    replace S := S.stay hb4
    replace H := H.stay hb4
    replace rx := rx.keep hb4
    replace rp := rp.keep hb4
    replace rb := rb.keep hb4
    replace rt := rt.keep hb4
    replace rh := rh.keep hb4
    replace ru := ru.keep hb4
    replace BW := Below.step BW hb4
    replace HT : Hid (Tabs w4 ∧ Hnd w4) := ⟨HT.out.1.keep hb4, HT.out.2.keep hb4⟩
    clear hb4
    have C := Arr.new w4 [.int .i64 0, .slice (some ⟨bv, ov, none⟩) 1 qv] 34
    have BL := alloc_below w4 (.cells #[.int .i64 0, .slice (some ⟨bv, ov, none⟩) 1 qv] 34)
    replace A := A.stay BL
    replace S := S.stay BL
    replace H := H.stay BL
    replace rx := rx.keep BL
    replace rp := rp.keep BL
    replace rb := rb.keep BL
    replace rt := rt.keep BL
    replace rh := rh.keep BL
    replace ru := ru.keep BL
    replace rc := rc.keep BL
    replace cv := cell_keep cv BL
    replace BW := Below.step BW BL
    replace HT : Hid (Tabs (w4.alloc (.cells #[.int .i64 0, .slice (some ⟨bv, ov, none⟩) 1 qv] 34)) ∧ Hnd (w4.alloc (.cells #[.int .i64 0, .slice (some ⟨bv, ov, none⟩) 1 qv] 34))) := ⟨HT.out.1.keep BL, HT.out.2.keep BL⟩
    clear BL
    have cA0 := (A.cell 0).trans (show _ = some _ from rfl)
    have cA1 := (A.cell 1).trans (show _ = some _ from rfl)
    have cA2 := (A.cell 2).trans (show _ = some _ from rfl)
    have cS0 := (S.cell 0).trans (show _ = some _ from rfl)
    have cS1 := (S.cell 1).trans (show _ = some _ from rfl)
    have cS2 := (S.cell 2).trans (show _ = some _ from rfl)
    have cS3 := (S.cell 3).trans (show _ = some _ from rfl)
    have cS4 := (S.cell 4).trans (show _ = some _ from rfl)
    have cS5 := (S.cell 5).trans (show _ = some _ from rfl)
    have cH0 := (H.cell 0).trans (show _ = some _ from rfl)
    have cH1 := (H.cell 1).trans (show _ = some _ from rfl)
    have cH2 := (H.cell 2).trans (show _ = some _ from rfl)
    have cH3 := (H.cell 3).trans (show _ = some _ from rfl)
    have cH4 := (H.cell 4).trans (show _ = some _ from rfl)
    have cH5 := (H.cell 5).trans (show _ = some _ from rfl)
    have cC0 := (C.cell 0).trans (show _ = some _ from rfl)
    have cC1 := (C.cell 1).trans (show _ = some _ from rfl)
    go_wp2_with fail
    refine (KK.out _ rx HT.out.1).mono ?_
    rintro e w5 ⟨p1, q1, p2, q2, rfl, rk1, rk2, hb5⟩
    clear cA0 cA1 cA2 cS0 cS1 cS2 cS3 cS4 cS5 cH0 cH1 cH2 cH3 cH4 cH5 cC0 cC1
    replace A := A.stay hb5
    replace S := S.stay hb5
    replace H := H.stay hb5
    replace C := C.stay hb5
    replace rx := rx.keep hb5
    replace rp := rp.keep hb5
    replace rb := rb.keep hb5
    replace rt := rt.keep hb5
    replace rh := rh.keep hb5
    replace ru := ru.keep hb5
    replace rc := rc.keep hb5
    replace cv := cell_keep cv hb5
    replace BW := Below.step BW hb5
    replace HT : Hid (Tabs w5 ∧ Hnd w5) := ⟨HT.out.1.keep hb5, HT.out.2.keep hb5⟩
    clear hb5
    have Y := Arr.new w5 [.int .i64 0, .slice p1 32 q1, .slice p2 12 q2] 37
    have BL := alloc_below w5 (.cells #[.int .i64 0, .slice p1 32 q1, .slice p2 12 q2] 37)
    replace A := A.stay BL
    replace S := S.stay BL
    replace H := H.stay BL
    replace C := C.stay BL
    replace rx := rx.keep BL
    replace rp := rp.keep BL
    replace rb := rb.keep BL
    replace rt := rt.keep BL
    replace rh := rh.keep BL
    replace ru := ru.keep BL
    replace rc := rc.keep BL
    replace cv := cell_keep cv BL
    replace BW := Below.step BW BL
    replace HT : Hid (Tabs (w5.alloc (.cells #[.int .i64 0, .slice p1 32 q1, .slice p2 12 q2] 37)) ∧ Hnd (w5.alloc (.cells #[.int .i64 0, .slice p1 32 q1, .slice p2 12 q2] 37))) := ⟨HT.out.1.keep BL, HT.out.2.keep BL⟩
    clear BL
    have cA0 := (A.cell 0).trans (show _ = some _ from rfl)
    have cA1 := (A.cell 1).trans (show _ = some _ from rfl)
    have cA2 := (A.cell 2).trans (show _ = some _ from rfl)
    have cS0 := (S.cell 0).trans (show _ = some _ from rfl)
    have cS1 := (S.cell 1).trans (show _ = some _ from rfl)
    have cS2 := (S.cell 2).trans (show _ = some _ from rfl)
    have cS3 := (S.cell 3).trans (show _ = some _ from rfl)
    have cS4 := (S.cell 4).trans (show _ = some _ from rfl)
    have cS5 := (S.cell 5).trans (show _ = some _ from rfl)
    have cH0 := (H.cell 0).trans (show _ = some _ from rfl)
    have cH1 := (H.cell 1).trans (show _ = some _ from rfl)
    have cH2 := (H.cell 2).trans (show _ = some _ from rfl)
    have cH3 := (H.cell 3).trans (show _ = some _ from rfl)
    have cH4 := (H.cell 4).trans (show _ = some _ from rfl)
    have cH5 := (H.cell 5).trans (show _ = some _ from rfl)
    have cC0 := (C.cell 0).trans (show _ = some _ from rfl)
    have cC1 := (C.cell 1).trans (show _ = some _ from rfl)
    have cY0 := (Y.cell 0).trans (show _ = some _ from rfl)
    have cY1 := (Y.cell 1).trans (show _ = some _ from rfl)
    have cY2 := (Y.cell 2).trans (show _ = some _ from rfl)
    go_wp2_with fail
    generalize w5.alloc (.cells #[.int .i64 0, .slice p1 32 q1, .slice p2 12 q2] 37) = V at *
    have gA1 := HW.at cA1
    have gS2 := HW.at cS2
    have gS3 := HW.at cS3
    have gS4 := HW.at cS4
    have gH0 := HW.at cH0
    have gH1 := HW.at cH1
    have gH2 := HW.at cH2
    have gH3 := HW.at cH3
    have gH4 := HW.at cH4
    have gH5 := HW.at cH5
    have gC0 := HW.at cC0
    have gC1 := HW.at cC1
    have gY1 := HW.at cY1
    have gY2 := HW.at cY2
    have gv := HW.at cv
    have hne := HW.some V
    clear cA0 cA1 cA2 cS0 cS1 cS2 cS3 cS4 cS5 cH0 cH1 cH2 cH3 cH4 cH5 cC0 cC1 cY0 cY1 cY2
    have HLe : ((RC.length : Int) == (plain.length : Int) + pad + 22) = true := by rw [beq_iff_eq]; exact HRL.out
    have hpd0 := hpd.1
    have hpd1 := hpd.2
    clear KS KH KC KK A S H C Y cv rx HT BA hpd
    simp only [List.append_eq, List.cons_append, List.nil_append]
    refine wp_region_odd_seg 13 79 rfl (by kernel_rfl) (by kernel_rfl) (by kernel_rfl) (by kernel_rfl) ?_
    simp only [List.take_succ_cons, List.take_zero]
    repeat (go_big_quiet_step (fail))
    refine wpQuiet_nil ?_
    refine wpG_call (k := 13) rfl (by kernel_rfl) (by kernel_rfl) (by go_simp) 12 _ #[.slice ph plain.length qh, .slice pp plain.length qp] (fun w => by go_simp) rfl ?_
    rintro _ ⟨sg0, rfl⟩
    refine (lwSame_yes ph pp qh qp plain.length plain.length plain _ rfl rfl (rh.keep sg0.h) (rp.keep sg0.h)).mono ?_
    rintro e wg0 ⟨rfl, hwg⟩
    subst hwg
    refine ⟨_, rfl, ⟨⟨sg0.w, Below.refl _ _⟩, rfl⟩, ?_⟩
    have hbg : Below _ _ sg0.w := sg0.h
    replace gA1 := HW.down gA1 hbg
    replace gS2 := HW.down gS2 hbg
    replace gS3 := HW.down gS3 hbg
    replace gS4 := HW.down gS4 hbg
    replace gH0 := HW.down gH0 hbg
    replace gH1 := HW.down gH1 hbg
    replace gH2 := HW.down gH2 hbg
    replace gH3 := HW.down gH3 hbg
    replace gH4 := HW.down gH4 hbg
    replace gH5 := HW.down gH5 hbg
    replace gC0 := HW.down gC0 hbg
    replace gC1 := HW.down gC1 hbg
    replace gY1 := HW.down gY1 hbg
    replace gY2 := HW.down gY2 hbg
    replace gv := HW.down gv hbg
    replace rh := rh.keep hbg
    replace rp := rp.keep hbg
    replace rt := rt.keep hbg
    replace ru := ru.keep hbg
    replace rc := rc.keep hbg
    replace rb := rb.keep hbg
    replace BW := Below.step BW hbg
    replace hne := HW.some sg0.w
    clear hbg
    generalize sg0.w = wg0 at *
    clear sg0
    refine wpG_next 14 26 52 (by decide) (by kernel_rfl) (by kernel_rfl) (by kernel_rfl) ?_
    simp only [List.drop_succ_cons, List.drop_zero, List.take_succ_cons, List.take_zero]
    go_simp
    repeat (go_big_quiet_step (fail))
    refine wpQuiet_nil ?_
    refine wpG_call (k := 40) rfl (by kernel_rfl) (by kernel_rfl) (by go_simp) 12 _ #[.slice pt x.1.length qt, .slice pu x.1.length qu] (fun w => by go_simp) rfl ?_
    rintro _ ⟨sg1, rfl⟩
    refine (lwSame_yes pt pu qt qu x.1.length x.1.length x.1 _ rfl rfl (rt.keep sg1.h) (ru.keep sg1.h)).mono ?_
    rintro e wg1 ⟨rfl, hwg⟩
    subst hwg
    refine ⟨_, rfl, ⟨⟨sg1.w, Below.refl _ _⟩, rfl⟩, ?_⟩
    have hbg : Below _ _ sg1.w := sg1.h
    replace gA1 := HW.down gA1 hbg
    replace gS2 := HW.down gS2 hbg
    replace gS3 := HW.down gS3 hbg
    replace gS4 := HW.down gS4 hbg
    replace gH0 := HW.down gH0 hbg
    replace gH1 := HW.down gH1 hbg
    replace gH2 := HW.down gH2 hbg
    replace gH3 := HW.down gH3 hbg
    replace gH4 := HW.down gH4 hbg
    replace gH5 := HW.down gH5 hbg
    replace gC0 := HW.down gC0 hbg
    replace gC1 := HW.down gC1 hbg
    replace gY1 := HW.down gY1 hbg
    replace gY2 := HW.down gY2 hbg
    replace gv := HW.down gv hbg
    replace rh := rh.keep hbg
    replace rp := rp.keep hbg
    replace rt := rt.keep hbg
    replace ru := ru.keep hbg
    replace rc := rc.keep hbg
    replace rb := rb.keep hbg
    replace BW := Below.step BW hbg
    replace hne := HW.some sg1.w
    clear hbg
    generalize sg1.w = wg1 at *
    clear sg1
    refine wpG_next 41 4 47 (by decide) (by kernel_rfl) (by kernel_rfl) (by kernel_rfl) ?_
    simp only [List.drop_succ_cons, List.drop_zero, List.take_succ_cons, List.take_zero]
    go_simp
    repeat (go_big_quiet_step (fail))
    refine wpQuiet_nil ?_
    refine wpG_call (k := 45) rfl (by kernel_rfl) (by kernel_rfl) (by go_simp) 13 _ #[.agg #[.slice pu x.1.length qu, .int .i64 (x.2.1 + 1), .int .i64 x.2.2]] (fun w => by go_simp) rfl ?_
    rintro _ ⟨sg2, rfl⟩
    refine (KF.out _ pu qu (ru.keep sg2.h)).mono ?_
    rintro e wg2 ⟨rfl, hbx⟩
    have hbg := Below.step sg2.h hbx
    refine ⟨_, rfl, ⟨⟨wg2, hbx⟩, rfl⟩, ?_⟩
    replace gA1 := HW.down gA1 hbg
    replace gS2 := HW.down gS2 hbg
    replace gS3 := HW.down gS3 hbg
    replace gS4 := HW.down gS4 hbg
    replace gH0 := HW.down gH0 hbg
    replace gH1 := HW.down gH1 hbg
    replace gH2 := HW.down gH2 hbg
    replace gH3 := HW.down gH3 hbg
    replace gH4 := HW.down gH4 hbg
    replace gH5 := HW.down gH5 hbg
    replace gC0 := HW.down gC0 hbg
    replace gC1 := HW.down gC1 hbg
    replace gY1 := HW.down gY1 hbg
    replace gY2 := HW.down gY2 hbg
    replace gv := HW.down gv hbg
    replace rh := rh.keep hbg
    replace rp := rp.keep hbg
    replace rt := rt.keep hbg
    replace ru := ru.keep hbg
    replace rc := rc.keep hbg
    replace rb := rb.keep hbg
    replace BW := Below.step BW hbg
    replace hne := HW.some wg2
    clear hbg hbx
    refine wpG_next 46 31 15 (by decide) (by kernel_rfl) (by kernel_rfl) (by kernel_rfl) ?_
    simp only [List.drop_succ_cons, List.drop_zero, List.take_succ_cons, List.take_zero]
    go_simp
    repeat (go_big_quiet_step (fail))
    refine wpQuiet_nil ?_
    refine wpG_call (k := 77) rfl (by kernel_rfl) (by kernel_rfl) (by go_simp) 12 _ #[.slice pc RC.length qc, .slice pb RC.length qb] (fun w => by go_simp) rfl ?_
    rintro _ ⟨sg3, rfl⟩
    refine (lwSame_yes pc pb qc qb RC.length RC.length RC _ rfl rfl (rc.keep sg3.h) (rb.keep sg3.h)).mono ?_
    rintro e wg3 ⟨rfl, hwg⟩
    subst hwg
    refine ⟨_, rfl, ⟨⟨sg3.w, Below.refl _ _⟩, rfl⟩, ?_⟩
    have hbg : Below _ _ sg3.w := sg3.h
    replace gA1 := HW.down gA1 hbg
    replace gS2 := HW.down gS2 hbg
    replace gS3 := HW.down gS3 hbg
    replace gS4 := HW.down gS4 hbg
    replace gH0 := HW.down gH0 hbg
    replace gH1 := HW.down gH1 hbg
    replace gH2 := HW.down gH2 hbg
    replace gH3 := HW.down gH3 hbg
    replace gH4 := HW.down gH4 hbg
    replace gH5 := HW.down gH5 hbg
    replace gC0 := HW.down gC0 hbg
    replace gC1 := HW.down gC1 hbg
    replace gY1 := HW.down gY1 hbg
    replace gY2 := HW.down gY2 hbg
    replace gv := HW.down gv hbg
    replace rh := rh.keep hbg
    replace rp := rp.keep hbg
    replace rt := rt.keep hbg
    replace ru := ru.keep hbg
    replace rc := rc.keep hbg
    replace rb := rb.keep hbg
    replace BW := Below.step BW hbg
    replace hne := HW.some sg3.w
    clear hbg
    generalize sg3.w = wg3 at *
    clear sg3
    refine wpG_next 78 14 0 (by decide) (by kernel_rfl) (by kernel_rfl) (by kernel_rfl) ?_
    simp only [List.drop_succ_cons, List.drop_zero, List.take_succ_cons, List.take_zero]
    go_simp
    repeat (go_big_quiet_step (fail))
    refine wpQuiet_nil ?_
    refine wpG_end rfl ?_
    rintro _ ⟨sgz, rfl⟩
    go_wp2
    go_ret
    exact ⟨rfl, Below.step BW sgz.h⟩
  · obtain ⟨c, HC⟩ : ∃ c, Hid (c = srC x kind plain pad) := ⟨_, rfl⟩
    have hne0 : (c != 0) = true := by rw [bne_iff_ne, HC.out]; exact hc
    have HD : Hid (srD x kind plain pad = badR c) := by show _ = _; rw [srD, if_neg hc, HC.out]
    have KS : Hid (∀ w, Rd w ps qs x.1 → Rd w pp qp plain → Tabs w → Calls Tryz.prog 7 #[.agg #[.slice ps x.1.length qs, .int .i64 x.2.1, .int .i64 x.2.2], .int .i64 kind, .slice pp plain.length qp, .int .i64 pad] w fun e w' => ∃ pb qb pt qt, e = .returned (.agg #[.int .i64 c, .int .i64 0, .slice pb 0 qb, .slice pt 0 qt, .int .i64 0, .int .i64 0]) ∧ Below w.heap.size w w') := fun w h1 h2 ht => by
      refine (implSr_k x _ kind plain _ pad w (stream_mk h1) ⟨pp, qp, rfl, h2⟩ ht).mono ?_
      rintro e w' ⟨us, fp, rfl, ko, hb⟩
      obtain ⟨pb, qb, pt, qt, rfl, -, -⟩ := record_out (s := zeroS) ko HD.out
      exact ⟨pb, qb, pt, qt, rfl, hb⟩
    have KZ : Hid (∀ w, Rd w ps qs x.1 → Rd w pp qp plain → Calls Tryz.prog 8 #[.agg #[.slice ps x.1.length qs, .int .i64 x.2.1, .int .i64 x.2.2], .int .i64 kind, .slice pp plain.length qp, .int .i64 pad] w fun e w' => ∃ pb qb pt qt, e = .returned (.agg #[.int .i64 c, .int .i64 0, .slice pb 0 qb, .slice pt 0 qt, .int .i64 0, .int .i64 0]) ∧ Below w.heap.size w w') := fun w h1 h2 => by
      refine (specSr_k x _ kind plain _ pad w (stream_mk h1) ⟨pp, qp, rfl, h2⟩).mono ?_
      rintro e w' ⟨us, fp, rfl, ko, hb⟩
      obtain ⟨pb, qb, pt, qt, rfl, -, -⟩ := record_out (s := zeroS) ko HD.out
      exact ⟨pb, qb, pt, qt, rfl, hb⟩
    clear hc HD HC
    have rf := rec_f0
    have cA0 := (A.cell 0).trans (show _ = some _ from rfl)
    have cA1 := (A.cell 1).trans (show _ = some _ from rfl)
    have cA2 := (A.cell 2).trans (show _ = some _ from rfl)
    go_wp2_with fail
    refine (KS.out _ rx rp HT.out.1).mono ?_
    rintro e w2 ⟨pb, qb, pt, qt, rfl, hb2⟩
    clear cA0 cA1 cA2
    have BL := alloc_below w2 (.cells #[.int .i64 c, .int .i64 0, .slice pb 0 qb, .slice pt 0 qt, .int .i64 0, .int .i64 0] 29)
    have S := Arr.new w2 [.int .i64 c, .int .i64 0, .slice pb 0 qb, .slice pt 0 qt, .int .i64 0, .int .i64 0] 29
    have hb3 := Below.step hb2 BL
    replace A := A.stay hb3
    replace rx := rx.keep hb3
    replace rp := rp.keep hb3
    replace BW := Below.step BW hb3
    have cA0 := (A.cell 0).trans (show _ = some _ from rfl)
    have cA1 := (A.cell 1).trans (show _ = some _ from rfl)
    have cA2 := (A.cell 2).trans (show _ = some _ from rfl)
    have cS0 := (S.cell 0).trans (show _ = some _ from rfl)
    clear hb2 BL hb3 HT BA KS
    go_wp2_with fail
    generalize w2.alloc (.cells #[.int .i64 c, .int .i64 0, .slice pb 0 qb, .slice pt 0 qt, .int .i64 0, .int .i64 0] 29) = V at *
    have g0 := HW.at cA0
    have g1 := HW.at cA1
    have g2 := HW.at cA2
    have g3 := HW.at cS0
    have hne := HW.some V
    clear cA0 cA1 cA2 cS0 A S
    refine wp_region_pick [0, 1, 2, 3, 6, 7] 9 3 1 rfl rfl rfl (by kernel_rfl) (by kernel_rfl) (by kernel_rfl) (by kernel_rfl) ?_
    simp only [opsAt, List.getElem?_toArray, List.getElem?_cons_zero, List.getElem?_cons_succ]
    repeat (go_big_quiet_step (fail))
    refine wpQuiet_nil ?_
    refine wpM_only (i := 4) (by kernel_rfl) ?_
    refine mOp_call rfl (by go_simp) 8 _ #[.agg #[.slice ps x.1.length qs, .int .i64 x.2.1, .int .i64 x.2.2], .int .i64 kind, .slice pp plain.length qp, .int .i64 pad] (fun w => by go_simp) rfl ?_
    rintro _ ⟨s1, rfl⟩
    refine (KZ.out _ (rx.keep s1.h) (rp.keep s1.h)).mono ?_
    rintro e w5 ⟨pb2, qb2, pt2, qt2, rfl, hbx⟩
    refine ⟨_, rfl, ⟨⟨_, hbx⟩, rfl⟩, ?_⟩
    have hne5 := HW.some w5
    refine wpM_more [5, 8] 2 0 rfl (by kernel_rfl) (by kernel_rfl) (by kernel_rfl) (by kernel_rfl) ?_
    simp only [opsAt, List.getElem?_toArray, List.getElem?_cons_zero, List.getElem?_cons_succ]
    go_simp
    repeat (go_big_quiet_step (fail))
    refine wpQuiet_nil ?_
    refine wpM_end (by kernel_rfl) rfl (by kernel_rfl) (by decide) ?_
    rintro _ ⟨sz, rfl⟩
    simp only [List.drop_succ_cons, List.drop_zero]
    go_wp2
    go_ret
    exact ⟨rfl, Below.step (Below.step (Below.step BW s1.h) hbx) sz.h⟩
end Go.Proofs.YtdemfbbjdnjolaaGreatDoor

