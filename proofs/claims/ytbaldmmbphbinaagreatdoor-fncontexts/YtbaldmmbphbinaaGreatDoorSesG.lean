/- HearAuth of the program, at every argument (written by tools/ses_g.py). What was there stays. -/
import Derived.Test.YtbaldmmbphbinaaGreatDoorJoint31
import Derived.Test.YtbaldmmbphbinaaGreatDoorAuthY
namespace Go.Proofs.YtbaldmmbphbinaaGreatDoor
open Go.ChangeShapes Go.WideShapes Go.ChangeAt Go.RowKit

theorem caC_ok {x : List UInt8} {r : Int} {certs : List CertD} {signs : List SignD} {now : Int} {data : List UInt8} (h : caC x r certs signs now data = 0) : ∃ a, raR data = some a ∧ okC a.2.1 = true ∧ ctxB a.1 = true ∧ hkC x r certs signs now a = 0 := by
  unfold caC at h
  by_cases h1 : akC x r = 0
  · rw [if_pos h1] at h
    by_cases h2 : ctC certs = 0
    · rw [if_pos h2] at h
      by_cases h3 : sgC signs = 0
      · rw [if_pos h3] at h
        cases h4 : inB now 0 9999
        · rw [h4] at h; cases h
        · rw [h4, if_pos rfl] at h
          cases h5 : raR data with
          | none => rw [h5] at h; cases h
          | some a =>
            rw [h5] at h
            have hb := raR_back h5
            exact ⟨a, rfl, hb.2.1, hb.1, h⟩
      · rw [if_neg h3] at h; exact absurd h h3
    · rw [if_neg h2] at h; exact absurd h h2
  · rw [if_neg h1] at h; exact absurd h h1
theorem caD_one {x : List UInt8} {r : Int} {certs : List CertD} {signs : List SignD} {now : Int} {data : List UInt8} : (caD x r certs signs now data).1 = caC x r certs signs now data := by
  unfold caD
  by_cases h : caC x r certs signs now data = 0
  · rw [if_pos h, h]
  · rw [if_neg h]
/-- What is heard, as far as a code is asked, and the session that comes of it. -/
def HeardR (x : SesD) (certs : List CertD) (signs : List SignD) (now : Int) (data : List UInt8) (w w' : World) (e : Ending) : Prop :=
  ∃ ys, e = .returned (.agg (.int .i64 (haC hdC x certs signs now data) :: ys).toArray) ∧ (haC hdC x certs signs now data = 0 → ∃ a zs, raR data = some a ∧ ys = .int .i64 a.2.1.1 :: zs ∧ SesNew w.heap.size w' (ansN x a) zs) ∧ (haC hdC x certs signs now data ≠ 0 → ys = [.int .i64 0, .slice none 0 0, .int .i64 0, .slice none 0 0, .slice none 0 0, .slice none 0 0]) ∧ Below w.heap.size w w'
set_option maxRecDepth 4000 in
set_option maxHeartbeats 4000000 in
theorem implHa_k (x : SesD) (us : List Value) (certs : List CertD) (signs : List SignD) (now : Int) (data : List UInt8) (pc ps pd : Option Addr) (qc qs qd : Nat) (w : World) (h : sessionC.rep w x us) (hrc : RdL certC w pc qc certs) (hrs : RdL signC w ps qs signs) (hrd : Rd w pd qd data) (hT : Tabs w) :
    Calls Tryz.prog 9 #[.agg us.toArray, .slice pc certs.length qc, .slice ps signs.length qs, .int .i64 now, .slice pd data.length qd] w fun e w' => HeardR x certs signs now data w w' e := by
  suffices H : ∀ Q : Ending → World → Prop, Hid (∀ e w', HeardR x certs signs now data w w' e → Q e w') → Calls Tryz.prog 9 #[.agg us.toArray, .slice pc certs.length qc, .slice ps signs.length qs, .int .i64 now, .slice pd data.length qd] w Q by exact H _ (fun _ _ h => h)
  intro Q HQ
  obtain ⟨p1, q1, p3, q3, p4, q4, p5, q5, rfl, r1, r3, r4, r5⟩ := session_rep h
  have A0 := Arr.new w [.slice p1 x.1.length q1, .int .i64 x.2.1, .slice p3 x.2.2.1.length q3, .slice p4 x.2.2.2.1.length q4, .slice p5 x.2.2.2.2.length q5] 27
  have B0 := alloc_below w (.cells #[.slice p1 x.1.length q1, .int .i64 x.2.1, .slice p3 x.2.2.1.length q3, .slice p4 x.2.2.2.1.length q4, .slice p5 x.2.2.2.2.length q5] 27)
  have R := Arr.new (w.alloc (.cells #[.slice p1 x.1.length q1, .int .i64 x.2.1, .slice p3 x.2.2.1.length q3, .slice p4 x.2.2.2.1.length q4, .slice p5 x.2.2.2.2.length q5] 27)) [.int .i64 0, .int .i64 0, .slice none 0 0, .int .i64 0, .slice none 0 0, .slice none 0 0, .slice none 0 0] 31
  rw [size_alloc] at R
  have A := A0.old _ (.cells #[.int .i64 0, .int .i64 0, .slice none 0 0, .int .i64 0, .slice none 0 0, .slice none 0 0, .slice none 0 0] 31)
  have BW := Below.mk B0 (.cells #[.int .i64 0, .int .i64 0, .slice none 0 0, .int .i64 0, .slice none 0 0, .slice none 0 0, .slice none 0 0] 31)
  have hres : Hid ((Tryz.prog.info? 31).map (·.size) = some 7) := by show _ = _; kernel_rfl
  have hz2 : Hid (((w.alloc (.cells #[.slice p1 x.1.length q1, .int .i64 x.2.1, .slice p3 x.2.2.1.length q3, .slice p4 x.2.2.2.1.length q4, .slice p5 x.2.2.2.2.length q5] 27)).alloc (.cells #[.int .i64 0, .int .i64 0, .slice none 0 0, .int .i64 0, .slice none 0 0, .slice none 0 0, .slice none 0 0] 31)).heap.size = w.heap.size + 2) := by show _ = _; rw [size_alloc, size_alloc]
  have HREP : Hid (∀ V, Below w.heap.size w V → sessionC.rep V x [.slice p1 x.1.length q1, .int .i64 x.2.1, .slice p3 x.2.2.1.length q3, .slice p4 x.2.2.2.1.length q4, .slice p5 x.2.2.2.2.length q5]) := fun V hV => sessionC.keep h hV
  have R5 : Hid (∀ V, Below w.heap.size w V → RdL holdC V p5 q5 x.2.2.2.2) := fun V hV => r5.keep hV
  have HS : Hid (seF hdC x = 0 → Ses x) := seC_iff.1
  have hln5 : x.2.2.2.2.length ≤ q5 := r5.1
  have hqn5 : q5 ≤ 2 ^ 63 - 1 := r5.2.1
  have HRC : Hid (∀ V, Below w.heap.size w V → RdL certC V pc qc certs) := fun V hV => hrc.keep hV
  have HRS : Hid (∀ V, Below w.heap.size w V → RdL signC V ps qs signs) := fun V hV => hrs.keep hV
  have HRD : Hid (∀ V, Below w.heap.size w V → Rd V pd qd data) := fun V hV => hrd.keep hV
  have HR1 : Hid (∀ V, Below w.heap.size w V → Rd V p1 q1 x.1) := fun V hV => r1.keep hV
  have HT : Hid (∀ V, Below w.heap.size w V → Tabs V) := fun V hV => hT.keep hV
  have HE : Hid (haC hdC x certs signs now data = if seF hdC x = 0 then (if caC x.1 (3 - x.2.1) certs signs now data = 0 then hlC x ((raR data).getD zeroA) else caC x.1 (3 - x.2.1) certs signs now data) else seF hdC x) := rfl
  have K1 := sessFault_k x _ _ (sessionC.keep h BW)
  have c0 := (A.cell 0).trans (show _ = some _ from rfl)
  have c1 := (A.cell 1).trans (show _ = some _ from rfl)
  have c2 := (A.cell 2).trans (show _ = some _ from rfl)
  have c3 := (A.cell 3).trans (show _ = some _ from rfl)
  have c4 := (A.cell 4).trans (show _ = some _ from rfl)
  clear h hrc hrs hrd hT r1 r3 r4 r5 A0 B0 R5 hln5 hqn5
  go_enter Tryz.func9, Tryz.ntmps9
  go_wp2_with fail
  generalize hV : (w.alloc (.cells #[.slice p1 x.1.length q1, .int .i64 x.2.1, .slice p3 x.2.2.1.length q3, .slice p4 x.2.2.2.1.length q4, .slice p5 x.2.2.2.2.length q5] 27)).alloc (.cells #[.int .i64 0, .int .i64 0, .slice none 0 0, .int .i64 0, .slice none 0 0, .slice none 0 0, .slice none 0 0] 31) = V at *
  have hzV : Hid (V.heap.size = w.heap.size + 2) := hz2.out
  clear hV hz2
  refine K1.mono ?_
  rintro e w1 ⟨rfl, hb⟩
  replace R := R.stay hb
  replace A := A.stay hb
  replace BW := Below.step BW hb
  have hz1 : Hid (w.heap.size + 2 ≤ w1.heap.size) := by have h := hb.size; rw [hzV.out] at h; exact h
  clear K1 hb c0 c1 c2 c3 c4 hzV
  by_cases h0 : seF hdC x = 0
  case neg =>
    have dk : (seF hdC x != 0) = true := by rw [bne_iff_ne]; exact h0
    have hz : Hid (haC hdC x certs signs now data = seF hdC x) := by show _ = _; rw [HE.out, if_neg h0]
    have hzn : Hid (seF hdC x ≠ 0) := h0
    clear HE HS h0 A
    generalize seF hdC x = k at *
    go_wp2_with (refine wpList_store_row rfl 31 _ _ rfl (w.heap.size + 1) #[.int .i64 k, .int .i64 0, .slice none 0 0, .int .i64 0, .slice none 0 0, .slice none 0 0, .slice none 0 0] rfl rfl 31 #[.int .i64 0, .int .i64 0, .slice none 0 0, .int .i64 0, .slice none 0 0, .slice none 0 0, .slice none 0 0] R hres.out rfl (by simp [Value.oneCell']) ?_)
    exact bodyPost_ret (v := .agg #[.int .i64 k, .int .i64 0, .slice none 0 0, .int .i64 0, .slice none 0 0, .slice none 0 0, .slice none 0 0]) (results_cell_row Tryz.results9 _ _ (w.heap.size + 1) 31 _ (0, 0) _ rfl (R.row [.int .i64 k, .int .i64 0, .slice none 0 0, .int .i64 0, .slice none 0 0, .slice none 0 0, .slice none 0 0]) Tryz.underlying31 rfl hres.out) rfl (HQ.out _ _ ⟨_, by rw [hz.out], fun h0 => absurd (hz.out.symm.trans h0) hzn.out, fun _ => rfl, Below.row BW (Nat.le_succ _) _⟩)
  have hS : Hid (Ses x) := HS.out h0
  have HE2 : Hid (haC hdC x certs signs now data = if caC x.1 (3 - x.2.1) certs signs now data = 0 then hlC x ((raR data).getD zeroA) else caC x.1 (3 - x.2.1) certs signs now data) := by show _ = _; rw [HE.out, if_pos h0]
  rw [h0]
  clear HE HS h0
  have c0 := (A.cell 0).trans (show _ = some _ from rfl)
  have c1 := (A.cell 1).trans (show _ = some _ from rfl)
  go_wp2_with fail
  apply share
  case h =>
    intro JN
    have BB := Below.refl w1.heap.size w1
    have hne := HW.some w1
    have g0 := HW.at (c0)
    have g1 := HW.at (c1)
    refine wp_region_pick [0, 1, 2, 3, 5, 6, 7, 8] 11 3 1 rfl rfl rfl (by kernel_rfl) (by kernel_rfl) (by kernel_rfl) (by kernel_rfl) ?_
    simp only [opsAt, List.getElem?_toArray, List.getElem?_cons_zero, List.getElem?_cons_succ]
    repeat (go_big_quiet_step (fail))
    refine wpQuiet_nil ?_
    clear g0 g1
    refine wpM_two (i := 4) (j := 10) (by kernel_rfl) ?_ ?_
    · skip
      refine mOp_call rfl (by go_simp) 36 _ #[.int .i64 x.2.1] (fun w => by go_simp) rfl ?_
      rintro _ ⟨sg, rfl⟩
      refine (otherRole_b x.2.1 hS.out.role _).mono ?_
      rintro e wg1 ⟨rfl, hbx⟩
      have hbg := Below.step sg.h hbx
      refine ⟨_, rfl, ⟨⟨wg1, hbx⟩, rfl⟩, ?_⟩
      replace BB := Below.step BB hbg
      clear hbg hbx sg
      replace hne := HW.some wg1
      refine wpM_two (i := 9) (j := 10) (by kernel_rfl) ?_ ?_
      · skip
        refine mOp_call rfl (by go_simp) 35 _ #[.slice p1 x.1.length q1, .int .i64 (3 - x.2.1), .slice pc certs.length qc, .slice ps signs.length qs, .int .i64 now, .slice pd data.length qd] (fun w => by go_simp) rfl ?_
        rintro _ ⟨sg, rfl⟩
        refine (implCa_k p1 pc ps pd q1 qc qs qd x.1 (3 - x.2.1) certs signs now data _ (HR1.out _ (BW.trans (((Below.step BB sg.h)).mono BW.size))) (HRC.out _ (BW.trans (((Below.step BB sg.h)).mono BW.size))) (HRS.out _ (BW.trans (((Below.step BB sg.h)).mono BW.size))) (HRD.out _ (BW.trans (((Below.step BB sg.h)).mono BW.size))) (HT.out _ (BW.trans (((Below.step BB sg.h)).mono BW.size)))).mono ?_
        rintro e wg2 ⟨ua, fp, rfl, kA, hbx⟩
        obtain ⟨a1, b1, a4, b4, rfl, -, -⟩ := authResult_rep (authResultC.toRep kA)
        have hbg := Below.step sg.h hbx
        refine ⟨_, rfl, ⟨⟨wg2, hbx⟩, rfl⟩, ?_⟩
        have KA := (authResultC.low kA ((Below.step BB sg.h)).size : authResultC.own _ w1.heap.size (caD x.1 (3 - x.2.1) certs signs now data) [.int .i64 (caD x.1 (3 - x.2.1) certs signs now data).1, .slice a1 (caD x.1 (3 - x.2.1) certs signs now data).2.1.length b1, .int .i64 (caD x.1 (3 - x.2.1) certs signs now data).2.2.1.1, .int .i64 (caD x.1 (3 - x.2.1) certs signs now data).2.2.1.2.1, .int .i64 (caD x.1 (3 - x.2.1) certs signs now data).2.2.1.2.2, .int .i64 (caD x.1 (3 - x.2.1) certs signs now data).2.2.2.1, .slice a4 (caD x.1 (3 - x.2.1) certs signs now data).2.2.2.2.length b4] fp)
        replace BB := Below.step BB hbg
        clear hbg hbx sg kA
        replace hne := HW.some wg2
        refine wpM_only (i := 10) (by kernel_rfl) ?_
        refine mOp_make rfl (by go_simp) ?_
        rintro _ ⟨sg, rfl⟩
        refine ⟨.pointer (some ⟨sg.w.heap.size, 0, none⟩), sg.w.alloc (.cells #[.int .i64 0, .slice none 0 0, .int .i64 0, .int .i64 0, .int .i64 0, .int .i64 0, .slice none 0 0] 72), by go_simp, ⟨⟨_, alloc_below _ _⟩, rfl⟩, ?_⟩
        have hbg := Below.step sg.h (alloc_below sg.w (.cells #[.int .i64 0, .slice none 0 0, .int .i64 0, .int .i64 0, .int .i64 0, .int .i64 0, .slice none 0 0] 72))
        have AZ := Arr.new sg.w [.int .i64 0, .slice none 0 0, .int .i64 0, .int .i64 0, .int .i64 0, .int .i64 0, .slice none 0 0] 72
        have GZ := (show Hid (w1.heap.size ≤ sg.w.heap.size) from (Below.step BB sg.h).size)
        have NE := (show ∀ k, k ∈ fp → k ≠ sg.w.heap.size from fun k h e => by have h1 := (authResultC.ins KA k h).2; have h2 := sg.h.size; omega)
        replace KA := authResultC.stay KA hbg
        replace BB := Below.step BB hbg
        clear hbg
        replace hne := HW.some (sg.w.alloc (.cells #[.int .i64 0, .slice none 0 0, .int .i64 0, .int .i64 0, .int .i64 0, .int .i64 0, .slice none 0 0] 72))
        generalize hW : (sg.w.alloc (.cells #[.int .i64 0, .slice none 0 0, .int .i64 0, .int .i64 0, .int .i64 0, .int .i64 0, .slice none 0 0] 72)) = wg3 at *
        clear hW
        generalize sg.w.heap.size = gz at *
        clear sg
        refine wpM_end (by kernel_rfl) rfl (by kernel_rfl) (by decide) ?_
        rintro _ ⟨sz, rfl⟩
        simp only [List.drop_succ_cons, List.drop_zero]
        go_simp
        replace KA := authResultC.stay KA sz.h
        replace AZ := AZ.stay sz.h
        replace BB := Below.step BB sz.h
        clear hne
        generalize sz.w = W at *
        clear sz
        revert NE
        revert GZ
        revert AZ
        revert KA
        revert BB
        revert gz
        revert b4
        revert a4
        revert b1
        revert a1
        revert fp
        revert W
        exact JN.out
      · skip
        refine mOp_make rfl (by go_simp) ?_
        rintro _ ⟨sg, rfl⟩
        refine ⟨.pointer (some ⟨sg.w.heap.size, 0, none⟩), sg.w.alloc (.cells #[.int .i64 0, .slice none 0 0, .int .i64 0, .int .i64 0, .int .i64 0, .int .i64 0, .slice none 0 0] 72), by go_simp, ⟨⟨_, alloc_below _ _⟩, rfl⟩, ?_⟩
        have hbg := Below.step sg.h (alloc_below sg.w (.cells #[.int .i64 0, .slice none 0 0, .int .i64 0, .int .i64 0, .int .i64 0, .int .i64 0, .slice none 0 0] 72))
        have AZ := Arr.new sg.w [.int .i64 0, .slice none 0 0, .int .i64 0, .int .i64 0, .int .i64 0, .int .i64 0, .slice none 0 0] 72
        have GZ := (show Hid (w1.heap.size ≤ sg.w.heap.size) from (Below.step BB sg.h).size)
        replace BB := Below.step BB hbg
        clear hbg
        replace hne := HW.some (sg.w.alloc (.cells #[.int .i64 0, .slice none 0 0, .int .i64 0, .int .i64 0, .int .i64 0, .int .i64 0, .slice none 0 0] 72))
        generalize hW : (sg.w.alloc (.cells #[.int .i64 0, .slice none 0 0, .int .i64 0, .int .i64 0, .int .i64 0, .int .i64 0, .slice none 0 0] 72)) = wg4 at *
        clear hW
        generalize sg.w.heap.size = gz at *
        clear sg
        refine wpM_only (i := 9) (by kernel_rfl) ?_
        refine mOp_call rfl (by go_simp) 35 _ #[.slice p1 x.1.length q1, .int .i64 (3 - x.2.1), .slice pc certs.length qc, .slice ps signs.length qs, .int .i64 now, .slice pd data.length qd] (fun w => by go_simp) rfl ?_
        rintro _ ⟨sg, rfl⟩
        refine (implCa_k p1 pc ps pd q1 qc qs qd x.1 (3 - x.2.1) certs signs now data _ (HR1.out _ (BW.trans (((Below.step BB sg.h)).mono BW.size))) (HRC.out _ (BW.trans (((Below.step BB sg.h)).mono BW.size))) (HRS.out _ (BW.trans (((Below.step BB sg.h)).mono BW.size))) (HRD.out _ (BW.trans (((Below.step BB sg.h)).mono BW.size))) (HT.out _ (BW.trans (((Below.step BB sg.h)).mono BW.size)))).mono ?_
        rintro e wg5 ⟨ua, fp, rfl, kA, hbx⟩
        obtain ⟨a1, b1, a4, b4, rfl, -, -⟩ := authResult_rep (authResultC.toRep kA)
        have hbg := Below.step sg.h hbx
        refine ⟨_, rfl, ⟨⟨wg5, hbx⟩, rfl⟩, ?_⟩
        have KA := (authResultC.low kA ((Below.step BB sg.h)).size : authResultC.own _ w1.heap.size (caD x.1 (3 - x.2.1) certs signs now data) [.int .i64 (caD x.1 (3 - x.2.1) certs signs now data).1, .slice a1 (caD x.1 (3 - x.2.1) certs signs now data).2.1.length b1, .int .i64 (caD x.1 (3 - x.2.1) certs signs now data).2.2.1.1, .int .i64 (caD x.1 (3 - x.2.1) certs signs now data).2.2.1.2.1, .int .i64 (caD x.1 (3 - x.2.1) certs signs now data).2.2.1.2.2, .int .i64 (caD x.1 (3 - x.2.1) certs signs now data).2.2.2.1, .slice a4 (caD x.1 (3 - x.2.1) certs signs now data).2.2.2.2.length b4] fp)
        have NE := (show ∀ k, k ∈ fp → k ≠ gz from fun k h e => by have h1 := (authResultC.ins kA k h).1; have h2 := AZ.lt; have h3 := sg.h.size; omega)
        replace AZ := AZ.stay hbg
        replace BB := Below.step BB hbg
        clear hbg hbx sg kA
        replace hne := HW.some wg5
        refine wpM_end (by kernel_rfl) rfl (by kernel_rfl) (by decide) ?_
        rintro _ ⟨sz, rfl⟩
        simp only [List.drop_succ_cons, List.drop_zero]
        go_simp
        replace AZ := AZ.stay sz.h
        replace KA := authResultC.stay KA sz.h
        replace BB := Below.step BB sz.h
        clear hne
        generalize sz.w = W at *
        clear sz
        revert NE
        revert GZ
        revert AZ
        revert KA
        revert BB
        revert gz
        revert b4
        revert a4
        revert b1
        revert a1
        revert fp
        revert W
        exact JN.out
    · skip
      refine mOp_make rfl (by go_simp) ?_
      rintro _ ⟨sg, rfl⟩
      refine ⟨.pointer (some ⟨sg.w.heap.size, 0, none⟩), sg.w.alloc (.cells #[.int .i64 0, .slice none 0 0, .int .i64 0, .int .i64 0, .int .i64 0, .int .i64 0, .slice none 0 0] 72), by go_simp, ⟨⟨_, alloc_below _ _⟩, rfl⟩, ?_⟩
      have hbg := Below.step sg.h (alloc_below sg.w (.cells #[.int .i64 0, .slice none 0 0, .int .i64 0, .int .i64 0, .int .i64 0, .int .i64 0, .slice none 0 0] 72))
      have AZ := Arr.new sg.w [.int .i64 0, .slice none 0 0, .int .i64 0, .int .i64 0, .int .i64 0, .int .i64 0, .slice none 0 0] 72
      have GZ := (show Hid (w1.heap.size ≤ sg.w.heap.size) from (Below.step BB sg.h).size)
      replace BB := Below.step BB hbg
      clear hbg
      replace hne := HW.some (sg.w.alloc (.cells #[.int .i64 0, .slice none 0 0, .int .i64 0, .int .i64 0, .int .i64 0, .int .i64 0, .slice none 0 0] 72))
      generalize hW : (sg.w.alloc (.cells #[.int .i64 0, .slice none 0 0, .int .i64 0, .int .i64 0, .int .i64 0, .int .i64 0, .slice none 0 0] 72)) = wg6 at *
      clear hW
      generalize sg.w.heap.size = gz at *
      clear sg
      refine wpM_only (i := 4) (by kernel_rfl) ?_
      refine mOp_call rfl (by go_simp) 36 _ #[.int .i64 x.2.1] (fun w => by go_simp) rfl ?_
      rintro _ ⟨sg, rfl⟩
      refine (otherRole_b x.2.1 hS.out.role _).mono ?_
      rintro e wg7 ⟨rfl, hbx⟩
      have hbg := Below.step sg.h hbx
      refine ⟨_, rfl, ⟨⟨wg7, hbx⟩, rfl⟩, ?_⟩
      replace AZ := AZ.stay hbg
      replace BB := Below.step BB hbg
      clear hbg hbx sg
      replace hne := HW.some wg7
      refine wpM_only (i := 9) (by kernel_rfl) ?_
      refine mOp_call rfl (by go_simp) 35 _ #[.slice p1 x.1.length q1, .int .i64 (3 - x.2.1), .slice pc certs.length qc, .slice ps signs.length qs, .int .i64 now, .slice pd data.length qd] (fun w => by go_simp) rfl ?_
      rintro _ ⟨sg, rfl⟩
      refine (implCa_k p1 pc ps pd q1 qc qs qd x.1 (3 - x.2.1) certs signs now data _ (HR1.out _ (BW.trans (((Below.step BB sg.h)).mono BW.size))) (HRC.out _ (BW.trans (((Below.step BB sg.h)).mono BW.size))) (HRS.out _ (BW.trans (((Below.step BB sg.h)).mono BW.size))) (HRD.out _ (BW.trans (((Below.step BB sg.h)).mono BW.size))) (HT.out _ (BW.trans (((Below.step BB sg.h)).mono BW.size)))).mono ?_
      rintro e wg8 ⟨ua, fp, rfl, kA, hbx⟩
      obtain ⟨a1, b1, a4, b4, rfl, -, -⟩ := authResult_rep (authResultC.toRep kA)
      have hbg := Below.step sg.h hbx
      refine ⟨_, rfl, ⟨⟨wg8, hbx⟩, rfl⟩, ?_⟩
      have KA := (authResultC.low kA ((Below.step BB sg.h)).size : authResultC.own _ w1.heap.size (caD x.1 (3 - x.2.1) certs signs now data) [.int .i64 (caD x.1 (3 - x.2.1) certs signs now data).1, .slice a1 (caD x.1 (3 - x.2.1) certs signs now data).2.1.length b1, .int .i64 (caD x.1 (3 - x.2.1) certs signs now data).2.2.1.1, .int .i64 (caD x.1 (3 - x.2.1) certs signs now data).2.2.1.2.1, .int .i64 (caD x.1 (3 - x.2.1) certs signs now data).2.2.1.2.2, .int .i64 (caD x.1 (3 - x.2.1) certs signs now data).2.2.2.1, .slice a4 (caD x.1 (3 - x.2.1) certs signs now data).2.2.2.2.length b4] fp)
      have NE := (show ∀ k, k ∈ fp → k ≠ gz from fun k h e => by have h1 := (authResultC.ins kA k h).1; have h2 := AZ.lt; have h3 := sg.h.size; omega)
      replace AZ := AZ.stay hbg
      replace BB := Below.step BB hbg
      clear hbg hbx sg kA
      replace hne := HW.some wg8
      refine wpM_end (by kernel_rfl) rfl (by kernel_rfl) (by decide) ?_
      rintro _ ⟨sz, rfl⟩
      simp only [List.drop_succ_cons, List.drop_zero]
      go_simp
      replace AZ := AZ.stay sz.h
      replace KA := authResultC.stay KA sz.h
      replace BB := Below.step BB sz.h
      clear hne
      generalize sz.w = W at *
      clear sz
      revert NE
      revert GZ
      revert AZ
      revert KA
      revert BB
      revert gz
      revert b4
      revert a4
      revert b1
      revert a1
      revert fp
      revert W
      exact JN.out
  intro W fp a1 b1 a4 b4 gz BB KA AZ GZ NE
  have hresU : Hid ((Tryz.prog.info? 72).map (·.size) = some 7) := by show _ = _; kernel_rfl
  refine wpList_store_row rfl 72 _ _ rfl gz #[.int .i64 (caD x.1 (3 - x.2.1) certs signs now data).1, .slice a1 (caD x.1 (3 - x.2.1) certs signs now data).2.1.length b1, .int .i64 (caD x.1 (3 - x.2.1) certs signs now data).2.2.1.1, .int .i64 (caD x.1 (3 - x.2.1) certs signs now data).2.2.1.2.1, .int .i64 (caD x.1 (3 - x.2.1) certs signs now data).2.2.1.2.2, .int .i64 (caD x.1 (3 - x.2.1) certs signs now data).2.2.2.1, .slice a4 (caD x.1 (3 - x.2.1) certs signs now data).2.2.2.2.length b4] rfl rfl 72 #[.int .i64 0, .slice none 0 0, .int .i64 0, .int .i64 0, .int .i64 0, .int .i64 0, .slice none 0 0] AZ hresU.out rfl (by simp [Value.oneCell']) ?_
  have AU := AZ.row [.int .i64 (caD x.1 (3 - x.2.1) certs signs now data).1, .slice a1 (caD x.1 (3 - x.2.1) certs signs now data).2.1.length b1, .int .i64 (caD x.1 (3 - x.2.1) certs signs now data).2.2.1.1, .int .i64 (caD x.1 (3 - x.2.1) certs signs now data).2.2.1.2.1, .int .i64 (caD x.1 (3 - x.2.1) certs signs now data).2.2.1.2.2, .int .i64 (caD x.1 (3 - x.2.1) certs signs now data).2.2.2.1, .slice a4 (caD x.1 (3 - x.2.1) certs signs now data).2.2.2.2.length b4]
  have BX := Below.row BB GZ.out #[.int .i64 (caD x.1 (3 - x.2.1) certs signs now data).1, .slice a1 (caD x.1 (3 - x.2.1) certs signs now data).2.1.length b1, .int .i64 (caD x.1 (3 - x.2.1) certs signs now data).2.2.1.1, .int .i64 (caD x.1 (3 - x.2.1) certs signs now data).2.2.1.2.1, .int .i64 (caD x.1 (3 - x.2.1) certs signs now data).2.2.1.2.2, .int .i64 (caD x.1 (3 - x.2.1) certs signs now data).2.2.2.1, .slice a4 (caD x.1 (3 - x.2.1) certs signs now data).2.2.2.2.length b4]
  have KX : authResultC.own (W.setRow gz #[.int .i64 (caD x.1 (3 - x.2.1) certs signs now data).1, .slice a1 (caD x.1 (3 - x.2.1) certs signs now data).2.1.length b1, .int .i64 (caD x.1 (3 - x.2.1) certs signs now data).2.2.1.1, .int .i64 (caD x.1 (3 - x.2.1) certs signs now data).2.2.1.2.1, .int .i64 (caD x.1 (3 - x.2.1) certs signs now data).2.2.1.2.2, .int .i64 (caD x.1 (3 - x.2.1) certs signs now data).2.2.2.1, .slice a4 (caD x.1 (3 - x.2.1) certs signs now data).2.2.2.2.length b4]) w1.heap.size (caD x.1 (3 - x.2.1) certs signs now data) [.int .i64 (caD x.1 (3 - x.2.1) certs signs now data).1, .slice a1 (caD x.1 (3 - x.2.1) certs signs now data).2.1.length b1, .int .i64 (caD x.1 (3 - x.2.1) certs signs now data).2.2.1.1, .int .i64 (caD x.1 (3 - x.2.1) certs signs now data).2.2.1.2.1, .int .i64 (caD x.1 (3 - x.2.1) certs signs now data).2.2.1.2.2, .int .i64 (caD x.1 (3 - x.2.1) certs signs now data).2.2.2.1, .slice a4 (caD x.1 (3 - x.2.1) certs signs now data).2.2.2.2.length b4] fp := authResultC.fr KA fun k hk => setRow_other W gz k _ (NE k hk)
  obtain ⟨y1, z1, y4, z4, es, ru1, ru4⟩ := authResult_rep (authResultC.toRep KX)
  simp only [List.cons.injEq, Value.slice.injEq, and_true, true_and] at es
  obtain ⟨⟨rfl, rfl⟩, rfl, rfl⟩ := es
  have R2 := R.stay BX
  have A2 := A.stay BX
  have BW2 := Below.step BW BX
  clear AZ BB KA R A BW c0 c1 KX NE
  generalize W.setRow gz #[.int .i64 (caD x.1 (3 - x.2.1) certs signs now data).1, .slice a1 (caD x.1 (3 - x.2.1) certs signs now data).2.1.length b1, .int .i64 (caD x.1 (3 - x.2.1) certs signs now data).2.2.1.1, .int .i64 (caD x.1 (3 - x.2.1) certs signs now data).2.2.1.2.1, .int .i64 (caD x.1 (3 - x.2.1) certs signs now data).2.2.1.2.2, .int .i64 (caD x.1 (3 - x.2.1) certs signs now data).2.2.2.1, .slice a4 (caD x.1 (3 - x.2.1) certs signs now data).2.2.2.2.length b4] = W2 at *
  clear W
  have e0 := (AU.cell 0).trans (show _ = some _ from rfl)
  have hca : (caD x.1 (3 - x.2.1) certs signs now data).1 = caC x.1 (3 - x.2.1) certs signs now data := caD_one
  by_cases hc : caC x.1 (3 - x.2.1) certs signs now data = 0
  case neg =>
    have hz : Hid (haC hdC x certs signs now data = caC x.1 (3 - x.2.1) certs signs now data) := by show _ = _; rw [HE2.out, if_neg hc]
    rw [hca] at e0
    have hzn : Hid (caC x.1 (3 - x.2.1) certs signs now data ≠ 0) := hc
    have dk : (caC x.1 (3 - x.2.1) certs signs now data != 0) = true := by rw [bne_iff_ne]; exact hc
    have R := R2
    have BW := BW2
    clear HE2 hc hca AU A2 ru1 ru4 R2 BW2 BX
    generalize caC x.1 (3 - x.2.1) certs signs now data = k at *
    go_wp2_with (refine wpList_store_row rfl 31 _ _ rfl (w.heap.size + 1) #[.int .i64 k, .int .i64 0, .slice none 0 0, .int .i64 0, .slice none 0 0, .slice none 0 0, .slice none 0 0] rfl rfl 31 #[.int .i64 0, .int .i64 0, .slice none 0 0, .int .i64 0, .slice none 0 0, .slice none 0 0, .slice none 0 0] R hres.out rfl (by simp [Value.oneCell']) ?_)
    exact bodyPost_ret (v := .agg #[.int .i64 k, .int .i64 0, .slice none 0 0, .int .i64 0, .slice none 0 0, .slice none 0 0, .slice none 0 0]) (results_cell_row Tryz.results9 _ _ (w.heap.size + 1) 31 _ (0, 0) _ rfl (R.row [.int .i64 k, .int .i64 0, .slice none 0 0, .int .i64 0, .slice none 0 0, .slice none 0 0, .slice none 0 0]) Tryz.underlying31 rfl hres.out) rfl (HQ.out _ _ ⟨_, by rw [hz.out], fun h0 => absurd (hz.out.symm.trans h0) hzn.out, fun _ => rfl, Below.row BW (Nat.le_succ _) _⟩)
  obtain ⟨a, hra, hok, hct, hkc⟩ := caC_ok hc
  have hCA : (caD x.1 (3 - x.2.1) certs signs now data) = (0, a) := by unfold caD; rw [if_pos hc, hra]; rfl
  have HE3 : Hid (haC hdC x certs signs now data = hlC x a) := by show _ = _; rw [HE2.out, if_pos hc, hra]; rfl
  rw [hCA] at AU ru1 ru4 e0
  simp only at AU ru1 ru4 e0
  have hpa := okH_parts (okC_H hok)
  have hid : (Lit.int .i64 a.2.1.1).wf = true := wf64 (by have := hpa.1; simp only at this; omega) (by have := hpa.2.1; simp only at this; omega)
  have KF := hearFault_c x _ a _ W2 (HREP.out _ BW2) (auth_mk ru1 ru4) hS.out hid
  have HOK : Hid (okC a.2.1 = true) := hok
  have HCT : Hid (ctxB a.1 = true) := hct
  have HRA : Hid (raR data = some a) := hra
  clear HE2 hc hca hCA hra hok hct hkc hpa hid
  have c0 := (A2.cell 0).trans (show _ = some _ from rfl)
  have c1 := (A2.cell 1).trans (show _ = some _ from rfl)
  have c2 := (A2.cell 2).trans (show _ = some _ from rfl)
  have c3 := (A2.cell 3).trans (show _ = some _ from rfl)
  have c4 := (A2.cell 4).trans (show _ = some _ from rfl)
  have u1 := (AU.cell 1).trans (show _ = some _ from rfl)
  have u2 := (AU.cell 2).trans (show _ = some _ from rfl)
  have u3 := (AU.cell 3).trans (show _ = some _ from rfl)
  have u4 := (AU.cell 4).trans (show _ = some _ from rfl)
  have u5 := (AU.cell 5).trans (show _ = some _ from rfl)
  have u6 := (AU.cell 6).trans (show _ = some _ from rfl)
  go_wp2_with fail
  refine KF.mono ?_
  rintro e w3 ⟨rfl, hb⟩
  replace R2 := R2.stay hb
  replace A2 := A2.stay hb
  replace AU := AU.stay hb
  replace ru1 := ru1.keep hb
  replace ru4 := ru4.keep hb
  replace BW2 := Below.step BW2 hb
  clear KF hb c0 c1 c2 c3 c4 u1 u2 u3 u4 u5 u6 e0 BX
  by_cases hl : hlC x a = 0
  case neg =>
    have hz : Hid (haC hdC x certs signs now data = hlC x a) := HE3
    have hzn : Hid (hlC x a ≠ 0) := hl
    have dk : (hlC x a != 0) = true := by rw [bne_iff_ne]; exact hl
    have R := R2
    have BW := BW2
    clear HE3 hl AU A2 ru1 ru4 R2 BW2
    generalize hlC x a = k at *
    go_wp2_with (refine wpList_store_row rfl 31 _ _ rfl (w.heap.size + 1) #[.int .i64 k, .int .i64 0, .slice none 0 0, .int .i64 0, .slice none 0 0, .slice none 0 0, .slice none 0 0] rfl rfl 31 #[.int .i64 0, .int .i64 0, .slice none 0 0, .int .i64 0, .slice none 0 0, .slice none 0 0, .slice none 0 0] R hres.out rfl (by simp [Value.oneCell']) ?_)
    exact bodyPost_ret (v := .agg #[.int .i64 k, .int .i64 0, .slice none 0 0, .int .i64 0, .slice none 0 0, .slice none 0 0, .slice none 0 0]) (results_cell_row Tryz.results9 _ _ (w.heap.size + 1) 31 _ (0, 0) _ rfl (R.row [.int .i64 k, .int .i64 0, .slice none 0 0, .int .i64 0, .slice none 0 0, .slice none 0 0, .slice none 0 0]) Tryz.underlying31 rfl hres.out) rfl (HQ.out _ _ ⟨_, by rw [hz.out], fun h0 => absurd (hz.out.symm.trans h0) hzn.out, fun _ => rfl, Below.row BW (Nat.le_succ _) _⟩)
  have hz : Hid (haC hdC x certs signs now data = 0) := by show _ = _; rw [HE3.out, hl]
  rw [hl]
  clear HE3 hl
  have c0 := (A2.cell 0).trans (show _ = some _ from rfl)
  have c1 := (A2.cell 1).trans (show _ = some _ from rfl)
  have c2 := (A2.cell 2).trans (show _ = some _ from rfl)
  have c3 := (A2.cell 3).trans (show _ = some _ from rfl)
  have c4 := (A2.cell 4).trans (show _ = some _ from rfl)
  have u1 := (AU.cell 1).trans (show _ = some _ from rfl)
  have u2 := (AU.cell 2).trans (show _ = some _ from rfl)
  have u3 := (AU.cell 3).trans (show _ = some _ from rfl)
  have u4 := (AU.cell 4).trans (show _ = some _ from rfl)
  have u5 := (AU.cell 5).trans (show _ = some _ from rfl)
  have u6 := (AU.cell 6).trans (show _ = some _ from rfl)
  go_wp2_with fail
  apply share
  case h =>
    intro JN
    have BB := Below.refl w3.heap.size w3
    have hne := HW.some w3
    have g0 := HW.at (c0)
    have g1 := HW.at (c1)
    have g2 := HW.at (c2)
    have g3 := HW.at (c3)
    have g4 := HW.at (c4)
    have v1 := HW.at (u1)
    have v2 := HW.at (u2)
    have v3 := HW.at (u3)
    have v4 := HW.at (u4)
    have v5 := HW.at (u5)
    have v6 := HW.at (u6)
    refine wp_region_pick [0, 1, 2, 3, 4, 5, 6] 9 2 1 rfl rfl rfl (by kernel_rfl) (by kernel_rfl) (by kernel_rfl) (by kernel_rfl) ?_
    simp only [opsAt, List.getElem?_toArray, List.getElem?_cons_zero, List.getElem?_cons_succ]
    repeat (go_big_quiet_step (fail))
    refine wpQuiet_nil ?_
    clear g0 g1 g2 g3 g4 v1 v2 v3 v4 v5 v6
    refine wpM_only (i := 7) (by kernel_rfl) ?_
    refine mOp_call rfl (by go_simp) 38 _ #[.agg #[.slice p1 x.1.length q1, .int .i64 x.2.1, .slice p3 x.2.2.1.length q3, .slice p4 x.2.2.2.1.length q4, .slice p5 x.2.2.2.2.length q5], .agg #[.slice a1 a.1.length b1, .int .i64 a.2.1.1, .int .i64 a.2.1.2.1, .int .i64 a.2.1.2.2, .int .i64 a.2.2.1, .slice a4 a.2.2.2.length b4]] (fun w => by go_simp) rfl ?_
    rintro _ ⟨sg, rfl⟩
    refine (answered_c x _ a _ _ (HREP.out _ (BW2.trans (((Below.step BB sg.h)).mono BW2.size))) (auth_mk (ru1.keep ((Below.step BB sg.h))) (ru4.keep ((Below.step BB sg.h)))) hS.out HOK.out HCT.out).mono ?_
    rintro e wg1 ⟨ys, rfl, hN, hbx⟩
    obtain ⟨s1, t1, s3, t3, s4, t4, s5, t5, rfl, -, -, -, -⟩ := session_rep hN.rep
    have hbg := Below.step sg.h hbx
    refine ⟨_, rfl, ⟨⟨wg1, hbx⟩, rfl⟩, ?_⟩
    have HN := (hN.low ((Below.step BB sg.h)).size : SesNew w3.heap.size _ (ansN x a) [.slice s1 (ansN x a).1.length t1, .int .i64 (ansN x a).2.1, .slice s3 (ansN x a).2.2.1.length t3, .slice s4 (ansN x a).2.2.2.1.length t4, .slice s5 (ansN x a).2.2.2.2.length t5])
    replace BB := Below.step BB hbg
    clear hbg hbx sg hN
    replace hne := HW.some wg1
    refine wpM_more [8] 1 0 rfl (by kernel_rfl) (by kernel_rfl) (by kernel_rfl) (by kernel_rfl) ?_
    simp only [opsAt, List.getElem?_toArray, List.getElem?_cons_zero, List.getElem?_cons_succ]
    go_simp
    repeat (go_big_quiet_step (fail))
    refine wpQuiet_nil ?_
    refine wpM_end (by kernel_rfl) rfl (by kernel_rfl) (by decide) ?_
    rintro _ ⟨sz, rfl⟩
    simp only [List.drop_succ_cons, List.drop_zero]
    go_simp
    replace HN := HN.stay sz.h
    replace BB := Below.step BB sz.h
    clear hne
    generalize sz.w = W at *
    clear sz
    revert HN
    revert BB
    revert t5
    revert s5
    revert t4
    revert s4
    revert t3
    revert s3
    revert t1
    revert s1
    revert W
    exact JN.out
  intro W s1 t1 s3 t3 s4 t4 s5 t5 BB HN
  have R := R2.stay BB
  have BW := Below.step BW2 BB
  have hw3 : Hid (w.heap.size + 1 < w3.heap.size) := R2.lt
  clear R2 BW2 A2 AU ru1 ru4 BB c0 c1 c2 c3 c4 u1 u2 u3 u4 u5 u6
  go_wp2_with (refine wpList_store_row rfl 31 _ _ rfl (w.heap.size + 1) #[.int .i64 0, .int .i64 a.2.1.1, .slice s1 (ansN x a).1.length t1, .int .i64 (ansN x a).2.1, .slice s3 (ansN x a).2.2.1.length t3, .slice s4 (ansN x a).2.2.2.1.length t4, .slice s5 (ansN x a).2.2.2.2.length t5] rfl rfl 31 #[.int .i64 0, .int .i64 0, .slice none 0 0, .int .i64 0, .slice none 0 0, .slice none 0 0, .slice none 0 0] R hres.out rfl (by simp [Value.oneCell']) ?_)
  exact bodyPost_ret (v := .agg #[.int .i64 0, .int .i64 a.2.1.1, .slice s1 (ansN x a).1.length t1, .int .i64 (ansN x a).2.1, .slice s3 (ansN x a).2.2.1.length t3, .slice s4 (ansN x a).2.2.2.1.length t4, .slice s5 (ansN x a).2.2.2.2.length t5]) (results_cell_row Tryz.results9 _ _ (w.heap.size + 1) 31 _ (0, 0) _ rfl (R.row [.int .i64 0, .int .i64 a.2.1.1, .slice s1 (ansN x a).1.length t1, .int .i64 (ansN x a).2.1, .slice s3 (ansN x a).2.2.1.length t3, .slice s4 (ansN x a).2.2.2.1.length t4, .slice s5 (ansN x a).2.2.2.2.length t5]) Tryz.underlying31 rfl hres.out) rfl (HQ.out _ _ ⟨_, by rw [hz.out], fun _ => ⟨a, _, HRA.out, rfl, (HN.row hw3.out _).low (by have := hw3.out; omega)⟩, fun h0 => absurd hz.out h0, Below.row BW (Nat.le_succ _) _⟩)
end Go.Proofs.YtbaldmmbphbinaaGreatDoor

