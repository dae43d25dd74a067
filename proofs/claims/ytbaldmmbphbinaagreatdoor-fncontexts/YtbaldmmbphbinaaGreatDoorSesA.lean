/- askFault and AskContext of the program, at every argument (written by tools/ses_a.py). What was there stays. -/
import Derived.Test.YtbaldmmbphbinaaGreatDoorJoint28
import Derived.Test.YtbaldmmbphbinaaGreatDoorJoint7
namespace Go.Proofs.YtbaldmmbphbinaaGreatDoor
open Go.ChangeShapes Go.WideShapes Go.ChangeAt Go.RowKit

/-- A session that owns its memory, by its pieces. -/
theorem ses_own_inv {w : World} {B : Nat} {x : SesD} {vs : List Value} {fp : List Nat} (h : sessionC.own w B x vs fp) : ∃ u a b c fa fb fc, vs = [u, .int .i64 x.2.1, a, b, c] ∧ Own w B u x.1 ∧ blksC.own w B x.2.2.1 [a] fa ∧ blksC.own w B x.2.2.2.1 [b] fb ∧ holdsC.own w B x.2.2.2.2 [c] fc ∧ (u.ownBlock.toList ++ (fa ++ (fb ++ fc))).Nodup ∧ fp = u.ownBlock.toList ++ (fa ++ (fb ++ fc)) := by
  obtain ⟨us0, ts0, f0, g0, rfl, rfl, hn, ⟨u, rfl, hu, rfl⟩, us1, ts1, f1, g1, rfl, rfl, -, ⟨rfl, rfl⟩, us2, ts2, f2, g2, rfl, rfl, -, ha, us3, ts3, f3, g3, rfl, rfl, -, hb, hc⟩ := h
  obtain ⟨a, xa, ga, rfl, oa, rfl⟩ := ha
  obtain ⟨b, xb, gb, rfl, ob, rfl⟩ := hb
  obtain ⟨c, xc, gc, rfl, oc, rfl⟩ := hc
  exact ⟨u, a, b, c, _, _, _, rfl, hu, ⟨a, xa, ga, rfl, oa, rfl⟩, ⟨b, xb, gb, rfl, ob, rfl⟩, ⟨c, xc, gc, rfl, oc, rfl⟩, hn, rfl⟩
theorem untilsOf_b (l : List HeldD) (p : Option Addr) (q : Nat) (w : World) (hr : RdL holdC w p q l) (hs : Rise l) (ho : ∀ h ∈ l, okH h = true) (hl : l.length ≤ 1000) :
    Calls Tryz.prog 20 #[.slice p l.length q] w fun e w' => ∃ (b : Nat) (D : DataW Unit), e = .returned (.map (some b)) ∧ w.heap.size ≤ b ∧ MapH w' b l.length D ∧ MapIs D (lkH l) ∧ Below w.heap.size w w' :=
  (untilsOf_c l p q w hr hs ho hl).mono fun _ _ ⟨D, h1, h2, h3, h4⟩ => ⟨_, D, h1, Nat.le_refl _, h2, h3, h4⟩
theorem only_drewN (fp : List Nat) (w : World) (n : Nat) : Only fp w (w.drewN n) := ⟨rfl, rfl, rfl, Nat.le_refl _, fun _ _ _ => rfl⟩
theorem only_pre (fp : List Nat) : Gen.Pre (Only fp) := ⟨fun _ _ _ h k => h.trans k, fun V n => only_drewN fp V n⟩
theorem only_cell {fp : List Nat} {V : World} {p : Addr} {v : Value} (h : V.cell? p = some v) (hn : p.block ∉ fp) : ∀ s : Gen.CW (Only fp) V, s.w.cell? p = some v := fun s => by
  have hl := World.block_lt_of_cell? V _ h
  have hb := s.h.block p.block hl hn
  rw [← h]
  unfold World.cell?
  rw [hb]
theorem only_some (fp : List Nat) (V : World) : Nonempty (Gen.CW (Only fp) V) := ⟨⟨V, Only.refl _ _⟩⟩
set_option maxRecDepth 4000 in
set_option maxHeartbeats 2000000 in
theorem askFault_c (x : SesD) (us : List Value) (c : List UInt8) (pc : Option Addr) (qc : Nat) (w : World) (h : sessionC.rep w x us) (hrc : Rd w pc qc c) :
    Calls Tryz.prog 18 #[.agg us.toArray, .slice pc c.length qc] w fun e w' => e = .returned (.int .i64 (acC hdC x c)) ∧ Below w.heap.size w w' := by
  obtain ⟨p1, q1, p3, q3, p4, q4, p5, q5, rfl, r1, r3, r4, r5⟩ := session_rep h
  have A := Arr.new w [.slice p1 x.1.length q1, .int .i64 x.2.1, .slice p3 x.2.2.1.length q3, .slice p4 x.2.2.2.1.length q4, .slice p5 x.2.2.2.2.length q5] 27
  have BW := alloc_below w (.cells #[.slice p1 x.1.length q1, .int .i64 x.2.1, .slice p3 x.2.2.1.length q3, .slice p4 x.2.2.2.1.length q4, .slice p5 x.2.2.2.2.length q5] 27)
  have K1 := sessFault_k x _ _ (sessionC.keep h BW)
  have R3 : Hid (∀ V, Below w.heap.size w V → RdL bytC V p3 q3 x.2.2.1) := fun V hV => r3.keep hV
  have R4 : Hid (∀ V, Below w.heap.size w V → RdL bytC V p4 q4 x.2.2.2.1) := fun V hV => r4.keep hV
  have RC : Hid (∀ V, Below w.heap.size w V → Rd V pc qc c) := fun V hV => hrc.keep hV
  have HE : Hid (acC hdC x c = if seF hdC x = 0 then (if ctxB c then (if hsB x.2.2.1 c = true ∨ hsB x.2.2.2.1 c = true then 6 else (if 6 ≤ x.2.2.1.length ∨ 40 ≤ x.2.2.1.length + x.2.2.2.1.length then 10 else 0)) else 2) else seF hdC x) := rfl
  have HS : Hid (seF hdC x = 0 → Ses x) := seC_iff.1
  have c0 := (A.cell 0).trans (show _ = some _ from rfl)
  have c1 := (A.cell 1).trans (show _ = some _ from rfl)
  have c2 := (A.cell 2).trans (show _ = some _ from rfl)
  have c3 := (A.cell 3).trans (show _ = some _ from rfl)
  have c4 := (A.cell 4).trans (show _ = some _ from rfl)
  clear h hrc r1 r3 r4 r5
  go_enter Tryz.func18, Tryz.ntmps18
  go_wp2_with fail
  refine K1.mono ?_
  rintro e w1 ⟨rfl, hb⟩
  replace A := A.stay hb
  replace BW := Below.step BW hb
  clear K1 hb c0 c1 c2 c3 c4
  by_cases h0 : seF hdC x = 0
  case neg =>
    have dk : (seF hdC x != 0) = true := by rw [bne_iff_ne]; exact h0
    have hz : Hid (acC hdC x c = seF hdC x) := by show _ = _; rw [HE.out, if_neg h0]
    clear HE HS h0 A
    go_wp2_with fail
    go_ret
    exact ⟨by rw [hz.out]; rfl, BW⟩
  have hS := HS.out h0
  have HE2 : Hid (acC hdC x c = if ctxB c then (if hsB x.2.2.1 c = true ∨ hsB x.2.2.2.1 c = true then 6 else (if 6 ≤ x.2.2.1.length ∨ 40 ≤ x.2.2.1.length + x.2.2.2.1.length then 10 else 0)) else 2) := by show _ = _; rw [HE.out, if_pos h0]
  have HLN : Hid (x.2.2.1.length ≤ 6 ∧ x.2.2.2.1.length ≤ 40) := ⟨hS.ln.1, hS.ln.2.1⟩
  rw [h0]
  clear HE HS h0 hS
  have KC := isContext_c pc qc c w1
  have c2 := (A.cell 2).trans (show _ = some _ from rfl)
  have c3 := (A.cell 3).trans (show _ = some _ from rfl)
  go_wp2_with fail
  refine KC.mono ?_
  rintro e w2 ⟨rfl, hw⟩
  rw [hw]
  clear hw w2 KC
  cases h1 : ctxB c
  · have hz : Hid (acC hdC x c = 2) := by show _ = _; rw [HE2.out, h1]; rfl
    clear HE2 h1 A c2 c3
    go_wp2_with fail
    go_ret
    exact ⟨by rw [hz.out]; rfl, BW⟩
  have HE3 : Hid (acC hdC x c = if hsB x.2.2.1 c = true ∨ hsB x.2.2.2.1 c = true then 6 else (if 6 ≤ x.2.2.1.length ∨ 40 ≤ x.2.2.1.length + x.2.2.2.1.length then 10 else 0)) := by show _ = _; rw [HE2.out, h1]; rfl
  have KH := hasContext_c x.2.2.1 c p3 pc q3 qc w1 (R3.out _ BW) (RC.out _ BW)
  clear HE2 h1
  go_wp2_with fail
  refine KH.mono ?_
  rintro e w2 ⟨rfl, hb⟩
  replace A := A.stay hb
  replace BW := Below.step BW hb
  clear KH hb c2 c3
  have c2 := (A.cell 2).trans (show _ = some _ from rfl)
  have c3 := (A.cell 3).trans (show _ = some _ from rfl)
  cases h2 : hsB x.2.2.1 c
  case true =>
    have hz : Hid (acC hdC x c = 6) := by show _ = _; rw [HE3.out, if_pos (.inl h2)]
    clear HE3 h2 A c2 c3
    go_wp2_with fail
    go_ret
    exact ⟨by rw [hz.out]; rfl, BW⟩
  have KH := hasContext_c x.2.2.2.1 c p4 pc q4 qc w2 (R4.out _ BW) (RC.out _ BW)
  go_wp2_with fail
  refine KH.mono ?_
  rintro e w3 ⟨rfl, hb⟩
  replace A := A.stay hb
  replace BW := Below.step BW hb
  clear KH hb c2 c3
  have c2 := (A.cell 2).trans (show _ = some _ from rfl)
  have c3 := (A.cell 3).trans (show _ = some _ from rfl)
  cases h3 : hsB x.2.2.2.1 c
  case true =>
    have hz : Hid (acC hdC x c = 6) := by show _ = _; rw [HE3.out, if_pos (.inr h3)]
    clear HE3 h2 h3 A c2 c3
    go_wp2_with fail
    go_ret
    exact ⟨by rw [hz.out]; rfl, BW⟩
  have HE4 : Hid (acC hdC x c = if 6 ≤ x.2.2.1.length ∨ 40 ≤ x.2.2.1.length + x.2.2.2.1.length then 10 else 0) := by show _ = _; rw [HE3.out, if_neg (by rw [h2, h3]; simp)]
  clear HE3 h2 h3 A
  have hl1 : (x.2.2.1.length : Int) ≤ 6 := by have := HLN.out.1; omega
  have hl2 : (x.2.2.2.1.length : Int) ≤ 40 := by have := HLN.out.2; omega
  by_cases h4 : x.2.2.1.length = 6
  · have hz : Hid (acC hdC x c = 10) := by show _ = _; rw [HE4.out, if_pos (.inl (by omega))]
    have dk : ((x.2.2.1.length : Int) == 6) = true := by rw [beq_iff_eq]; omega
    clear HE4 h4 HLN
    go_wp2_with fail
    go_ret
    exact ⟨by rw [hz.out]; rfl, BW⟩
  · have dk : ((x.2.2.1.length : Int) == 6) = false := by rw [beq_eq_false_iff_ne]; omega
    by_cases h5 : 40 ≤ x.2.2.1.length + x.2.2.2.1.length
    · have hz : Hid (acC hdC x c = 10) := by show _ = _; rw [HE4.out, if_pos (.inr h5)]
      have i1 : 40 ≤ (x.2.2.1.length : Int) + (x.2.2.2.1.length : Int) := by omega
      clear HE4 h4 h5 HLN
      go_wp2_with fail
      go_ret
      exact ⟨by rw [hz.out]; rfl, BW⟩
    · have hz : Hid (acC hdC x c = 0) := by show _ = _; rw [HE4.out, if_neg (by have := HLN.out.1; omega)]
      have i1 : ¬ (40 ≤ (x.2.2.1.length : Int) + (x.2.2.2.1.length : Int)) := by omega
      clear HE4 h4 h5 HLN
      go_wp2_with fail
      go_ret
      exact ⟨by rw [hz.out]; rfl, BW⟩
set_option maxRecDepth 4000 in
set_option maxHeartbeats 4000000 in
theorem implAc_k (x : SesD) (us : List Value) (c : List UInt8) (pc : Option Addr) (qc : Nat) (w : World) (h : sessionC.rep w x us) (hrc : Rd w pc qc c) :
    Calls Tryz.prog 6 #[.agg us.toArray, .slice pc c.length qc] w fun e w' => ∃ vs fp, e = .returned (.agg vs.toArray) ∧ sessionResultC.own w' w.heap.size (acD x c) vs fp ∧ Below w.heap.size w w' := by
  obtain ⟨p1, q1, p3, q3, p4, q4, p5, q5, rfl, r1, r3, r4, r5⟩ := session_rep h
  have A0 := Arr.new w [.slice p1 x.1.length q1, .int .i64 x.2.1, .slice p3 x.2.2.1.length q3, .slice p4 x.2.2.2.1.length q4, .slice p5 x.2.2.2.2.length q5] 27
  have B0 := alloc_below w (.cells #[.slice p1 x.1.length q1, .int .i64 x.2.1, .slice p3 x.2.2.1.length q3, .slice p4 x.2.2.2.1.length q4, .slice p5 x.2.2.2.2.length q5] 27)
  have R := Arr.new (w.alloc (.cells #[.slice p1 x.1.length q1, .int .i64 x.2.1, .slice p3 x.2.2.1.length q3, .slice p4 x.2.2.2.1.length q4, .slice p5 x.2.2.2.2.length q5] 27)) [.int .i64 0, .int .i64 0, .slice none 0 0, .int .i64 0, .slice none 0 0, .slice none 0 0, .slice none 0 0] 31
  rw [size_alloc] at R
  have A := A0.old _ (.cells #[.int .i64 0, .int .i64 0, .slice none 0 0, .int .i64 0, .slice none 0 0, .slice none 0 0, .slice none 0 0] 31)
  have BW := Below.mk B0 (.cells #[.int .i64 0, .int .i64 0, .slice none 0 0, .int .i64 0, .slice none 0 0, .slice none 0 0, .slice none 0 0] 31)
  have hres : Hid ((Tryz.prog.info? 31).map (·.size) = some 7) := by show _ = _; kernel_rfl
  have hz2 : Hid (((w.alloc (.cells #[.slice p1 x.1.length q1, .int .i64 x.2.1, .slice p3 x.2.2.1.length q3, .slice p4 x.2.2.2.1.length q4, .slice p5 x.2.2.2.2.length q5] 27)).alloc (.cells #[.int .i64 0, .int .i64 0, .slice none 0 0, .int .i64 0, .slice none 0 0, .slice none 0 0, .slice none 0 0] 31)).heap.size = w.heap.size + 2) := by show _ = _; rw [size_alloc, size_alloc]
  have HREP : Hid (∀ V, Below w.heap.size w V → sessionC.rep V x [.slice p1 x.1.length q1, .int .i64 x.2.1, .slice p3 x.2.2.1.length q3, .slice p4 x.2.2.2.1.length q4, .slice p5 x.2.2.2.2.length q5]) := fun V hV => sessionC.keep h hV
  have R5 : Hid (∀ V, Below w.heap.size w V → RdL holdC V p5 q5 x.2.2.2.2) := fun V hV => r5.keep hV
  have HS : Hid (seF hdC x = 0 → Ses x) := seC_iff.1
  have hln5 : x.2.2.2.2.length ≤ q5 := r5.1
  have hqn5 : q5 ≤ 2 ^ 63 - 1 := r5.2.1
  have RC : Hid (∀ V, Below w.heap.size w V → Rd V pc qc c) := fun V hV => hrc.keep hV
  have HD1 : Hid (acC hdC x c ≠ 0 → acD x c = (acC hdC x c, 0, zeroSes)) := fun k => by unfold acD; rw [if_neg k]
  have HD0 : Hid (acC hdC x c = 0 → acD x c = (0, 0, askN x c) ∧ seF hdC x = 0 ∧ ctxB c = true) := fun k => by
    refine ⟨by unfold acD; rw [if_pos k], ?_⟩
    unfold acC at k
    by_cases h0 : seF hdC x = 0
    · rw [if_pos h0] at k
      cases h1 : ctxB c
      · rw [h1] at k; cases k
      · exact ⟨h0, rfl⟩
    · rw [if_neg h0] at k; exact absurd k h0
  have K1 := askFault_c x _ c pc qc _ (sessionC.keep h BW) (hrc.keep BW)
  have c0 := (A.cell 0).trans (show _ = some _ from rfl)
  have c1 := (A.cell 1).trans (show _ = some _ from rfl)
  have c2 := (A.cell 2).trans (show _ = some _ from rfl)
  have c3 := (A.cell 3).trans (show _ = some _ from rfl)
  have c4 := (A.cell 4).trans (show _ = some _ from rfl)
  clear h hrc r1 r3 r4 r5 A0 B0
  go_enter Tryz.func6, Tryz.ntmps6
  go_wp2_with fail
  generalize hV : (w.alloc (.cells #[.slice p1 x.1.length q1, .int .i64 x.2.1, .slice p3 x.2.2.1.length q3, .slice p4 x.2.2.2.1.length q4, .slice p5 x.2.2.2.2.length q5] 27)).alloc (.cells #[.int .i64 0, .int .i64 0, .slice none 0 0, .int .i64 0, .slice none 0 0, .slice none 0 0, .slice none 0 0] 31) = V at *
  have hzV : Hid (V.heap.size = w.heap.size + 2) := hz2.out
  clear hV hz2
  refine K1.mono ?_
  rintro e w1 ⟨rfl, hb⟩
  replace R := R.stay hb
  replace A := A.stay hb
  replace BW := Below.step BW hb
  have hz1 : Hid (w.heap.size + 2 ≤ w1.heap.size) := by have h := hb.size; rw [hzV.out] at h; exact h
  clear K1 hb c0 c1 c2 c3 c4 hzV
  by_cases h0 : acC hdC x c = 0
  case neg =>
    have dk : (acC hdC x c != 0) = true := by rw [bne_iff_ne]; exact h0
    have HC : Hid (acD x c = (acC hdC x c, 0, zeroSes)) := HD1.out h0
    clear HS h0 A HD0 HD1
    generalize acC hdC x c = k at *
    go_wp2_with (refine wpList_store_row rfl 31 _ _ rfl (w.heap.size + 1) #[.int .i64 k, .int .i64 0, .slice none 0 0, .int .i64 0, .slice none 0 0, .slice none 0 0, .slice none 0 0] rfl rfl 31 #[.int .i64 0, .int .i64 0, .slice none 0 0, .int .i64 0, .slice none 0 0, .slice none 0 0, .slice none 0 0] R hres.out rfl (by simp [Value.oneCell']) ?_)
    exact bodyPost_ret (v := .agg #[.int .i64 k, .int .i64 0, .slice none 0 0, .int .i64 0, .slice none 0 0, .slice none 0 0, .slice none 0 0]) (results_cell_row Tryz.results6 _ _ (w.heap.size + 1) 31 _ (0, 0) _ rfl (R.row [.int .i64 k, .int .i64 0, .slice none 0 0, .int .i64 0, .slice none 0 0, .slice none 0 0, .slice none 0 0]) Tryz.underlying31 rfl hres.out) rfl ⟨_, _, rfl, by rw [HC.out]; exact sesR_own zeroSes_own, Below.row BW (Nat.le_succ _) _⟩
  obtain ⟨hC, hf0, hct⟩ := HD0.out h0
  have hS : Hid (Ses x) := HS.out hf0
  have HC : Hid (acD x c = (0, 0, askN x c)) := hC
  have HCT : Hid (c.length ≤ 20) := (ctxB_parts hct).2
  rw [h0]
  clear HS h0 HD0 HD1 hC hf0 hct
  have c0 := (A.cell 0).trans (show _ = some _ from rfl)
  have c1 := (A.cell 1).trans (show _ = some _ from rfl)
  have c2 := (A.cell 2).trans (show _ = some _ from rfl)
  have c3 := (A.cell 3).trans (show _ = some _ from rfl)
  have c4 := (A.cell 4).trans (show _ = some _ from rfl)
  go_wp2_with fail
  apply share
  case h =>
    intro JN
    have BB := Below.refl w1.heap.size w1
    have hne := HW.some w1
    have g0 := HW.at (c0)
    have g1 := HW.at (c1)
    have g2 := HW.at (c2)
    have g3 := HW.at (c3)
    have g4 := HW.at (c4)
    refine wp_region_pick [0, 1, 2] 6 3 1 rfl rfl rfl (by kernel_rfl) (by kernel_rfl) (by kernel_rfl) (by kernel_rfl) ?_
    simp only [opsAt, List.getElem?_toArray, List.getElem?_cons_zero, List.getElem?_cons_succ]
    repeat (go_big_quiet_step (fail))
    refine wpQuiet_nil ?_
    clear g0 g1 g2 g3 g4
    refine wpM_two (i := 3) (j := 5) (by kernel_rfl) ?_ ?_
    · skip
      refine mOp_call rfl (by go_simp) 20 _ #[.slice p5 x.2.2.2.2.length q5] (fun w => by go_simp) rfl ?_
      rintro _ ⟨sg, rfl⟩
      refine (untilsOf_b x.2.2.2.2 p5 q5 _ (R5.out _ (BW.trans (((Below.step BB sg.h)).mono BW.size))) hS.out.rs hS.out.ok (by have := hS.out.ln.2.2; omega)).mono ?_
      rintro e wg1 ⟨bm, D, rfl, -, ho, hm, hbx⟩
      have hbg := Below.step sg.h hbx
      refine ⟨_, rfl, ⟨⟨wg1, hbx⟩, rfl⟩, ?_⟩
      have HMP := (ho : MapH _ bm x.2.2.2.2.length D)
      have HMI := (hm : MapIs D (lkH x.2.2.2.2))
      replace BB := Below.step BB hbg
      clear hbg hbx sg ho hm
      replace hne := HW.some wg1
      refine wpM_two (i := 4) (j := 5) (by kernel_rfl) ?_ ?_
      · skip
        refine mOp_call rfl (by go_simp) 19 _ #[.agg #[.slice p1 x.1.length q1, .int .i64 x.2.1, .slice p3 x.2.2.1.length q3, .slice p4 x.2.2.2.1.length q4, .slice p5 x.2.2.2.2.length q5], .map (some bm)] (fun w => by go_simp) rfl ?_
        rintro _ ⟨sg, rfl⟩
        refine (ownSession_c x _ x.2.2.2.2 bm x.2.2.2.2.length D _ (HREP.out _ (BW.trans (((Below.step BB sg.h)).mono BW.size))) hS.out (HMP.keep sg.h) HMI hS.out.rs hS.out.ok (by have := hS.out.ln.2.2; omega) (by have := hS.out.ln.2.2; omega)).mono ?_
        rintro e wg2 ⟨vs, fp, rfl, kS, hbx⟩
        obtain ⟨s1, t1, s3, t3, s4, t4, s5, t5, rfl, -, -, -, -⟩ := session_rep (sessionC.toRep kS)
        have hbg := Below.step sg.h hbx
        refine ⟨_, rfl, ⟨⟨wg2, hbx⟩, rfl⟩, ?_⟩
        have KS := (sessionC.low kS ((Below.step BB sg.h)).size : sessionC.own _ w1.heap.size (x.1, x.2.1, x.2.2.1, x.2.2.2.1, x.2.2.2.2) [.slice s1 x.1.length t1, .int .i64 x.2.1, .slice s3 x.2.2.1.length t3, .slice s4 x.2.2.2.1.length t4, .slice s5 x.2.2.2.2.length t5] fp)
        replace HMP := HMP.keep hbg
        replace BB := Below.step BB hbg
        clear hbg hbx sg kS
        replace hne := HW.some wg2
        refine wpM_only (i := 5) (by kernel_rfl) ?_
        refine mOp_make rfl (by go_simp) ?_
        rintro _ ⟨sg, rfl⟩
        refine ⟨.pointer (some ⟨sg.w.heap.size, 0, none⟩), sg.w.alloc (.cells #[.slice none 0 0, .int .i64 0, .slice none 0 0, .slice none 0 0, .slice none 0 0] 27), by go_simp, ⟨⟨_, alloc_below _ _⟩, rfl⟩, ?_⟩
        have hbg := Below.step sg.h (alloc_below sg.w (.cells #[.slice none 0 0, .int .i64 0, .slice none 0 0, .slice none 0 0, .slice none 0 0] 27))
        have AZ := Arr.new sg.w [.slice none 0 0, .int .i64 0, .slice none 0 0, .slice none 0 0, .slice none 0 0] 27
        have GZ := (show Hid (w1.heap.size ≤ sg.w.heap.size) from (Below.step BB sg.h).size)
        have NE := (show ∀ k, k ∈ fp → k ≠ sg.w.heap.size from fun k h e => by have h1 := (sessionC.ins KS k h).2; have h2 := sg.h.size; omega)
        replace HMP := HMP.keep hbg
        replace KS := sessionC.stay KS hbg
        replace BB := Below.step BB hbg
        clear hbg
        replace hne := HW.some (sg.w.alloc (.cells #[.slice none 0 0, .int .i64 0, .slice none 0 0, .slice none 0 0, .slice none 0 0] 27))
        generalize hW : (sg.w.alloc (.cells #[.slice none 0 0, .int .i64 0, .slice none 0 0, .slice none 0 0, .slice none 0 0] 27)) = wg3 at *
        clear hW
        generalize sg.w.heap.size = gz at *
        clear sg
        refine wpM_end (by kernel_rfl) rfl (by kernel_rfl) (by decide) ?_
        rintro _ ⟨sz, rfl⟩
        simp only [List.drop_succ_cons, List.drop_zero]
        go_simp
        replace HMP := HMP.keep sz.h
        replace KS := sessionC.stay KS sz.h
        replace AZ := AZ.stay sz.h
        replace BB := Below.step BB sz.h
        clear hne
        generalize sz.w = W at *
        clear sz
        revert NE
        revert GZ
        revert AZ
        revert KS
        revert HMI
        revert HMP
        revert BB
        revert gz
        revert t5
        revert s5
        revert t4
        revert s4
        revert t3
        revert s3
        revert t1
        revert s1
        revert fp
        revert D
        revert bm
        revert W
        exact JN.out
      · skip
        refine mOp_make rfl (by go_simp) ?_
        rintro _ ⟨sg, rfl⟩
        refine ⟨.pointer (some ⟨sg.w.heap.size, 0, none⟩), sg.w.alloc (.cells #[.slice none 0 0, .int .i64 0, .slice none 0 0, .slice none 0 0, .slice none 0 0] 27), by go_simp, ⟨⟨_, alloc_below _ _⟩, rfl⟩, ?_⟩
        have hbg := Below.step sg.h (alloc_below sg.w (.cells #[.slice none 0 0, .int .i64 0, .slice none 0 0, .slice none 0 0, .slice none 0 0] 27))
        have AZ := Arr.new sg.w [.slice none 0 0, .int .i64 0, .slice none 0 0, .slice none 0 0, .slice none 0 0] 27
        have GZ := (show Hid (w1.heap.size ≤ sg.w.heap.size) from (Below.step BB sg.h).size)
        replace HMP := HMP.keep hbg
        replace BB := Below.step BB hbg
        clear hbg
        replace hne := HW.some (sg.w.alloc (.cells #[.slice none 0 0, .int .i64 0, .slice none 0 0, .slice none 0 0, .slice none 0 0] 27))
        generalize hW : (sg.w.alloc (.cells #[.slice none 0 0, .int .i64 0, .slice none 0 0, .slice none 0 0, .slice none 0 0] 27)) = wg4 at *
        clear hW
        generalize sg.w.heap.size = gz at *
        clear sg
        refine wpM_only (i := 4) (by kernel_rfl) ?_
        refine mOp_call rfl (by go_simp) 19 _ #[.agg #[.slice p1 x.1.length q1, .int .i64 x.2.1, .slice p3 x.2.2.1.length q3, .slice p4 x.2.2.2.1.length q4, .slice p5 x.2.2.2.2.length q5], .map (some bm)] (fun w => by go_simp) rfl ?_
        rintro _ ⟨sg, rfl⟩
        refine (ownSession_c x _ x.2.2.2.2 bm x.2.2.2.2.length D _ (HREP.out _ (BW.trans (((Below.step BB sg.h)).mono BW.size))) hS.out (HMP.keep sg.h) HMI hS.out.rs hS.out.ok (by have := hS.out.ln.2.2; omega) (by have := hS.out.ln.2.2; omega)).mono ?_
        rintro e wg5 ⟨vs, fp, rfl, kS, hbx⟩
        obtain ⟨s1, t1, s3, t3, s4, t4, s5, t5, rfl, -, -, -, -⟩ := session_rep (sessionC.toRep kS)
        have hbg := Below.step sg.h hbx
        refine ⟨_, rfl, ⟨⟨wg5, hbx⟩, rfl⟩, ?_⟩
        have KS := (sessionC.low kS ((Below.step BB sg.h)).size : sessionC.own _ w1.heap.size (x.1, x.2.1, x.2.2.1, x.2.2.2.1, x.2.2.2.2) [.slice s1 x.1.length t1, .int .i64 x.2.1, .slice s3 x.2.2.1.length t3, .slice s4 x.2.2.2.1.length t4, .slice s5 x.2.2.2.2.length t5] fp)
        have NE := (show ∀ k, k ∈ fp → k ≠ gz from fun k h e => by have h1 := (sessionC.ins kS k h).1; have h2 := AZ.lt; have h3 := sg.h.size; omega)
        replace HMP := HMP.keep hbg
        replace AZ := AZ.stay hbg
        replace BB := Below.step BB hbg
        clear hbg hbx sg kS
        replace hne := HW.some wg5
        refine wpM_end (by kernel_rfl) rfl (by kernel_rfl) (by decide) ?_
        rintro _ ⟨sz, rfl⟩
        simp only [List.drop_succ_cons, List.drop_zero]
        go_simp
        replace HMP := HMP.keep sz.h
        replace AZ := AZ.stay sz.h
        replace KS := sessionC.stay KS sz.h
        replace BB := Below.step BB sz.h
        clear hne
        generalize sz.w = W at *
        clear sz
        revert NE
        revert GZ
        revert AZ
        revert KS
        revert HMI
        revert HMP
        revert BB
        revert gz
        revert t5
        revert s5
        revert t4
        revert s4
        revert t3
        revert s3
        revert t1
        revert s1
        revert fp
        revert D
        revert bm
        revert W
        exact JN.out
    · skip
      refine mOp_make rfl (by go_simp) ?_
      rintro _ ⟨sg, rfl⟩
      refine ⟨.pointer (some ⟨sg.w.heap.size, 0, none⟩), sg.w.alloc (.cells #[.slice none 0 0, .int .i64 0, .slice none 0 0, .slice none 0 0, .slice none 0 0] 27), by go_simp, ⟨⟨_, alloc_below _ _⟩, rfl⟩, ?_⟩
      have hbg := Below.step sg.h (alloc_below sg.w (.cells #[.slice none 0 0, .int .i64 0, .slice none 0 0, .slice none 0 0, .slice none 0 0] 27))
      have AZ := Arr.new sg.w [.slice none 0 0, .int .i64 0, .slice none 0 0, .slice none 0 0, .slice none 0 0] 27
      have GZ := (show Hid (w1.heap.size ≤ sg.w.heap.size) from (Below.step BB sg.h).size)
      replace BB := Below.step BB hbg
      clear hbg
      replace hne := HW.some (sg.w.alloc (.cells #[.slice none 0 0, .int .i64 0, .slice none 0 0, .slice none 0 0, .slice none 0 0] 27))
      generalize hW : (sg.w.alloc (.cells #[.slice none 0 0, .int .i64 0, .slice none 0 0, .slice none 0 0, .slice none 0 0] 27)) = wg6 at *
      clear hW
      generalize sg.w.heap.size = gz at *
      clear sg
      refine wpM_only (i := 3) (by kernel_rfl) ?_
      refine mOp_call rfl (by go_simp) 20 _ #[.slice p5 x.2.2.2.2.length q5] (fun w => by go_simp) rfl ?_
      rintro _ ⟨sg, rfl⟩
      refine (untilsOf_b x.2.2.2.2 p5 q5 _ (R5.out _ (BW.trans (((Below.step BB sg.h)).mono BW.size))) hS.out.rs hS.out.ok (by have := hS.out.ln.2.2; omega)).mono ?_
      rintro e wg7 ⟨bm, D, rfl, -, ho, hm, hbx⟩
      have hbg := Below.step sg.h hbx
      refine ⟨_, rfl, ⟨⟨wg7, hbx⟩, rfl⟩, ?_⟩
      have HMP := (ho : MapH _ bm x.2.2.2.2.length D)
      have HMI := (hm : MapIs D (lkH x.2.2.2.2))
      replace AZ := AZ.stay hbg
      replace BB := Below.step BB hbg
      clear hbg hbx sg ho hm
      replace hne := HW.some wg7
      refine wpM_only (i := 4) (by kernel_rfl) ?_
      refine mOp_call rfl (by go_simp) 19 _ #[.agg #[.slice p1 x.1.length q1, .int .i64 x.2.1, .slice p3 x.2.2.1.length q3, .slice p4 x.2.2.2.1.length q4, .slice p5 x.2.2.2.2.length q5], .map (some bm)] (fun w => by go_simp) rfl ?_
      rintro _ ⟨sg, rfl⟩
      refine (ownSession_c x _ x.2.2.2.2 bm x.2.2.2.2.length D _ (HREP.out _ (BW.trans (((Below.step BB sg.h)).mono BW.size))) hS.out (HMP.keep sg.h) HMI hS.out.rs hS.out.ok (by have := hS.out.ln.2.2; omega) (by have := hS.out.ln.2.2; omega)).mono ?_
      rintro e wg8 ⟨vs, fp, rfl, kS, hbx⟩
      obtain ⟨s1, t1, s3, t3, s4, t4, s5, t5, rfl, -, -, -, -⟩ := session_rep (sessionC.toRep kS)
      have hbg := Below.step sg.h hbx
      refine ⟨_, rfl, ⟨⟨wg8, hbx⟩, rfl⟩, ?_⟩
      have KS := (sessionC.low kS ((Below.step BB sg.h)).size : sessionC.own _ w1.heap.size (x.1, x.2.1, x.2.2.1, x.2.2.2.1, x.2.2.2.2) [.slice s1 x.1.length t1, .int .i64 x.2.1, .slice s3 x.2.2.1.length t3, .slice s4 x.2.2.2.1.length t4, .slice s5 x.2.2.2.2.length t5] fp)
      have NE := (show ∀ k, k ∈ fp → k ≠ gz from fun k h e => by have h1 := (sessionC.ins kS k h).1; have h2 := AZ.lt; have h3 := sg.h.size; omega)
      replace AZ := AZ.stay hbg
      replace HMP := HMP.keep hbg
      replace BB := Below.step BB hbg
      clear hbg hbx sg kS
      replace hne := HW.some wg8
      refine wpM_end (by kernel_rfl) rfl (by kernel_rfl) (by decide) ?_
      rintro _ ⟨sz, rfl⟩
      simp only [List.drop_succ_cons, List.drop_zero]
      go_simp
      replace AZ := AZ.stay sz.h
      replace HMP := HMP.keep sz.h
      replace KS := sessionC.stay KS sz.h
      replace BB := Below.step BB sz.h
      clear hne
      generalize sz.w = W at *
      clear sz
      revert NE
      revert GZ
      revert AZ
      revert KS
      revert HMI
      revert HMP
      revert BB
      revert gz
      revert t5
      revert s5
      revert t4
      revert s4
      revert t3
      revert s3
      revert t1
      revert s1
      revert fp
      revert D
      revert bm
      revert W
      exact JN.out
  intro W bm D fp s1 t1 s3 t3 s4 t4 s5 t5 gz BB HMP HMI KS AZ GZ NE
  have hresS : Hid ((Tryz.prog.info? 27).map (·.size) = some 5) := by show _ = _; kernel_rfl
  refine wpList_store_row rfl 27 _ _ rfl gz #[.slice s1 x.1.length t1, .int .i64 x.2.1, .slice s3 x.2.2.1.length t3, .slice s4 x.2.2.2.1.length t4, .slice s5 x.2.2.2.2.length t5] rfl rfl 27 #[.slice none 0 0, .int .i64 0, .slice none 0 0, .slice none 0 0, .slice none 0 0] AZ hresS.out rfl (by simp [Value.oneCell']) ?_
  have AS := AZ.row [.slice s1 x.1.length t1, .int .i64 x.2.1, .slice s3 x.2.2.1.length t3, .slice s4 x.2.2.2.1.length t4, .slice s5 x.2.2.2.2.length t5]
  have BX := Below.row BB GZ.out #[.slice s1 x.1.length t1, .int .i64 x.2.1, .slice s3 x.2.2.1.length t3, .slice s4 x.2.2.2.1.length t4, .slice s5 x.2.2.2.2.length t5]
  have KX : sessionC.own (W.setRow gz #[.slice s1 x.1.length t1, .int .i64 x.2.1, .slice s3 x.2.2.1.length t3, .slice s4 x.2.2.2.1.length t4, .slice s5 x.2.2.2.2.length t5]) w1.heap.size (x.1, x.2.1, x.2.2.1, x.2.2.2.1, x.2.2.2.2) [.slice s1 x.1.length t1, .int .i64 x.2.1, .slice s3 x.2.2.1.length t3, .slice s4 x.2.2.2.1.length t4, .slice s5 x.2.2.2.2.length t5] fp := sessionC.fr KS fun k hk => setRow_other W gz k _ (NE k hk)
  have hW2 : Hid (gz < (W.setRow gz #[.slice s1 x.1.length t1, .int .i64 x.2.1, .slice s3 x.2.2.1.length t3, .slice s4 x.2.2.2.1.length t4, .slice s5 x.2.2.2.2.length t5]).heap.size) := by show _ < _; rw [size_setRow]; exact AZ.lt
  have R2 := R.stay BX
  have BW2 := Below.step BW BX
  clear AZ BB KS R BW HMP HMI c0 c1 c2 c3 c4
  generalize W.setRow gz #[.slice s1 x.1.length t1, .int .i64 x.2.1, .slice s3 x.2.2.1.length t3, .slice s4 x.2.2.2.1.length t4, .slice s5 x.2.2.2.2.length t5] = W2 at *
  clear W
  obtain ⟨u1, a1, b1, d1, fa, fb, fc, es, ku, ka, kb, kd, hn, rfl⟩ := ses_own_inv KX
  simp only [List.cons.injEq, and_true, true_and] at es
  obtain ⟨rfl, rfl, rfl, rfl⟩ := es
  go_wp2_with fail
  have hgA : gz ∉ (Value.slice s3 x.2.2.1.length t3).ownBlock.toList := fun h => by
    obtain ⟨v9, x9, f9, e9, o9, r9⟩ := ka
    simp only [List.cons.injEq, and_true] at e9
    subst e9
    exact NE gz (List.mem_append_right _ (List.mem_append_left _ (by rw [r9]; exact List.mem_append_left _ h))) rfl
  obtain ⟨F, hF⟩ : ∃ F, F = (Value.slice s3 x.2.2.1.length t3).ownBlock.toList := ⟨_, rfl⟩
  have HF : Hid (F = (Value.slice s3 x.2.2.1.length t3).ownBlock.toList) := hF
  rw [← hF] at hgA
  clear hF
  have g2 := only_cell ((AS.cell 2).trans (show _ = some _ from rfl)) hgA
  have hne := only_some F W2
  have HW : Hid (Below w.heap.size w W2 ∧ Below w1.heap.size w1 W2) := ⟨BW2, BX⟩
  refine Gen.wp_region_pick (only_pre F) [0, 1, 2] 7 4 1 rfl rfl rfl (by kernel_rfl) (by kernel_rfl) (by kernel_rfl) (by kernel_rfl) ?_
  simp only [opsAt, List.getElem?_toArray, List.getElem?_cons_zero, List.getElem?_cons_succ]
  repeat (go_big_quiet_step (fail))
  refine wpQuiet_nil ?_
  clear g2 hne
  refine Gen.wpM_only (i := 3) (by kernel_rfl) ?_
  refine Gen.mOp_call rfl (by go_simp) 21 _ #[.slice pc c.length qc] (fun w => by go_simp) rfl ?_
  rintro _ ⟨n1, rfl⟩
  have D1 : Below W2.heap.size W2 (W2.drewN n1) := ⟨rfl, rfl, rfl, Nat.le_refl _, fun _ _ => rfl⟩
  refine (bytesClone_c pc qc c _ (RC.out _ (BW2.trans (D1.mono BW2.size))) (by have := HCT.out; omega)).mono ?_
  rintro e w3 ⟨u3, rfl, k3, hb3⟩
  refine ⟨_, rfl, ⟨⟨w3, Only.below hb3⟩, rfl⟩, ?_⟩
  obtain ⟨pu, qu, rfl, -⟩ := k3.rd
  have E3 := Below.step D1 hb3
  replace k3 : Own w3 W2.heap.size (.slice pu c.length qu) c := k3
  clear D1 hb3
  refine Gen.wpM_only (i := 4) (by kernel_rfl) ?_
  refine Gen.mOp_make rfl (by go_simp) ?_
  rintro _ ⟨n4, rfl⟩
  refine ⟨.slice (some ⟨(w3.drewN n4).heap.size, 0, none⟩) 1 1, (w3.drewN n4).alloc (.cells #[.slice pu c.length qu] 22), by go_simp, ⟨⟨_, Only.below (alloc_below _ _)⟩, rfl⟩, ?_⟩
  have D4 : Below w3.heap.size w3 (w3.drewN n4) := ⟨rfl, rfl, rfl, Nat.le_refl _, fun _ _ => rfl⟩
  have A4 := Arr.new (w3.drewN n4) [.slice pu c.length qu] 22
  have D5 := Below.step D4 (alloc_below (w3.drewN n4) (.cells #[.slice pu c.length qu] 22))
  generalize (w3.drewN n4).alloc (.cells #[.slice pu c.length qu] 22) = w4 at *
  generalize (w3.drewN n4).heap.size = g4 at *
  replace k3 := k3.stay D5
  replace E3 := Below.step E3 D5
  clear D4 D5
  refine Gen.wpM_only (i := 5) (by kernel_rfl) ?_
  refine Gen.mOp_list rfl (by go_simp) (by kernel_rfl) ?_
  rintro _ ⟨n5, rfl⟩
  have D4 : Below w4.heap.size w4 (w4.drewN n5) := ⟨rfl, rfl, rfl, Nat.le_refl _, fun _ _ => rfl⟩
  replace k3 := k3.stay D4
  replace E3 := Below.step E3 D4
  replace A4 := A4.stay D4
  clear D4
  generalize w4.drewN n5 = w5 at *
  obtain ⟨v9, x9, f9, e9, o9, r9⟩ := ka
  simp only [List.cons.injEq, and_true] at e9
  subst e9
  refine wpList_append_blkG rfl (.tmp 20) (.tmp 23) rfl o9 k3 E3 A4 rfl rfl BX.size (by have := hS.out.ln.1; show _ ≤ _; omega) ?_
  intro p6 q6 w6 xs6 fp6 o6 hg6 hin6 hb6
  have hon := Only.grown hg6
  rw [← HF.out] at hon
  refine ⟨rfl, hon, ?_⟩
  have HN := List.nodup_append.1 hn
  have HN2 := List.nodup_append.1 HN.2.1
  have hFa : ∀ k, k ∈ F → k ∈ fa := fun k hk => by rw [r9]; exact List.mem_append_left _ (by rw [← HF.out]; exact hk)
  have hRo : Hid (w.heap.size + 1 ∉ F) := fun hk => by
    have h1 := (o9.ins _ (by rw [← r9]; exact hFa _ hk)).1
    have h2 := hz1.out
    omega
  replace AS := (AS.stay E3).other hg6 (fun e => hgA (by rw [HF.out]; exact mem_opt.2 e))
  replace R2 := (R2.stay E3).other hg6 (fun e => hRo.out (by rw [HF.out]; exact mem_opt.2 e))
  replace ku := (ku.stay E3).other hg6 (fun j hj e => HN.2.2 j (mem_opt.2 hj) j (List.mem_append_left _ (hFa j (by rw [HF.out]; exact mem_opt.2 e))) rfl)
  replace kb := blksC.other (blksC.stay kb E3) hon (fun k hk hF => HN2.2.2 k (hFa k hF) k (List.mem_append_left _ hk) rfl)
  replace kd := holdsC.other (holdsC.stay kd E3) hon (fun k hk hF => HN2.2.2 k (hFa k hF) k (List.mem_append_right _ hk) rfl)
  have EW := Below.step BX E3
  have BW6 : Below w.heap.size w w6 := (BW2.trans (E3.mono BW2.size)).trans (hb6.mono (Nat.le_trans (Nat.le_succ_of_le (Nat.le_succ _)) hz1.out))
  have hin7 : Hid (∀ k, k ∈ (Value.slice p6 (x.2.2.1.length + 1) q6).ownBlock.toList ++ fp6 → k ∈ fa ∨ W2.heap.size ≤ k) := fun k hk => by rw [r9]; exact hin6 k hk
  have hgz : Hid (gz < w6.heap.size) := AS.lt
  have hGF : Hid (∀ k, k ∈ (Value.slice s1 x.1.length t1).ownBlock.toList ++ (fa ++ (fb ++ fc)) → k ≠ gz) := NE
  have hW2l : Hid (gz < W2.heap.size) := hW2
  have hIns : Hid (∀ k, k ∈ (Value.slice s1 x.1.length t1).ownBlock.toList ++ (fa ++ (fb ++ fc)) → k < W2.heap.size) := fun k hk => (sessionC.ins KX k hk).2
  have hFN : Hid _ := hn
  clear hon hg6 hin6 o9 r9 k3 E3 A4 EW HN HN2 hFa hgA HF hRo hW2 hn KX NE HW hb6 BX
  have hne := only_some F w6
  refine Gen.wpM_more (only_pre F) [6] 1 0 rfl (by kernel_rfl) (by kernel_rfl) (by kernel_rfl) (by kernel_rfl) ?_
  simp only [opsAt, List.getElem?_toArray, List.getElem?_cons_zero, List.getElem?_cons_succ]
  go_simp
  repeat (go_big_quiet_step (fail))
  refine wpQuiet_nil ?_
  clear hne
  refine Gen.wpM_end (by kernel_rfl) rfl (by kernel_rfl) (by decide) ?_
  rintro _ ⟨n7, rfl⟩
  have D7 : Below w6.heap.size w6 (w6.drewN n7) := ⟨rfl, rfl, rfl, Nat.le_refl _, fun _ _ => rfl⟩
  replace AS := AS.stay D7
  replace R2 := R2.stay D7
  replace ku := ku.stay D7
  replace kb := blksC.stay kb D7
  replace kd := holdsC.stay kd D7
  replace o6 := o6.stay D7
  replace BW6 := Below.step BW6 D7
  replace hgz : Hid (gz < (w6.drewN n7).heap.size) := Nat.lt_of_lt_of_le hgz.out D7.size
  clear D7
  generalize w6.drewN n7 = W7 at *
  simp only [List.drop_succ_cons, List.drop_zero]
  have d0 := (AS.cell 0).trans (show _ = some _ from rfl)
  have d1 := (AS.cell 1).trans (show _ = some _ from rfl)
  have d2 := (AS.cell 2).trans (show _ = some _ from rfl)
  have d3 := (AS.cell 3).trans (show _ = some _ from rfl)
  have d4 := (AS.cell 4).trans (show _ = some _ from rfl)
  have fz := AS.frozen
  have kAll : sessionC.own W7 w1.heap.size (askN x c) [.slice s1 x.1.length t1, .int .i64 x.2.1, .slice p6 (x.2.2.1.length + 1) q6, .slice s4 x.2.2.2.1.length t4, .slice s5 x.2.2.2.2.length t5] _ := ses_own (x := askN x c) ku ⟨_, _, _, rfl, o6, rfl⟩ kb kd (by
    have n1 := List.nodup_append.1 hFN.out
    have n2 := List.nodup_append.1 n1.2.1
    refine List.nodup_append.2 ⟨nodup_opt _, List.nodup_append.2 ⟨o6.nd, n2.2.1, fun y hy z hz e => ?_⟩, fun y hy z hz e => ?_⟩
    · subst e
      rcases hin7.out y hy with h | h
      · exact n2.2.2 y h y hz rfl
      · have := hIns.out y (List.mem_append_right _ (List.mem_append_right _ hz)); omega
    · subst e
      rcases List.mem_append.1 hz with hz | hz
      · rcases hin7.out y hz with h | h
        · exact n1.2.2 y hy y (List.mem_append_left _ h) rfl
        · have := hIns.out y (List.mem_append_left _ hy); omega
      · exact n1.2.2 y hy y (List.mem_append_right _ hz) rfl)
  have k8 := sessionC.fr (w' := W7.setCell ⟨gz, 2, none⟩ (.slice p6 (x.2.2.1.length + 1) q6)) kAll fun k hk => by
    have hne : k ≠ gz := by
      rcases List.mem_append.1 hk with h | h
      · exact hGF.out k (List.mem_append_left _ h)
      · rcases List.mem_append.1 h with h | h
        · cases h
        · rcases List.mem_append.1 h with h | h
          · rcases hin7.out k h with h | h
            · exact hGF.out k (List.mem_append_right _ (List.mem_append_left _ h))
            · have := hW2l.out; omega
          · exact hGF.out k (List.mem_append_right _ (List.mem_append_right _ h))
    exact heap_setCell_other _ _ k _ hne
  have hgl : w.heap.size + 2 ≤ gz := Nat.le_trans hz1.out GZ.out
  have R := R2.setOther (a := ⟨gz, 2, none⟩) (by show _ ≠ _; simp; omega) (.slice p6 (x.2.2.1.length + 1) q6)
  have BW := BW6.setCell (p := ⟨gz, 2, none⟩) (by show w.heap.size ≤ gz; omega) (.slice p6 (x.2.2.1.length + 1) q6)
  clear kAll ku kb kd o6 AS R2 BW6 hin7 hGF hIns hFN hW2l hgz
  go_wp2_with (refine wpList_store_row rfl 31 _ _ rfl (w.heap.size + 1) #[.int .i64 0, .int .i64 0, .slice s1 x.1.length t1, .int .i64 x.2.1, .slice p6 (x.2.2.1.length + 1) q6, .slice s4 x.2.2.2.1.length t4, .slice s5 x.2.2.2.2.length t5] rfl rfl 31 #[.int .i64 0, .int .i64 0, .slice none 0 0, .int .i64 0, .slice none 0 0, .slice none 0 0, .slice none 0 0] R hres.out rfl (by simp [Value.oneCell']) ?_)
  exact bodyPost_ret (v := .agg #[.int .i64 0, .int .i64 0, .slice s1 x.1.length t1, .int .i64 x.2.1, .slice p6 (x.2.2.1.length + 1) q6, .slice s4 x.2.2.2.1.length t4, .slice s5 x.2.2.2.2.length t5]) (results_cell_row Tryz.results6 _ _ (w.heap.size + 1) 31 _ (0, 0) _ rfl (R.row [.int .i64 0, .int .i64 0, .slice s1 x.1.length t1, .int .i64 x.2.1, .slice p6 (x.2.2.1.length + 1) q6, .slice s4 x.2.2.2.1.length t4, .slice s5 x.2.2.2.2.length t5]) Tryz.underlying31 rfl hres.out) rfl ⟨_, _, rfl, by rw [HC.out]; exact sesR_own (sessionC.low (sessionC.rowS k8 (by have := hz1.out; omega) _) (by have := hz1.out; omega)), Below.row BW (Nat.le_succ _) _⟩
end Go.Proofs.YtbaldmmbphbinaaGreatDoor

