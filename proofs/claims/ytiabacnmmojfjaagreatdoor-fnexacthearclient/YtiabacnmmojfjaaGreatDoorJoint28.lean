/- What the rows' list of package-level variables gives: the two tables of the digest hold what the program's text lays (Tabs). -/
import Derived.Test.YtiabacnmmojfjaaGreatDoorJoint17
import Derived.Test.YtiabacnmmojfjaaGreatDoorRows
import Derived.Lib.LaidTab
import Derived.Stop.LaidErr
import Derived.Test.YtiabacnmmojfjaaGreatDoorJoint23
import Derived.Test.YtiabacnmmojfjaaGreatDoorJoint27
import Derived.Test.YtiabacnmmojfjaaGreatDoorJoint18
import Derived.Test.YtiabacnmmojfjaaGreatDoorJoint25
import Derived.Test.YtiabacnmmojfjaaGreatDoorJoint7
namespace Go.Proofs.YtiabacnmmojfjaaGreatDoor
open Go.RowKit
theorem gStart : Tryz.prog.globalNamed "loop.example/g00375/impl.digestStart" = some 0 := by kernel_rfl
theorem gKeys : Tryz.prog.globalNamed "loop.example/g00375/impl.roundKeys" = some 1 := by kernel_rfl
theorem gStartT : (Tryz.prog.globals[0]?).map (·.type) = some 207 := by kernel_rfl
theorem gKeysT : (Tryz.prog.globals[1]?).map (·.type) = some 223 := by kernel_rfl
theorem cellsU : Tryz.prog.cellsOf 205 = 1 := by kernel_rfl
theorem cellsE : Tryz.prog.cellsOf 207 = 8 := by kernel_rfl
theorem cellsK : Tryz.prog.cellsOf 223 = 64 := by kernel_rfl
theorem heap_of_tab {P : Program} {w : World} {name : String} {k : IntKind} {zs : List Int} {g : Nat} (h : Lib.TabIs P w name k zs) (hg : P.globalNamed name = some g) :
    ∃ t fr, w.heap[g]? = some (.cells (zs.map fun z => Value.int k z).toArray t fr) := by
  unfold Lib.TabIs World.var? at h
  rw [hg, Option.bind_some] at h
  split at h
  · rename_i cs t fr e
    rw [Option.some.inj h] at e
    exact ⟨t, fr, e⟩
  · cases h
theorem u32_list (l : List Nat) : (l.map Int.ofNat).map (fun z => Value.int .u32 z) = l.map u32v := by simp [u32v]
theorem tabs_of {W : World} (h : laidMet Tryz.prog [("loop.example/g00375/impl.digestStart", Rows.laid_loop_example_g00375_impl_digestStart), ("loop.example/g00375/impl.roundKeys", Rows.laid_loop_example_g00375_impl_roundKeys)] W) : Tabs W := by
  have h1 := heap_of_tab (Lib.tabIs_of_head (k := .u32) (zs := startN.list.map Int.ofNat) gStart gStartT Tryz.underlying207 Tryz.underlying205 cellsU cellsE h) gStart
  have h2 := heap_of_tab (Lib.tabIs_of_head (k := .u32) (zs := keysN.map Int.ofNat) gKeys gKeysT Tryz.underlying223 Tryz.underlying205 cellsU cellsK h.tail) gKeys
  rw [u32_list] at h1 h2
  exact ⟨h1, h2⟩
end Go.Proofs.YtiabacnmmojfjaaGreatDoor
/- The contract of SecretsOf in the program, its answer as one datum (SecretsResultC), where the two tables hold what the program's text lays (Tabs). What was there stays. -/
namespace Go.Proofs.YtiabacnmmojfjaaGreatDoor
open Go.ChangeShapes Go.WideShapes Go.ChangeAt Go.RowKit
end Go.Proofs.YtiabacnmmojfjaaGreatDoor
/- TranscriptOf, FinishedMsg, CheckFinished of the program, at every argument, where the two tables hold what the program's text lays (Tabs). What was there stays. -/
namespace Go.Proofs.YtiabacnmmojfjaaGreatDoor
open Go.ChangeShapes Go.WideShapes Go.ChangeAt Go.RowKit
set_option maxRecDepth 4000 in
set_option maxHeartbeats 1000000 in
theorem implTr_c (l : List MsgD) (p : Option Addr) (q : Nat) (w : World) (hr : RdL msgC w p q l) (hT : Tabs w) :
    Calls Tryz.prog 113 #[.slice p l.length q] w fun e w' => ∃ u, e = .returned (.agg #[.int .i64 (psC l), u]) ∧ Own w' w.heap.size u (trL l) ∧ Below w.heap.size w w' := by
  have BW := alloc_below w (.cells #[.int .i64 0, .slice none 0 0] 129)
  have R := Arr.new w [.int .i64 0, .slice none 0 0] 129
  have hz0 : Hid ((w.alloc (.cells #[.int .i64 0, .slice none 0 0] 129)).heap.size = w.heap.size + 1) := size_alloc _ _
  have KP := implPS_c l p q _ (hr.keep BW)
  have HT : Hid (Tabs w) := hT
  clear hr hT
  by_cases hc : psC l = 0
  · have hpl : psL l = packAll l := by rw [psL, if_pos hc]
    have H600 : Hid ((packAll l).length ≤ 600) := (psC_zero hc).2.2
    rw [hc, hpl] at KP
    rw [hc, show trL l = digestN (packAll l) by rw [trL, if_pos hc]]
    clear hc hpl
    generalize packAll l = bs at *
    go_enter Tryz.func113, Tryz.ntmps113
    go_wp2_with fail
    refine KP.mono ?_
    rintro e w1 ⟨u1, rfl, k1, hb1⟩
    obtain ⟨a1, c1, rfl, -⟩ := k1.rd
    have hl := alloc_below w1 (.cells #[.int .i64 0, .slice a1 bs.length c1] 129)
    replace R := (R.stay hb1).stay hl
    replace BW := Below.step (Below.step BW hb1) hl
    replace k1 := k1.stay hl
    have hz2 : Hid (w.heap.size + 1 ≤ (w1.alloc (.cells #[.int .i64 0, .slice a1 bs.length c1] 129)).heap.size) := by have h := (Below.step hb1 hl).size; rw [hz0.out] at h; exact h
    have KD := implDg_c a1 c1 bs _ (Rd.own k1) (HT.out.keep BW)
    rw [show dgCode bs = 0 by simp [dgCode, H600.out], show dgList bs = digestN bs by simp [dgList, H600.out]] at KD
    clear hb1 hl KP
    go_wp2_with fail
    refine KD.mono ?_
    rintro e w2 ⟨u2, rfl, k2, hb2⟩
    obtain ⟨a2, c2, rfl, -⟩ := k2.rd
    replace k2 := k2.lower hz2.out
    replace R := R.stay hb2
    replace BW := Below.step BW hb2
    have t0 := (R.cell 0).trans (show _ = some _ from rfl)
    have t1 := (R.cell 1).trans (show _ = some _ from rfl)
    have ft := R.frozen
    clear R hb2 KD
    go_wp2_with fail
    exact bodyPost_ret (v := .agg #[.int .i64 0, .slice a2 (digestN bs).length c2]) (by simp [results, Tryz.results113, go_sem, t0, t1]) rfl ⟨_, rfl, ((k2.set (Nat.lt_succ_self _) _).set (Nat.lt_succ_self _) _).lower (Nat.le_succ _), (BW.setCell (Nat.le_refl _) _).setCell (Nat.le_refl _) _⟩
  · have hd : (psC l != 0) = true := by rw [bne_iff_ne]; exact hc
    rw [show trL l = [] by rw [trL, if_neg hc]]
    rw [show psL l = [] by rw [psL, if_neg hc]] at KP
    clear hc
    generalize psC l = ac at *
    go_enter Tryz.func113, Tryz.ntmps113
    go_wp2_with fail
    refine KP.mono ?_
    rintro e w1 ⟨u1, rfl, k1, hb1⟩
    obtain ⟨a1, c1, rfl, -⟩ := k1.rd
    rw [hz0.out] at k1
    have hl := alloc_below w1 (.cells #[.int .i64 ac, .slice a1 ([] : List UInt8).length c1] 129)
    replace R := (R.stay hb1).stay hl
    replace BW := Below.step (Below.step BW hb1) hl
    replace k1 := k1.stay hl
    have t0 := (R.cell 0).trans (show _ = some _ from rfl)
    have t1 := (R.cell 1).trans (show _ = some _ from rfl)
    have ft := R.frozen
    clear R hb1 hl KP
    simp only [List.length_nil] at k1 BW t0 t1 ft ⊢
    go_wp2_with fail
    exact bodyPost_ret (v := .agg #[.int .i64 ac, .slice a1 0 c1]) (by simp [results, Tryz.results113, go_sem, t0, t1]) rfl ⟨_, rfl, ((k1.set (Nat.lt_succ_self _) _).set (Nat.lt_succ_self _) _).lower (Nat.le_succ _), (BW.setCell (Nat.le_refl _) _).setCell (Nat.le_refl _) _⟩
set_option maxRecDepth 4000 in
set_option maxHeartbeats 1000000 in
theorem implFm_c (s : List UInt8) (l : List MsgD) (p p2 : Option Addr) (q q2 : Nat) (w : World) (hs : Rd w p q s) (hr : RdL msgC w p2 q2 l) (hT : Tabs w) :
    Calls Tryz.prog 156 #[.slice p s.length q, .slice p2 l.length q2] w fun e w' => ∃ u, e = .returned (.agg #[.int .i64 (fmD s l).1, .int .i64 (fmD s l).2.1, u]) ∧ Own w' w.heap.size u (fmD s l).2.2 ∧ Below w.heap.size w w' := by
  have BW := alloc_below w (.cells #[.int .i64 0, .int .i64 0, .slice none 0 0] 150)
  have R := Arr.new w [.int .i64 0, .int .i64 0, .slice none 0 0] 150
  have hz0 : Hid ((w.alloc (.cells #[.int .i64 0, .int .i64 0, .slice none 0 0] 150)).heap.size = w.heap.size + 1) := size_alloc _ _
  have HS : Hid (Rd w p q s) := hs
  have KT := implTr_c l p2 q2 _ (hr.keep BW) (hT.keep BW)
  have HT : Hid (Tabs w) := hT
  clear hs hr hT
  cases h1 : is32 s
  · rw [fmD_bad (s := s) (l := l) (by rw [fmC, h1]; simp), show fmC s l = 1 by rw [fmC, h1]; rfl]
    clear KT
    go_enter Tryz.func156, Tryz.ntmps156
    go_wp2_with fail
    refine (isKeyR_c p q s _).mono ?_
    rintro e w1 ⟨rfl, hw⟩
    subst w1
    rw [h1]
    go_wp2_with fail
    exact bodyPost_ret (v := .agg #[.int .i64 1, .int .i64 0, .slice none 0 0]) (by simp [results, Tryz.results156, go_sem]) rfl ⟨_, rfl, Own_nil _ _, alloc_below _ _⟩
  · have h32 : s.length = 32 := by simpa [is32] using h1
    have HF : Hid (fmC s l = psC l) := by show _ = _; rw [fmC, h1]; rfl
    by_cases hc : psC l = 0
    · rw [fmD_ok (s := s) (l := l) (by rw [HF.out]; exact hc)]
      rw [hc, show trL l = digestN (packAll l) by rw [trL, if_pos hc]] at KT
      have HD : Hid ((digestN (packAll l)).length = 32) := digestN_len _
      rw [show fmL s l = finN s (digestN (packAll l)) from rfl]
      have H32 : Hid (s.length = 32) := h32
      clear hc h32 HF
      generalize digestN (packAll l) = dg at *
      have HFN : Hid (fnC s dg = 0 ∧ fnL s dg = finN s dg) := by
        have h := And.intro H32.out HD.out
        exact ⟨by rw [fnC, if_pos h], by rw [fnL, if_pos h]⟩
      go_enter Tryz.func156, Tryz.ntmps156
      go_wp2_with fail
      refine (isKeyR_c p q s _).mono ?_
      rintro e w1 ⟨rfl, hw⟩
      subst w1
      rw [h1]
      go_wp2_with fail
      refine KT.mono ?_
      rintro e w1 ⟨u1, rfl, k1, hb1⟩
      obtain ⟨a1, c1, rfl, -⟩ := k1.rd
      have hl := alloc_below w1 (.cells #[.int .i64 0, .slice a1 dg.length c1] 129)
      replace R := (R.stay hb1).stay hl
      replace BW := Below.step (Below.step BW hb1) hl
      replace k1 := k1.stay hl
      have hz2 : Hid (w.heap.size + 1 ≤ (w1.alloc (.cells #[.int .i64 0, .slice a1 dg.length c1] 129)).heap.size) := by have h := (Below.step hb1 hl).size; rw [hz0.out] at h; exact h
      have KF := implFn_c p a1 q c1 s dg _ (HS.out.keep BW) (Rd.own k1) (HT.out.keep BW)
      rw [HFN.out.1, HFN.out.2] at KF
      clear hb1 hl KT
      go_wp2_with fail
      refine KF.mono ?_
      rintro e w2 ⟨u2, rfl, k2, hb2⟩
      obtain ⟨a2, c2, rfl, -⟩ := k2.rd
      replace k2 := k2.lower hz2.out
      have hl2 := alloc_below w2 (.cells #[.int .i64 0, .slice a2 (finN s dg).length c2] 129)
      replace k2 := k2.stay hl2
      replace R := (R.stay hb2).stay hl2
      replace BW := Below.step (Below.step BW hb2) hl2
      have t0 := (R.cell 0).trans (show _ = some _ from rfl)
      have t1 := (R.cell 1).trans (show _ = some _ from rfl)
      have t2 := (R.cell 2).trans (show _ = some _ from rfl)
      have ft := R.frozen
      clear R hb2 hl2 k1 KF
      go_wp2_with fail
      exact bodyPost_ret (v := .agg #[.int .i64 0, .int .i64 20, .slice a2 (finN s dg).length c2]) (by simp [results, Tryz.results156, go_sem, t0, t1, t2]) rfl ⟨_, rfl, (((k2.set (Nat.lt_succ_self _) _).set (Nat.lt_succ_self _) _).set (Nat.lt_succ_self _) _).lower (Nat.le_succ _), (((BW.setCell (Nat.le_refl _) _).setCell (Nat.le_refl _) _).setCell (Nat.le_refl _) _)⟩
    · have hd : (psC l != 0) = true := by rw [bne_iff_ne]; exact hc
      rw [fmD_bad (s := s) (l := l) (by rw [HF.out]; exact hc), HF.out]
      clear hc h32 HF
      generalize psC l = ac at *
      go_enter Tryz.func156, Tryz.ntmps156
      go_wp2_with fail
      refine (isKeyR_c p q s _).mono ?_
      rintro e w1 ⟨rfl, hw⟩
      subst w1
      rw [h1]
      go_wp2_with fail
      refine KT.mono ?_
      rintro e w1 ⟨u1, rfl, k1, hb1⟩
      obtain ⟨a1, c1, rfl, -⟩ := k1.rd
      have hl := alloc_below w1 (.cells #[.int .i64 ac, .slice a1 (trL l).length c1] 129)
      replace R := (R.stay hb1).stay hl
      replace BW := Below.step (Below.step BW hb1) hl
      have t0 := (R.cell 0).trans (show _ = some _ from rfl)
      have t1 := (R.cell 1).trans (show _ = some _ from rfl)
      have t2 := (R.cell 2).trans (show _ = some _ from rfl)
      have ft := R.frozen
      clear R hb1 hl k1 KT
      go_wp2_with fail
      exact bodyPost_ret (v := .agg #[.int .i64 ac, .int .i64 0, .slice none 0 0]) (by simp [results, Tryz.results156, go_sem, t0, t1, t2]) rfl ⟨_, rfl, Own_nil _ _, (((BW.setCell (Nat.le_refl _) _).setCell (Nat.le_refl _) _).setCell (Nat.le_refl _) _)⟩
end Go.Proofs.YtiabacnmmojfjaaGreatDoor
