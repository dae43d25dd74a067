/- The contract of finished values in the program: impl.FinishOf at every argument: code and bytes, where the two tables hold what the program's text lays (Tabs). What was there stays. -/
import Derived.Test.YtiabacnmmojfjabGreatDoorJoint22
import Derived.Test.YtiabacnmmojfjabGreatDoorKeyI
import Derived.Test.YtiabacnmmojfjabGreatDoorJoint23
import Derived.Test.YtiabacnmmojfjabGreatDoorRows
import Derived.Lib.LaidTab
import Derived.Stop.LaidErr
import Derived.Test.YtiabacnmmojfjabGreatDoorJoint14
import Derived.Test.YtiabacnmmojfjabGreatDoorJoint15
import Derived.Test.YtiabacnmmojfjabGreatDoorJoint13
import Derived.Test.YtiabacnmmojfjabGreatDoorJoint7
import Derived.Test.YtiabacnmmojfjabGreatDoorJoint9
import Derived.Test.YtiabacnmmojfjabGreatDoorSchS
namespace Go.Proofs.YtiabacnmmojfjabGreatDoor
open Go.ChangeShapes Go.WideShapes Go.ChangeAt Go.RowKit

set_option maxRecDepth 4000 in
set_option maxHeartbeats 1000000 in
theorem implFn_c (p p2 : Option Addr) (q q2 : Nat) (key digest : List UInt8) (w : World) (hr : Rd w p q key) (hr2 : Rd w p2 q2 digest) (hT : Tabs w) :
    Calls Tryz.prog 181 #[.slice p key.length q, .slice p2 digest.length q2] w fun e w' => ∃ u, e = .returned (.agg #[.int .i64 (fnC key digest), u]) ∧ Own w' w.heap.size u (fnL key digest) ∧ Below w.heap.size w w' := by
  by_cases h1 : key.length = 32
  · have d1 : ((key.length : Int) != 32) = false := by rw [bne_eq_false_iff_eq]; omega
    by_cases h2 : digest.length = 32
    · have d2 : ((digest.length : Int) != 32) = false := by rw [bne_eq_false_iff_eq]; omega
      rw [show fnC key digest = 0 by simp [fnC, h1, h2], show fnL key digest = finN key digest by simp [fnL, h1, h2]]
      have hk : keyB key = true := by simp [keyB, h1]
      have hd : dataB digest = true := by simp [dataB, h2]
      obtain ⟨ek, hek⟩ : ∃ ek, Hid (ek = expLabN key finished [] 32) := ⟨_, rfl⟩
      have HL : Hid (ek.length = 32) := by show _ = _; rw [hek.out, expLabN, expandN_len]
      have K : Hid (∀ w, Rd w p q key → Tabs w → Calls Tryz.prog 197 #[.slice p key.length q, .string ⟨#[102, 105, 110, 105, 115, 104, 101, 100]⟩, .slice none 0 0, .int .i64 32] w fun e w' => ∃ a c, e = .returned (.agg #[.int .i64 0, .slice a 32 c]) ∧ Rd w' a c ek ∧ Below w.heap.size w w') := fun w h h' => by
        have g := implExpL_c p none q 0 key finished [] 32 w h ⟨Nat.le_refl _, by unfold maxLen; decide, fun _ => rfl, fun hp => by simp at hp⟩ (by decide) h'
        have hc : labelC finished [] 32 = 0 := by decide
        rw [← finished_str, show elC key finished [] 32 = 0 by simp [elC, hk, hc], show elL key finished [] 32 = ek by rw [hek.out]; simp [elL, elC, hk, hc]] at g
        refine g.mono ?_
        rintro e w1 ⟨u, rfl, ho, hb⟩
        obtain ⟨a, c, rfl, rd⟩ := ho.rd
        rw [HL.out]
        exact ⟨a, c, rfl, rd, hb⟩
      have KM : Hid (∀ w a c, Rd w a c ek → Rd w p2 q2 digest → Tabs w → Calls Tryz.prog 198 #[.slice a 32 c, .slice p2 digest.length q2] w fun e w' => ∃ u, e = .returned (.agg #[.int .i64 0, u]) ∧ Own w' w.heap.size u (finN key digest) ∧ Below w.heap.size w w') := fun w a c h h' h'' => by
        have g := implMac_c a p2 c q2 ek digest w h h' h''
        have hm : macOk ek digest = true := by have := HL.out; simp [macOk, keyB, hd]; omega
        rw [HL.out, show macC ek digest = 0 by simp [macC, hm], show macL ek digest = finN key digest by rw [finN_eq, ← hek.out]; simp [macL, hm]] at g
        exact g
      have HR : Hid (Rd w p q key) := hr
      have HR2 : Hid (Rd w p2 q2 digest) := hr2
      have HT : Hid (Tabs w) := hT
      clear h1 h2 hr hr2 hT hk hd
      go_enter Tryz.func181, Tryz.ntmps181
      go_wp2_with fail
      refine (K.out _ (HR.out.keep (alloc_below _ _)) (HT.out.keep (alloc_below _ _))).mono ?_
      rintro e w1 ⟨a, cap, rfl, rd1, hb⟩
      have C1 := (Arr.new w [.int .i64 0, .slice none 0 0] 130).stay hb
      have BW := Below.res hb
      have hz : Hid (w.heap.size < w1.heap.size) := size_lt hb
      clear hb
      go_wp2_with fail
      refine (KM.out _ a cap (rd1.keep (alloc_below _ _)) (HR2.out.keep (Below.mk BW _)) (HT.out.keep (Below.mk BW _))).mono ?_
      rintro e w2 ⟨u2, rfl, k2, hb2⟩
      obtain ⟨a2, cap2, rfl, -⟩ := k2.rd
      rw [size_alloc] at k2
      replace C1 := (C1.old _ (.cells #[.int .i64 0, .slice a 32 cap] 130)).stay hb2
      replace hz : Hid (w.heap.size < w1.heap.size + 1) := Nat.lt_succ_of_lt hz.out
      replace BW := Below.mk BW (.cells #[.int .i64 0, .slice a 32 cap] 130)
      replace BW := Below.step BW hb2
      have c0 := C1.cell 0
      have c1 := C1.cell 1
      simp at c0 c1
      have fz := C1.frozen
      clear hb2 rd1
      go_wp2
      refine bodyPost_ret (v := .agg #[.int .i64 0, .slice a2 (finN key digest).length cap2]) (by simp [results, Tryz.results181, go_sem, c0, c1]) rfl ⟨_, rfl, ?_, (BW.setCell (Nat.le_refl _) _).setCell (Nat.le_refl _) _⟩
      exact ((k2.set hz.out _).set hz.out _).lower (Nat.le_of_lt hz.out)
    · have d2 : ((digest.length : Int) != 32) = true := by rw [bne_iff_ne]; omega
      rw [show fnC key digest = 1 by simp [fnC, h2], show fnL key digest = [] by simp [fnL, h2]]
      clear h1 h2
      go_enter Tryz.func181, Tryz.ntmps181
      go_wp2
      exact bodyPost_ret (v := .agg #[.int .i64 1, .slice none 0 0]) (by simp [results, Tryz.results181, go_sem]) rfl ⟨_, rfl, Own_nil _ _, alloc_below _ _⟩
  · have d1 : ((key.length : Int) != 32) = true := by rw [bne_iff_ne]; omega
    rw [show fnC key digest = 1 by simp [fnC, h1], show fnL key digest = [] by simp [fnL, h1]]
    clear h1
    go_enter Tryz.func181, Tryz.ntmps181
    go_wp2
    exact bodyPost_ret (v := .agg #[.int .i64 1, .slice none 0 0]) (by simp [results, Tryz.results181, go_sem]) rfl ⟨_, rfl, Own_nil _ _, alloc_below _ _⟩
end Go.Proofs.YtiabacnmmojfjabGreatDoor

/- What the rows' list of package-level variables gives: the two tables of the digest hold what the program's text lays (Tabs). -/
namespace Go.Proofs.YtiabacnmmojfjabGreatDoor
open Go.RowKit

theorem gStart : Tryz.prog.globalNamed "loop.example/g00375/impl.digestStart" = some 0 := by kernel_rfl
theorem gKeys : Tryz.prog.globalNamed "loop.example/g00375/impl.roundKeys" = some 1 := by kernel_rfl
theorem gStartT : (Tryz.prog.globals[0]?).map (·.type) = some 196 := by kernel_rfl
theorem gKeysT : (Tryz.prog.globals[1]?).map (·.type) = some 212 := by kernel_rfl
theorem cellsU : Tryz.prog.cellsOf 194 = 1 := by kernel_rfl
theorem cellsE : Tryz.prog.cellsOf 196 = 8 := by kernel_rfl
theorem cellsK : Tryz.prog.cellsOf 212 = 64 := by kernel_rfl

theorem heap_of_tab {P : Program} {w : World} {name : String} {k : IntKind} {zs : List Int} {g : Nat} (h : Lib.TabIs P w name k zs) (hg : P.globalNamed name = some g) :
    ∃ t fr, w.heap[g]? = some (.cells (zs.map fun z => Value.int k z).toArray t fr) := by
  unfold Lib.TabIs World.var? at h
  rw [hg, Option.bind_some] at h
  split at h
  · rename_i cs t fr e
    rw [Option.some.inj h] at e
    exact ⟨t, fr, e⟩
  · cases h
theorem u32_list (l : List Nat) : (l.map Int.ofNat).map (fun z => Value.int .u32 z) = l.map u32v := by simp [u32v]

theorem tabs_of {W : World} (h : laidMet Tryz.prog [("loop.example/g00375/impl.digestStart", Rows.laid_loop_example_g00375_impl_digestStart), ("loop.example/g00375/impl.roundKeys", Rows.laid_loop_example_g00375_impl_roundKeys)] W) : Tabs W := by
  have h1 := heap_of_tab (Lib.tabIs_of_head (k := .u32) (zs := startN.list.map Int.ofNat) gStart gStartT Tryz.underlying196 Tryz.underlying194 cellsU cellsE h) gStart
  have h2 := heap_of_tab (Lib.tabIs_of_head (k := .u32) (zs := keysN.map Int.ofNat) gKeys gKeysT Tryz.underlying212 Tryz.underlying194 cellsU cellsK h.tail) gKeys
  rw [u32_list] at h1 h2
  exact ⟨h1, h2⟩
end Go.Proofs.YtiabacnmmojfjabGreatDoor

/- TranscriptOf, FinishedMsg, CheckFinished of the program, at every argument, where the two tables hold what the program's text lays (Tabs). What was there stays. -/
namespace Go.Proofs.YtiabacnmmojfjabGreatDoor
open Go.ChangeShapes Go.WideShapes Go.ChangeAt Go.RowKit

set_option maxRecDepth 4000 in
set_option maxHeartbeats 1000000 in
theorem implTr_c (l : List MsgD) (p : Option Addr) (q : Nat) (w : World) (hr : RdL msgC w p q l) (hT : Tabs w) :
    Calls Tryz.prog 109 #[.slice p l.length q] w fun e w' => ∃ u, e = .returned (.agg #[.int .i64 (psC l), u]) ∧ Own w' w.heap.size u (trL l) ∧ Below w.heap.size w w' := by
  have BW := alloc_below w (.cells #[.int .i64 0, .slice none 0 0] 130)
  have R := Arr.new w [.int .i64 0, .slice none 0 0] 130
  have hz0 : Hid ((w.alloc (.cells #[.int .i64 0, .slice none 0 0] 130)).heap.size = w.heap.size + 1) := size_alloc _ _
  have KP := implPS_c l p q _ (hr.keep BW)
  have HT : Hid (Tabs w) := hT
  clear hr hT
  by_cases hc : psC l = 0
  · have hpl : psL l = packAll l := by rw [psL, if_pos hc]
    have H600 : Hid ((packAll l).length ≤ 600) := (psC_zero hc).2.2
    rw [hc, hpl] at KP
    rw [hc, show trL l = digestN (packAll l) by rw [trL, if_pos hc]]
    clear hc hpl
    generalize packAll l = bs at *
    go_enter Tryz.func109, Tryz.ntmps109
    go_wp2_with fail
    refine KP.mono ?_
    rintro e w1 ⟨u1, rfl, k1, hb1⟩
    obtain ⟨a1, c1, rfl, -⟩ := k1.rd
    have hl := alloc_below w1 (.cells #[.int .i64 0, .slice a1 bs.length c1] 130)
    replace R := (R.stay hb1).stay hl
    replace BW := Below.step (Below.step BW hb1) hl
    replace k1 := k1.stay hl
    have hz2 : Hid (w.heap.size + 1 ≤ (w1.alloc (.cells #[.int .i64 0, .slice a1 bs.length c1] 130)).heap.size) := by have h := (Below.step hb1 hl).size; rw [hz0.out] at h; exact h
    have KD := implDg_c a1 c1 bs _ (Rd.own k1) (HT.out.keep BW)
    rw [show dgCode bs = 0 by simp [dgCode, H600.out], show dgList bs = digestN bs by simp [dgList, H600.out]] at KD
    clear hb1 hl KP
    go_wp2_with fail
    refine KD.mono ?_
    rintro e w2 ⟨u2, rfl, k2, hb2⟩
    obtain ⟨a2, c2, rfl, -⟩ := k2.rd
    replace k2 := k2.lower hz2.out
    replace R := R.stay hb2
    replace BW := Below.step BW hb2
    have t0 := (R.cell 0).trans (show _ = some _ from rfl)
    have t1 := (R.cell 1).trans (show _ = some _ from rfl)
    have ft := R.frozen
    clear R hb2 KD
    go_wp2_with fail
    exact bodyPost_ret (v := .agg #[.int .i64 0, .slice a2 (digestN bs).length c2]) (by simp [results, Tryz.results109, go_sem, t0, t1]) rfl ⟨_, rfl, ((k2.set (Nat.lt_succ_self _) _).set (Nat.lt_succ_self _) _).lower (Nat.le_succ _), (BW.setCell (Nat.le_refl _) _).setCell (Nat.le_refl _) _⟩
  · have hd : (psC l != 0) = true := by rw [bne_iff_ne]; exact hc
    rw [show trL l = [] by rw [trL, if_neg hc]]
    rw [show psL l = [] by rw [psL, if_neg hc]] at KP
    clear hc
    generalize psC l = ac at *
    go_enter Tryz.func109, Tryz.ntmps109
    go_wp2_with fail
    refine KP.mono ?_
    rintro e w1 ⟨u1, rfl, k1, hb1⟩
    obtain ⟨a1, c1, rfl, -⟩ := k1.rd
    rw [hz0.out] at k1
    have hl := alloc_below w1 (.cells #[.int .i64 ac, .slice a1 ([] : List UInt8).length c1] 130)
    replace R := (R.stay hb1).stay hl
    replace BW := Below.step (Below.step BW hb1) hl
    replace k1 := k1.stay hl
    have t0 := (R.cell 0).trans (show _ = some _ from rfl)
    have t1 := (R.cell 1).trans (show _ = some _ from rfl)
    have ft := R.frozen
    clear R hb1 hl KP
    simp only [List.length_nil] at k1 BW t0 t1 ft ⊢
    go_wp2_with fail
    exact bodyPost_ret (v := .agg #[.int .i64 ac, .slice a1 0 c1]) (by simp [results, Tryz.results109, go_sem, t0, t1]) rfl ⟨_, rfl, ((k1.set (Nat.lt_succ_self _) _).set (Nat.lt_succ_self _) _).lower (Nat.le_succ _), (BW.setCell (Nat.le_refl _) _).setCell (Nat.le_refl _) _⟩
theorem implTr_k (l : List MsgD) (u : Value) (w : World) (h : msgsC.rep w l [u]) (hT : Tabs w) :
    Calls Tryz.prog 109 #[u] w fun e w' => ∃ us fp, e = .returned (.agg us.toArray) ∧ bytesResultC.own w' w.heap.size (psC l, trL l) us fp ∧ Below w.heap.size w w' := by
  obtain ⟨p, q, e1, r⟩ := h
  simp only [List.cons.injEq, and_true] at e1
  subst e1
  exact (implTr_c l p q w r hT).mono fun _ _ ⟨_, h1, h2, h3⟩ => ⟨_, _, h1, bytR_own h2, h3⟩
set_option maxRecDepth 4000 in
set_option maxHeartbeats 1000000 in
theorem implFm_c (s : List UInt8) (l : List MsgD) (p p2 : Option Addr) (q q2 : Nat) (w : World) (hs : Rd w p q s) (hr : RdL msgC w p2 q2 l) (hT : Tabs w) :
    Calls Tryz.prog 154 #[.slice p s.length q, .slice p2 l.length q2] w fun e w' => ∃ u, e = .returned (.agg #[.int .i64 (fmD s l).1, .int .i64 (fmD s l).2.1, u]) ∧ Own w' w.heap.size u (fmD s l).2.2 ∧ Below w.heap.size w w' := by
  have BW := alloc_below w (.cells #[.int .i64 0, .int .i64 0, .slice none 0 0] 112)
  have R := Arr.new w [.int .i64 0, .int .i64 0, .slice none 0 0] 112
  have hz0 : Hid ((w.alloc (.cells #[.int .i64 0, .int .i64 0, .slice none 0 0] 112)).heap.size = w.heap.size + 1) := size_alloc _ _
  have HS : Hid (Rd w p q s) := hs
  have KT := implTr_c l p2 q2 _ (hr.keep BW) (hT.keep BW)
  have HT : Hid (Tabs w) := hT
  clear hs hr hT
  cases h1 : is32 s
  · rw [fmD_bad (s := s) (l := l) (by rw [fmC, h1]; simp), show fmC s l = 1 by rw [fmC, h1]; rfl]
    clear KT
    go_enter Tryz.func154, Tryz.ntmps154
    go_wp2_with fail
    refine (isKeyR_c p q s _).mono ?_
    rintro e w1 ⟨rfl, hw⟩
    subst w1
    rw [h1]
    go_wp2_with fail
    exact bodyPost_ret (v := .agg #[.int .i64 1, .int .i64 0, .slice none 0 0]) (by simp [results, Tryz.results154, go_sem]) rfl ⟨_, rfl, Own_nil _ _, alloc_below _ _⟩
  · have h32 : s.length = 32 := by simpa [is32] using h1
    have HF : Hid (fmC s l = psC l) := by show _ = _; rw [fmC, h1]; rfl
    by_cases hc : psC l = 0
    · rw [fmD_ok (s := s) (l := l) (by rw [HF.out]; exact hc)]
      rw [hc, show trL l = digestN (packAll l) by rw [trL, if_pos hc]] at KT
      have HD : Hid ((digestN (packAll l)).length = 32) := digestN_len _
      rw [show fmL s l = finN s (digestN (packAll l)) from rfl]
      have H32 : Hid (s.length = 32) := h32
      clear hc h32 HF
      generalize digestN (packAll l) = dg at *
      have HFN : Hid (fnC s dg = 0 ∧ fnL s dg = finN s dg) := by
        have h := And.intro H32.out HD.out
        exact ⟨by rw [fnC, if_pos h], by rw [fnL, if_pos h]⟩
      go_enter Tryz.func154, Tryz.ntmps154
      go_wp2_with fail
      refine (isKeyR_c p q s _).mono ?_
      rintro e w1 ⟨rfl, hw⟩
      subst w1
      rw [h1]
      go_wp2_with fail
      refine KT.mono ?_
      rintro e w1 ⟨u1, rfl, k1, hb1⟩
      obtain ⟨a1, c1, rfl, -⟩ := k1.rd
      have hl := alloc_below w1 (.cells #[.int .i64 0, .slice a1 dg.length c1] 130)
      replace R := (R.stay hb1).stay hl
      replace BW := Below.step (Below.step BW hb1) hl
      replace k1 := k1.stay hl
      have hz2 : Hid (w.heap.size + 1 ≤ (w1.alloc (.cells #[.int .i64 0, .slice a1 dg.length c1] 130)).heap.size) := by have h := (Below.step hb1 hl).size; rw [hz0.out] at h; exact h
      have KF := implFn_c p a1 q c1 s dg _ (HS.out.keep BW) (Rd.own k1) (HT.out.keep BW)
      rw [HFN.out.1, HFN.out.2] at KF
      clear hb1 hl KT
      go_wp2_with fail
      refine KF.mono ?_
      rintro e w2 ⟨u2, rfl, k2, hb2⟩
      obtain ⟨a2, c2, rfl, -⟩ := k2.rd
      replace k2 := k2.lower hz2.out
      have hl2 := alloc_below w2 (.cells #[.int .i64 0, .slice a2 (finN s dg).length c2] 130)
      replace k2 := k2.stay hl2
      replace R := (R.stay hb2).stay hl2
      replace BW := Below.step (Below.step BW hb2) hl2
      have t0 := (R.cell 0).trans (show _ = some _ from rfl)
      have t1 := (R.cell 1).trans (show _ = some _ from rfl)
      have t2 := (R.cell 2).trans (show _ = some _ from rfl)
      have ft := R.frozen
      clear R hb2 hl2 k1 KF
      go_wp2_with fail
      exact bodyPost_ret (v := .agg #[.int .i64 0, .int .i64 20, .slice a2 (finN s dg).length c2]) (by simp [results, Tryz.results154, go_sem, t0, t1, t2]) rfl ⟨_, rfl, (((k2.set (Nat.lt_succ_self _) _).set (Nat.lt_succ_self _) _).set (Nat.lt_succ_self _) _).lower (Nat.le_succ _), (((BW.setCell (Nat.le_refl _) _).setCell (Nat.le_refl _) _).setCell (Nat.le_refl _) _)⟩
    · have hd : (psC l != 0) = true := by rw [bne_iff_ne]; exact hc
      rw [fmD_bad (s := s) (l := l) (by rw [HF.out]; exact hc), HF.out]
      clear hc h32 HF
      generalize psC l = ac at *
      go_enter Tryz.func154, Tryz.ntmps154
      go_wp2_with fail
      refine (isKeyR_c p q s _).mono ?_
      rintro e w1 ⟨rfl, hw⟩
      subst w1
      rw [h1]
      go_wp2_with fail
      refine KT.mono ?_
      rintro e w1 ⟨u1, rfl, k1, hb1⟩
      obtain ⟨a1, c1, rfl, -⟩ := k1.rd
      have hl := alloc_below w1 (.cells #[.int .i64 ac, .slice a1 (trL l).length c1] 130)
      replace R := (R.stay hb1).stay hl
      replace BW := Below.step (Below.step BW hb1) hl
      have t0 := (R.cell 0).trans (show _ = some _ from rfl)
      have t1 := (R.cell 1).trans (show _ = some _ from rfl)
      have t2 := (R.cell 2).trans (show _ = some _ from rfl)
      have ft := R.frozen
      clear R hb1 hl k1 KT
      go_wp2_with fail
      exact bodyPost_ret (v := .agg #[.int .i64 ac, .int .i64 0, .slice none 0 0]) (by simp [results, Tryz.results154, go_sem, t0, t1, t2]) rfl ⟨_, rfl, Own_nil _ _, (((BW.setCell (Nat.le_refl _) _).setCell (Nat.le_refl _) _).setCell (Nat.le_refl _) _)⟩
theorem implFm_kk (s : List UInt8) (l : List MsgD) (u v : Value) (w : World) (h1 : bytC.rep w s [u]) (h2 : msgsC.rep w l [v]) (hT : Tabs w) :
    Calls Tryz.prog 154 #[u, v] w fun e w' => ∃ us fp, e = .returned (.agg us.toArray) ∧ msgResultC.own w' w.heap.size (fmD s l) us fp ∧ Below w.heap.size w w' := by
  obtain ⟨p, q, e1, r⟩ := h1
  obtain ⟨p2, q2, e2, r2⟩ := h2
  simp only [List.cons.injEq, and_true] at e1 e2
  subst e1 e2
  exact (implFm_c s l p p2 q q2 w r r2 hT).mono fun _ _ ⟨_, h1, h2, h3⟩ => ⟨_, _, h1, msgR_ownF h2, h3⟩
set_option maxRecDepth 4000 in
set_option maxHeartbeats 1000000 in
theorem implCf_c (s : List UInt8) (l : List MsgD) (m : MsgD) (p p2 p3 : Option Addr) (q q2 q3 : Nat) (w : World) (hs : Rd w p q s) (hr : RdL msgC w p2 q2 l) (hm : Rd w p3 q3 m.2) (hT : Tabs w) :
    Calls Tryz.prog 151 #[.slice p s.length q, .slice p2 l.length q2, .agg #[.int .i64 m.1, .slice p3 m.2.length q3]] w fun e w' => e = .returned (.int .i64 (cfC s l m)) ∧ Below w.heap.size w w' := by
  have BW := alloc_below w (.cells #[.int .i64 m.1, .slice p3 m.2.length q3] 53)
  have A := Arr.new w [.int .i64 m.1, .slice p3 m.2.length q3] 53
  have KM := implFm_c s l p p2 q q2 _ (hs.keep BW) (hr.keep BW) (hT.keep BW)
  have HM : Hid (Rd w p3 q3 m.2) := hm
  have KF := implMF_n m.1 m.2.length q3 p3
  clear hs hr hm hT
  suffices H : ∀ Q : Ending → World → Prop, Hid (∀ c w', c = cfC s l m → Below w.heap.size w w' → Q (.returned (.int .i64 c)) w') → Calls Tryz.prog 151 #[.slice p s.length q, .slice p2 l.length q2, .agg #[.int .i64 m.1, .slice p3 m.2.length q3]] w Q from H _ (show Hid _ from fun c w' hc hb => ⟨by rw [hc], hb⟩)
  intro Q HQ
  by_cases hf : fmC s l = 0
  · have hcf : Hid (cfC s l m = if faultW m.1 m.2.length = 0 then (if m.1 = 20 then (if m.2 = fmL s l then 0 else 7) else 1) else faultW m.1 m.2.length) := by show _ = _; rw [cfC, if_pos hf]
    rw [fmD_ok hf] at KM
    clear hf
    generalize fmL s l = fl at *
    by_cases hc : faultW m.1 m.2.length = 0
    · have KF2 : Hid (∀ w, Calls Tryz.prog 140 #[.agg #[.int .i64 m.1, .slice p3 m.2.length q3]] w fun e w' => e = .returned (.int .i64 0) ∧ Below w.heap.size w w') := fun w => by have h := KF w; rw [hc] at h; exact h
      replace hcf : Hid (cfC s l m = (if m.1 = 20 then (if m.2 = fl then 0 else 7) else 1)) := by show _ = _; rw [hcf.out, if_pos hc]
      clear hc KF
      go_enter Tryz.func151, Tryz.ntmps151
      go_wp2_with fail
      refine KM.mono ?_
      rintro e w1 ⟨u1, rfl, k1, hb1⟩
      obtain ⟨a1, c1, rfl, -⟩ := k1.rd
      have hl := alloc_below w1 (.cells #[.int .i64 0, .int .i64 20, .slice a1 fl.length c1] 112)
      have N := Arr.new w1 [.int .i64 0, .int .i64 20, .slice a1 fl.length c1] 112
      replace A := (A.stay hb1).stay hl
      replace BW := Below.step (Below.step BW hb1) hl
      replace k1 := k1.stay hl
      have b0 := (A.cell 0).trans (show _ = some _ from rfl)
      have b1 := (A.cell 1).trans (show _ = some _ from rfl)
      clear hb1 hl KM
      go_wp2_with fail
      refine (KF2.out _).mono ?_
      rintro e w2 ⟨rfl, hb2⟩
      replace A := A.stay hb2
      replace N := N.stay hb2
      replace BW := Below.step BW hb2
      replace k1 := k1.stay hb2
      replace b0 := (A.cell 0).trans (show _ = some _ from rfl)
      replace b1 := (A.cell 1).trans (show _ = some _ from rfl)
      have n2 := (N.cell 2).trans (show _ = some _ from rfl)
      clear hb2
      by_cases hk : m.1 = 20
      · have dk : (m.1 != 20) = false := by rw [bne_eq_false_iff_eq]; exact hk
        replace hcf : Hid (cfC s l m = (if m.2 = fl then 0 else 7)) := by show _ = _; rw [hcf.out, if_pos hk]
        clear hk
        go_wp2_with fail
        refine (implSame_c p3 a1 q3 c1 m.2 fl _ (HM.out.keep BW) (Rd.own k1)).mono ?_
        rintro e w3 ⟨rfl, hb3⟩
        replace BW := Below.step BW hb3
        clear hb3
        by_cases he : m.2 = fl
        · rw [show sameB m.2 fl = true by simp [sameB, he]]
          replace hcf : Hid (cfC s l m = 0) := by show _ = _; rw [hcf.out, if_pos he]
          clear he
          go_wp2
          exact HQ.out _ _ hcf.out.symm BW
        · rw [show sameB m.2 fl = false by simp [sameB, he]]
          replace hcf : Hid (cfC s l m = 7) := by show _ = _; rw [hcf.out, if_neg he]
          clear he
          go_wp2
          exact HQ.out _ _ hcf.out.symm BW
      · have dk : (m.1 != 20) = true := by rw [bne_iff_ne]; exact hk
        replace hcf : Hid (cfC s l m = 1) := by show _ = _; rw [hcf.out, if_neg hk]
        clear hk
        go_wp2
        exact HQ.out _ _ hcf.out.symm BW
    · have hd : (faultW m.1 m.2.length != 0) = true := by rw [bne_iff_ne]; exact hc
      replace hcf : Hid (cfC s l m = faultW m.1 m.2.length) := by show _ = _; rw [hcf.out, if_neg hc]
      have KF2 : Hid (∀ w, Calls Tryz.prog 140 #[.agg #[.int .i64 m.1, .slice p3 m.2.length q3]] w fun e w' => e = .returned (.int .i64 (faultW m.1 m.2.length)) ∧ Below w.heap.size w w') := KF
      clear hc KF
      generalize faultW m.1 m.2.length = ac at *
      go_enter Tryz.func151, Tryz.ntmps151
      go_wp2_with fail
      refine KM.mono ?_
      rintro e w1 ⟨u1, rfl, k1, hb1⟩
      obtain ⟨a1, c1, rfl, -⟩ := k1.rd
      have hl := alloc_below w1 (.cells #[.int .i64 0, .int .i64 20, .slice a1 fl.length c1] 112)
      replace A := (A.stay hb1).stay hl
      replace BW := Below.step (Below.step BW hb1) hl
      have b0 := (A.cell 0).trans (show _ = some _ from rfl)
      have b1 := (A.cell 1).trans (show _ = some _ from rfl)
      clear hb1 hl KM k1
      go_wp2_with fail
      refine (KF2.out _).mono ?_
      rintro e w2 ⟨rfl, hb2⟩
      replace BW := Below.step BW hb2
      clear hb2
      go_wp2
      exact HQ.out _ _ hcf.out.symm BW
  · have hd : (fmC s l != 0) = true := by rw [bne_iff_ne]; exact hf
    have hcf : Hid (cfC s l m = fmC s l) := by show _ = _; rw [cfC, if_neg hf]
    rw [fmD_bad hf] at KM
    clear hf
    generalize fmC s l = ac at *
    go_enter Tryz.func151, Tryz.ntmps151
    go_wp2_with fail
    refine KM.mono ?_
    rintro e w1 ⟨u1, rfl, k1, hb1⟩
    obtain ⟨a1, c1, rfl, -⟩ := k1.rd
    have hl := alloc_below w1 (.cells #[.int .i64 ac, .int .i64 0, .slice a1 0 c1] 112)
    replace BW := Below.step (Below.step BW hb1) hl
    clear hb1 hl KM A
    go_wp2
    exact HQ.out _ _ hcf.out.symm BW
theorem implCf_kk (s : List UInt8) (l : List MsgD) (m : MsgD) (u v : Value) (us : List Value) (w : World) (h1 : bytC.rep w s [u]) (h2 : msgsC.rep w l [v]) (h3 : msgC.rep w m us) (hT : Tabs w) :
    Calls Tryz.prog 151 #[u, v, .agg us.toArray] w fun e w' => e = .returned (.int .i64 (cfC s l m)) ∧ Below w.heap.size w w' := by
  obtain ⟨p, q, e1, r⟩ := h1
  obtain ⟨p2, q2, e2, r2⟩ := h2
  obtain ⟨p3, q3, rfl, r3⟩ := msg_rep h3
  simp only [List.cons.injEq, and_true] at e1 e2
  subst e1 e2
  exact implCf_c s l m p p2 p3 q q2 q3 w r r2 r3 hT
end Go.Proofs.YtiabacnmmojfjabGreatDoor

/- How SecretsResult lies in memory, and the contracts of the laws' helpers on it (written by tools/codgen.py). -/
namespace Go.Proofs.YtiabacnmmojfjabGreatDoor
open Go.ChangeShapes Go.WideShapes Go.ChangeAt Go.RowKit

abbrev SecretsResultD := Int × SecretsD
def secretsResultC : Cod SecretsResultD := prodC (intC .i64) secretsC
theorem secretsResult_rep {w : World} {a : SecretsResultD} {vs : List Value} (h : secretsResultC.rep w a vs) : ∃ p2_1 q2_1 p2_2 q2_2 p2_3 q2_3 p2_4 q2_4, vs = [.int .i64 a.1, .slice p2_1 a.2.1.length q2_1, .slice p2_2 a.2.2.1.length q2_2, .slice p2_3 a.2.2.2.1.length q2_3, .slice p2_4 a.2.2.2.2.length q2_4] ∧ Rd w p2_1 q2_1 a.2.1 ∧ Rd w p2_2 q2_2 a.2.2.1 ∧ Rd w p2_3 q2_3 a.2.2.2.1 ∧ Rd w p2_4 q2_4 a.2.2.2.2 := by
  obtain ⟨us0, ts0, rfl, h0, h1⟩ := h
  have e0 : us0 = [Value.int .i64 _] := h0
  subst e0
  obtain ⟨p2_1, q2_1, p2_2, q2_2, p2_3, q2_3, p2_4, q2_4, rfl, r2_1, r2_2, r2_3, r2_4⟩ := secrets_rep h1
  exact ⟨p2_1, q2_1, p2_2, q2_2, p2_3, q2_3, p2_4, q2_4, rfl, r2_1, r2_2, r2_3, r2_4⟩
theorem secretsResult_mk {w : World} {a : SecretsResultD} {p2_1 : Option Addr} {q2_1 : Nat} {p2_2 : Option Addr} {q2_2 : Nat} {p2_3 : Option Addr} {q2_3 : Nat} {p2_4 : Option Addr} {q2_4 : Nat} (r2_1 : Rd w p2_1 q2_1 a.2.1) (r2_2 : Rd w p2_2 q2_2 a.2.2.1) (r2_3 : Rd w p2_3 q2_3 a.2.2.2.1) (r2_4 : Rd w p2_4 q2_4 a.2.2.2.2) : secretsResultC.rep w a [.int .i64 a.1, .slice p2_1 a.2.1.length q2_1, .slice p2_2 a.2.2.1.length q2_2, .slice p2_3 a.2.2.2.1.length q2_3, .slice p2_4 a.2.2.2.2.length q2_4] := ⟨[.int .i64 a.1], _, rfl, rfl, (secrets_mk r2_1 r2_2 r2_3 r2_4)⟩
def secretsResultT (a : SecretsResultD) : Nat := secretsT a.2
def secretsResultM (a : SecretsResultD) (m : Nat) : SecretsResultD := (a.1, secretsM a.2 m)

def secretsResultN (a : SecretsResultD) : Nat := secretsN a.2
theorem secretsResultT_le (a : SecretsResultD) : secretsResultT a ≤ 8 * secretsResultN a := by
  have h1 := secretsT_le a.2
  unfold secretsResultT secretsResultN
  omega






end Go.Proofs.YtiabacnmmojfjabGreatDoor

/- The contract of SecretsOf in the specification, its answer as one datum (SecretsResultC). -/
namespace Go.Proofs.YtiabacnmmojfjabGreatDoor
open Go.ChangeShapes Go.WideShapes Go.ChangeAt Go.RowKit

def scD (master digest : List UInt8) : SecretsResultD := (scC master digest, scL master digest cApB, scL master digest sApB, scL master digest expMB, scL master digest resMB)
theorem scD_small (master digest : List UInt8) : secretsResultT (scD master digest) ≤ 128 := by
  have h1 := scL_len master digest cApB
  have h2 := scL_len master digest sApB
  have h3 := scL_len master digest expMB
  have h4 := scL_len master digest resMB
  show (scL master digest cApB).length + (scL master digest sApB).length + (scL master digest expMB).length + (scL master digest resMB).length ≤ 128
  omega
/-- Four rows of one's own, all apart, behind a code: one datum. -/
theorem secretsResult_of {w : World} {B : Nat} {a : SecretsResultD} {u1 u2 u3 u4 : Value} (o1 : Own w B u1 a.2.1) (o2 : Own w B u2 a.2.2.1) (o3 : Own w B u3 a.2.2.2.1) (o4 : Own w B u4 a.2.2.2.2) (hn : (u1.ownBlock.toList ++ (u2.ownBlock.toList ++ (u3.ownBlock.toList ++ u4.ownBlock.toList))).Nodup) :
    secretsResultC.own w B a [.int .i64 a.1, u1, u2, u3, u4] (u1.ownBlock.toList ++ (u2.ownBlock.toList ++ (u3.ownBlock.toList ++ u4.ownBlock.toList))) := by
  have h2 := (List.nodup_append.1 hn).2.1
  have h3 := (List.nodup_append.1 h2).2.1
  exact ⟨[.int .i64 a.1], [u1, u2, u3, u4], [], _, rfl, rfl, hn, ⟨rfl, rfl⟩, ⟨[u1], [u2, u3, u4], _, _, rfl, rfl, hn, ⟨u1, rfl, o1, rfl⟩, ⟨[u2], [u3, u4], _, _, rfl, rfl, h2, ⟨u2, rfl, o2, rfl⟩, ⟨[u3], [u4], _, _, rfl, rfl, h3, ⟨u3, rfl, o3, rfl⟩, ⟨u4, rfl, o4, rfl⟩⟩⟩⟩⟩
end Go.Proofs.YtiabacnmmojfjabGreatDoor

