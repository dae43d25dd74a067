/- UnpackHello of the specification, at every argument. What was there stays. -/
import Derived.Test.YtpbkncliepkhaaaHelU
namespace Go.Proofs.Ytpbkncliepkhaaa
open Go.ChangeShapes Go.WideShapes Go.ChangeAt Go.RowKit

theorem helloR_own {w : World} {B : Nat} {c : Int} {h : HelloD} {u : Value} (k : Own w B u h.1) : helloResultC.own w B (c, h) [.int .i64 c, u, .int .i64 h.2.1, .int .i64 h.2.2] ([] ++ (u.ownBlock.toList ++ ([] ++ []))) :=
  own_pair 0 own_int (hello_own k) lt_nil (fun _ _ => Nat.zero_le _)
set_option maxRecDepth 4000 in
set_option maxHeartbeats 1000000 in
theorem specUh_k (k : Int) (m : MsgD) (us : List Value) (w : World) (r : msgC.rep w m us) :
    Calls Try.prog 10 #[.int .i64 k, .agg us.toArray] w fun e w' => ∃ us fp, e = .returned (.agg us.toArray) ∧ helloResultC.own w' w.heap.size (uhD k m) us fp ∧ Below w.heap.size w w' := by
  obtain ⟨p, q, rfl, rr⟩ := msg_rep r
  have HR : Hid (Rd w p q m.2) := rr
  have hq1 : m.2.length ≤ q := rr.1
  have hq2 : q ≤ 2 ^ 63 - 1 := rr.2.1
  have BW := Below.mk (alloc_below w (.cells #[.int .i64 m.1, .slice p m.2.length q] 25)) (.cells #[.int .i64 0, .slice none 0 0, .int .i64 0, .int .i64 0] 31)
  have A := (Arr.new w [.int .i64 m.1, .slice p m.2.length q] 25).old _ (.cells #[.int .i64 0, .slice none 0 0, .int .i64 0, .int .i64 0] 31)
  have R := Arr.new (w.alloc (.cells #[.int .i64 m.1, .slice p m.2.length q] 25)) [.int .i64 0, .slice none 0 0, .int .i64 0, .int .i64 0] 31
  rw [size_alloc] at R
  clear r rr
  have KF := l6Fault_c w.heap.size 0 m.2.length q p m.1 _ ((A.cell 0).trans (show _ = some _ from rfl)) ((A.cell 1).trans (show _ = some _ from rfl))
  cases hk : hkB k
  · have HE : Hid (uhD k m = (3, zeroH)) := by show _ = _; unfold uhD uhC; simp [hk]
    go_enter Try.func10, Try.ntmps10
    go_wp2_with fail
    refine (l10Kind_c k _).mono ?_
    rintro e w1 ⟨rfl, hw⟩
    subst w1
    rw [hk]
    clear R A
    go_wp2_with fail
    exact bodyPost_ret (v := .agg #[.int .i64 3, .slice none 0 0, .int .i64 0, .int .i64 0]) (by simp [results, Try.results10, go_sem]) rfl ⟨[.int .i64 3, .slice none 0 0, .int .i64 0, .int .i64 0], _, rfl, by rw [HE.out]; exact helloR_own (h := zeroH) (Own_nil _ _), Below.mk (alloc_below _ _) _⟩
  · by_cases hc : faultW m.1 m.2.length = 0
    · rw [hc] at KF
      have hm160 := (faultW_zero hc).2
      by_cases hmk : m.1 = k
      · have dk : (m.1 != k) = false := by rw [bne_eq_false_iff_eq]; exact hmk
        have KU := l10Unpack_c p q m.2 _ (HR.out.keep BW) (by omega)
        have hz : Hid (((w.alloc (.cells #[.int .i64 m.1, .slice p m.2.length q] 25)).alloc (.cells #[.int .i64 0, .slice none 0 0, .int .i64 0, .int .i64 0] 31)).heap.size = w.heap.size + 2) := by show _ = _; rw [size_alloc, size_alloc]
        rw [hz.out] at KU
        have a0 := (A.cell 0).trans (show _ = some _ from rfl)
        have a1 := (A.cell 1).trans (show _ = some _ from rfl)
        have HEN : Hid ((huR m.2).isSome = false → uhD k m = (5, zeroH)) := fun h => by have e : uhC k m = 5 := (by unfold uhC; rw [hk, if_pos rfl, if_pos hc, if_pos hmk, h]; rfl); unfold uhD; rw [e]; rfl
        have HES : Hid ((huR m.2).isSome = true → uhD k m = (0, (huR m.2).getD zeroH)) := fun h => by have e : uhC k m = 0 := (by unfold uhC; rw [hk, if_pos rfl, if_pos hc, if_pos hmk, h]; rfl); unfold uhD; rw [e]; rfl
        clear hc hmk
        go_enter Try.func10, Try.ntmps10
        go_wp2_with fail
        refine (l10Kind_c k _).mono ?_
        rintro e w1 ⟨rfl, hw⟩
        subst w1
        rw [hk]
        go_wp2_with fail
        refine KF.mono ?_
        rintro e w1 ⟨rfl, hw⟩
        subst w1
        go_wp2_with fail
        refine KU.mono ?_
        rintro e w2 ⟨u2, s2, k2, rfl, hO, ⟨pu, nu, qu, rfl⟩, hb2⟩
        rw [← hz.out] at hb2
        replace R := R.stay hb2
        replace BW := Below.step BW hb2
        have hz2 : Hid (w.heap.size + 2 ≤ w2.heap.size) := by have h := hb2.size; rw [hz.out] at h; exact h
        have L := alloc_below w2 (.cells #[.slice pu nu qu, .int .i64 s2, .int .i64 k2] 29)
        replace R := R.stay L
        replace BW := Below.step BW L
        cases hs : (huR m.2).isSome
        · have HE : Hid (uhD k m = (5, zeroH)) := HEN.out hs
          rw [hs] at *
          clear hO hb2 HEN HES KU KF a0 a1
          have c0 := (R.cell 0).trans (show _ = some _ from rfl)
          have c1 := (R.cell 1).trans (show _ = some _ from rfl)
          have c2 := (R.cell 2).trans (show _ = some _ from rfl)
          have c3 := (R.cell 3).trans (show _ = some _ from rfl)
          have fc := R.frozen
          clear R A
          go_wp2_with fail
          exact bodyPost_ret (v := .agg #[.int .i64 5, .slice none 0 0, .int .i64 0, .int .i64 0]) (by simp [results, Try.results10, go_sem, c0, c1, c2, c3]) rfl ⟨[.int .i64 5, .slice none 0 0, .int .i64 0, .int .i64 0], _, rfl, by rw [HE.out]; exact helloR_own (h := zeroH) (Own_nil _ _), ((((BW.setCell (Nat.le_succ _) _).setCell (Nat.le_succ _) _).setCell (Nat.le_succ _) _).setCell (Nat.le_succ _) _)⟩
        · have HE : Hid (uhD k m = (0, (huR m.2).getD zeroH)) := HES.out hs
          obtain ⟨hO1, rfl, rfl⟩ := hO hs
          rw [hs] at *
          have HO : Hid (Own _ (w.heap.size + 2) (.slice pu nu qu) ((huR m.2).getD zeroH).1) := hO1.stay L
          clear hb2 HEN HES KU KF a0 a1 hO1 hO L
          have c0 := (R.cell 0).trans (show _ = some _ from rfl)
          have c1 := (R.cell 1).trans (show _ = some _ from rfl)
          have c2 := (R.cell 2).trans (show _ = some _ from rfl)
          have c3 := (R.cell 3).trans (show _ = some _ from rfl)
          have fc := R.frozen
          clear R A
          go_wp2_with fail
          exact bodyPost_ret (v := .agg #[.int .i64 0, .slice pu nu qu, .int .i64 ((huR m.2).getD zeroH).2.1, .int .i64 ((huR m.2).getD zeroH).2.2]) (by simp [results, Try.results10, go_sem, c0, c1, c2, c3]) rfl ⟨[.int .i64 0, .slice pu nu qu, .int .i64 ((huR m.2).getD zeroH).2.1, .int .i64 ((huR m.2).getD zeroH).2.2], _, rfl, by rw [HE.out]; exact helloR_own (((((HO.out.set (Nat.lt_succ_self _) _).set (Nat.lt_succ_self _) _).set (Nat.lt_succ_self _) _).set (Nat.lt_succ_self _) _).lower (Nat.le_add_right _ 2)), ((((BW.setCell (Nat.le_succ _) _).setCell (Nat.le_succ _) _).setCell (Nat.le_succ _) _).setCell (Nat.le_succ _) _)⟩
      · have dk : (m.1 != k) = true := by rw [bne_iff_ne]; exact hmk
        have HE : Hid (uhD k m = (1, zeroH)) := by show _ = _; unfold uhD uhC; simp [hk, hc, hmk]
        have a0 := (A.cell 0).trans (show _ = some _ from rfl)
        clear hc hmk
        go_enter Try.func10, Try.ntmps10
        go_wp2_with fail
        refine (l10Kind_c k _).mono ?_
        rintro e w1 ⟨rfl, hw⟩
        subst w1
        rw [hk]
        go_wp2_with fail
        refine KF.mono ?_
        rintro e w1 ⟨rfl, hw⟩
        subst w1
        clear R A
        go_wp2_with fail
        exact bodyPost_ret (v := .agg #[.int .i64 1, .slice none 0 0, .int .i64 0, .int .i64 0]) (by simp [results, Try.results10, go_sem]) rfl ⟨[.int .i64 1, .slice none 0 0, .int .i64 0, .int .i64 0], _, rfl, by rw [HE.out]; exact helloR_own (h := zeroH) (Own_nil _ _), Below.mk (alloc_below _ _) _⟩
    · have HE : Hid (uhD k m = (faultW m.1 m.2.length, zeroH)) := by show _ = _; unfold uhD uhC; simp [hk, hc]
      have hne : (faultW m.1 m.2.length != 0) = true := by rw [bne_iff_ne]; exact hc
      clear hc
      generalize faultW m.1 m.2.length = ac at *
      go_enter Try.func10, Try.ntmps10
      go_wp2_with fail
      refine (l10Kind_c k _).mono ?_
      rintro e w1 ⟨rfl, hw⟩
      subst w1
      rw [hk]
      go_wp2_with fail
      refine KF.mono ?_
      rintro e w1 ⟨rfl, hw⟩
      subst w1
      clear R A
      go_wp2_with fail
      exact bodyPost_ret (v := .agg #[.int .i64 ac, .slice none 0 0, .int .i64 0, .int .i64 0]) (by simp [results, Try.results10, go_sem]) rfl ⟨[.int .i64 ac, .slice none 0 0, .int .i64 0, .int .i64 0], _, rfl, by rw [HE.out]; exact helloR_own (h := zeroH) (Own_nil _ _), Below.mk (alloc_below _ _) _⟩
end Go.Proofs.Ytpbkncliepkhaaa

