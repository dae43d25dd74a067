/- UnpackHello of the program, at every argument. What was there stays. -/
import Derived.Test.YtpbkncliepkhaaaHelR
namespace Go.Proofs.Ytpbkncliepkhaaa
open Go.ChangeShapes Go.WideShapes Go.ChangeAt Go.RowKit

set_option maxRecDepth 4000 in
set_option maxHeartbeats 2000000 in
theorem implUh_k (k : Int) (m : MsgD) (us : List Value) (w : World) (r : msgC.rep w m us) :
    Calls Try.prog 9 #[.int .i64 k, .agg us.toArray] w fun e w' => ∃ us fp, e = .returned (.agg us.toArray) ∧ helloResultC.own w' w.heap.size (uhD k m) us fp ∧ Below w.heap.size w w' := by
  obtain ⟨p, q, rfl, rr⟩ := msg_rep r
  have HR : Hid (Rd w p q m.2) := rr
  clear rr r
  have BW := Below.mk (alloc_below w (.cells #[.int .i64 m.1, .slice p m.2.length q] 25)) (.cells #[.int .i64 0, .slice none 0 0, .int .i64 0, .int .i64 0] 31)
  have A := (Arr.new w [.int .i64 m.1, .slice p m.2.length q] 25).old _ (.cells #[.int .i64 0, .slice none 0 0, .int .i64 0, .int .i64 0] 31)
  have R := Arr.new (w.alloc (.cells #[.int .i64 m.1, .slice p m.2.length q] 25)) [.int .i64 0, .slice none 0 0, .int .i64 0, .int .i64 0] 31
  rw [size_alloc] at R
  have HBad : Hid (∀ c, uhC k m = c → c ≠ 0 → uhD k m = (c, zeroH)) := fun c h1 h2 => by rw [uhD, h1, if_neg h2]
  cases hk : hkB k
  · rw [HBad.out 3 (by rw [uhC, hk]; rfl) (by decide)]
    go_enter Try.func9, Try.ntmps9
    go_wp2_with fail
    refine (isHelloKind_c _ _).mono ?_
    rintro e w1 ⟨rfl, hw⟩
    subst w1
    rw [hk]
    go_wp2
    exact bodyPost_ret (v := .agg #[.int .i64 3, .slice none 0 0, .int .i64 0, .int .i64 0]) (by simp [results, Try.results9, go_sem]) rfl ⟨[_, _, _, _], _, rfl, helloR_own (Own_nil _ _), Below.mk (alloc_below _ _) _⟩
  · have KF := implMF_n m.1 m.2.length q p
    by_cases hf : faultW m.1 m.2.length = 0
    · have h160 : m.2.length ≤ 160 := (faultW_zero hf).2
      have HUF : Hid (uhC k m = if m.1 = k then (if (huR m.2).isSome then 0 else 5) else 1) := by show _ = _; rw [uhC, hk, if_pos rfl, if_pos hf]
      have KF2 : Hid (∀ w, Calls Try.prog 17 #[.agg #[.int .i64 m.1, .slice p m.2.length q]] w fun e w' => e = .returned (.int .i64 0) ∧ Below w.heap.size w w') := fun w => by have h := KF w; rw [hf] at h; exact h
      have H160 : Hid (m.2.length ≤ 160) := h160
      clear hf KF h160
      by_cases hmk : m.1 = k
      · have HUF2 : Hid (uhC k m = if (huR m.2).isSome then 0 else 5) := by show _ = _; rw [HUF.out, if_pos hmk]
        clear HUF
        subst hmk
        cases hu : huR m.2 with
        | none =>
          rw [HBad.out 5 (by rw [HUF2.out, hu]; rfl) (by decide)]
          go_enter Try.func9, Try.ntmps9
          go_wp2_with fail
          refine (isHelloKind_c _ _).mono ?_
          rintro e w1 ⟨rfl, hw⟩
          subst w1
          rw [hk]
          go_wp2_with fail
          refine (KF2.out _).mono ?_
          rintro e w1 ⟨rfl, hb1⟩
          replace BW := Below.step BW hb1
          replace A := A.stay hb1
          replace R := R.stay hb1
          clear hb1
          have c0 := (A.cell 0).trans (show _ = some _ from rfl)
          have c1 := (A.cell 1).trans (show _ = some _ from rfl)
          go_wp2_with fail
          refine (readHello_c p q m.2 _ (HR.out.keep BW)).mono ?_
          rintro e w2 ⟨pu, nu, qu, s, kk, rfl, -, hb2⟩
          rw [hu, show (decide (m.2.length ≤ 160) && (none : Option HelloD).isSome) = false by simp]
          have hb3 := alloc_below w2 (.cells #[.slice pu nu qu, .int .i64 s, .int .i64 kk] 71)
          replace BW := Below.step (Below.step BW hb2) hb3
          replace R := (R.stay hb2).stay hb3
          clear hb2 hb3 c0 c1 A
          have t0 := (R.cell 0).trans (show _ = some _ from rfl)
          have t1 := (R.cell 1).trans (show _ = some _ from rfl)
          have t2 := (R.cell 2).trans (show _ = some _ from rfl)
          have t3 := (R.cell 3).trans (show _ = some _ from rfl)
          have ft := R.frozen
          clear R
          go_wp2_with fail
          exact bodyPost_ret (v := .agg #[.int .i64 5, .slice none 0 0, .int .i64 0, .int .i64 0]) (by simp [results, Try.results9, go_sem, t0, t1, t2, t3]) rfl ⟨[_, _, _, _], _, rfl, helloR_own (Own_nil _ _), (((BW.setCell (by show w.heap.size ≤ w.heap.size + 1; omega) _).setCell (by show w.heap.size ≤ w.heap.size + 1; omega) _).setCell (by show w.heap.size ≤ w.heap.size + 1; omega) _).setCell (by show w.heap.size ≤ w.heap.size + 1; omega) _⟩
        | some h =>
          have HUD : Hid (uhD m.1 m = (0, h)) := by
            have e : uhC m.1 m = 0 := by rw [HUF2.out, hu]; rfl
            show _ = _
            rw [uhD, e, if_pos rfl, hu]
            rfl
          have HL8 : Hid (h.1.length = 8) := (hf_parts (huR_back hu).1).1
          have HU : Hid (huR m.2 = some h) := hu
          rw [HUD.out]
          go_enter Try.func9, Try.ntmps9
          go_wp2_with fail
          refine (isHelloKind_c _ _).mono ?_
          rintro e w1 ⟨rfl, hw⟩
          subst w1
          rw [hk]
          go_wp2_with fail
          refine (KF2.out _).mono ?_
          rintro e w1 ⟨rfl, hb1⟩
          replace BW := Below.step BW hb1
          replace A := A.stay hb1
          replace R := R.stay hb1
          clear hb1
          have c0 := (A.cell 0).trans (show _ = some _ from rfl)
          have c1 := (A.cell 1).trans (show _ = some _ from rfl)
          go_wp2_with fail
          refine (readHello_c p q m.2 _ (HR.out.keep BW)).mono ?_
          rintro e w2 ⟨pu, nu, qu, s, kk, rfl, hval, hb2⟩
          obtain ⟨ru, rfl, rfl, rfl⟩ := hval h H160.out HU.out
          rw [hu, show (decide (m.2.length ≤ 160) && (some h : Option HelloD).isSome) = true by simp [H160.out]]
          have N := Arr.new w2 [.slice pu h.1.length qu, .int .i64 h.2.1, .int .i64 h.2.2] 71
          have hb3 := alloc_below w2 (.cells #[.slice pu h.1.length qu, .int .i64 h.2.1, .int .i64 h.2.2] 71)
          replace BW := Below.step (Below.step BW hb2) hb3
          replace R := (R.stay hb2).stay hb3
          have RU := ru.keep hb3
          clear hb2 hb3 c0 c1 A hval ru hu
          have hz : Hid (w.heap.size + 2 ≤ (w2.alloc (.cells #[.slice pu h.1.length qu, .int .i64 h.2.1, .int .i64 h.2.2] 71)).heap.size) := R.lt
          go_wp2_with fail
          refine (helloTold_c h pu qu _ RU (by have := HL8.out; omega)).mono ?_
          rintro e w3 ⟨u3, rfl, k3, hb3⟩
          replace BW := Below.step BW hb3
          replace R := R.stay hb3
          obtain ⟨a3, cc3, rfl, -⟩ := k3.rd
          replace k3 := k3.lower hz.out
          clear hb3 N RU
          have t0 := (R.cell 0).trans (show _ = some _ from rfl)
          have t1 := (R.cell 1).trans (show _ = some _ from rfl)
          have t2 := (R.cell 2).trans (show _ = some _ from rfl)
          have t3 := (R.cell 3).trans (show _ = some _ from rfl)
          have ft := R.frozen
          clear R
          go_wp2_with fail
          exact bodyPost_ret (v := .agg #[.int .i64 0, .slice a3 h.1.length cc3, .int .i64 h.2.1, .int .i64 h.2.2]) (by simp [results, Try.results9, go_sem, t0, t1, t2, t3]) rfl ⟨[_, _, _, _], _, rfl, helloR_own (((((k3.set (Nat.lt_succ_self _) _).set (Nat.lt_succ_self _) _).set (Nat.lt_succ_self _) _).set (Nat.lt_succ_self _) _).lower (by omega)), (((BW.setCell (by show w.heap.size ≤ w.heap.size + 1; omega) _).setCell (by show w.heap.size ≤ w.heap.size + 1; omega) _).setCell (by show w.heap.size ≤ w.heap.size + 1; omega) _).setCell (by show w.heap.size ≤ w.heap.size + 1; omega) _⟩
      · have dk : (m.1 != k) = true := by rw [bne_iff_ne]; exact hmk
        rw [HBad.out 1 (by rw [HUF.out, if_neg hmk]) (by decide)]
        clear hmk HUF
        go_enter Try.func9, Try.ntmps9
        go_wp2_with fail
        refine (isHelloKind_c _ _).mono ?_
        rintro e w1 ⟨rfl, hw⟩
        subst w1
        rw [hk]
        go_wp2_with fail
        refine (KF2.out _).mono ?_
        rintro e w1 ⟨rfl, hb1⟩
        replace BW := Below.step BW hb1
        replace A := A.stay hb1
        replace R := R.stay hb1
        clear hb1
        have c0 := (A.cell 0).trans (show _ = some _ from rfl)
        have c1 := (A.cell 1).trans (show _ = some _ from rfl)
        have t0 := (R.cell 0).trans (show _ = some _ from rfl)
        have t1 := (R.cell 1).trans (show _ = some _ from rfl)
        have t2 := (R.cell 2).trans (show _ = some _ from rfl)
        have t3 := (R.cell 3).trans (show _ = some _ from rfl)
        have ft := R.frozen
        clear R A
        go_wp2_with fail
        exact bodyPost_ret (v := .agg #[.int .i64 1, .slice none 0 0, .int .i64 0, .int .i64 0]) (by simp [results, Try.results9, go_sem, t0, t1, t2, t3]) rfl ⟨[_, _, _, _], _, rfl, helloR_own (Own_nil _ _), (((BW.setCell (by show w.heap.size ≤ w.heap.size + 1; omega) _).setCell (by show w.heap.size ≤ w.heap.size + 1; omega) _).setCell (by show w.heap.size ≤ w.heap.size + 1; omega) _).setCell (by show w.heap.size ≤ w.heap.size + 1; omega) _⟩
    · have hd : (faultW m.1 m.2.length != 0) = true := by rw [bne_iff_ne]; exact hf
      rw [HBad.out (faultW m.1 m.2.length) (by rw [uhC, hk, if_pos rfl, if_neg hf]) hf]
      clear hf
      have KF2 : Hid (∀ w, Calls Try.prog 17 #[.agg #[.int .i64 m.1, .slice p m.2.length q]] w fun e w' => e = .returned (.int .i64 (faultW m.1 m.2.length)) ∧ Below w.heap.size w w') := KF
      clear KF HBad
      generalize faultW m.1 m.2.length = cc at *
      go_enter Try.func9, Try.ntmps9
      go_wp2_with fail
      refine (isHelloKind_c _ _).mono ?_
      rintro e w1 ⟨rfl, hw⟩
      subst w1
      rw [hk]
      go_wp2_with fail
      refine (KF2.out _).mono ?_
      rintro e w1 ⟨rfl, hb1⟩
      replace BW := Below.step BW hb1
      replace R := R.stay hb1
      clear hb1
      have t0 := (R.cell 0).trans (show _ = some _ from rfl)
      have t1 := (R.cell 1).trans (show _ = some _ from rfl)
      have t2 := (R.cell 2).trans (show _ = some _ from rfl)
      have t3 := (R.cell 3).trans (show _ = some _ from rfl)
      have ft := R.frozen
      clear R A
      go_wp2_with fail
      exact bodyPost_ret (v := .agg #[.int .i64 cc, .slice none 0 0, .int .i64 0, .int .i64 0]) (by simp [results, Try.results9, go_sem, t0, t1, t2, t3]) rfl ⟨[_, _, _, _], _, rfl, helloR_own (Own_nil _ _), (((BW.setCell (by show w.heap.size ≤ w.heap.size + 1; omega) _).setCell (by show w.heap.size ≤ w.heap.size + 1; omega) _).setCell (by show w.heap.size ≤ w.heap.size + 1; omega) _).setCell (by show w.heap.size ≤ w.heap.size + 1; omega) _⟩
end Go.Proofs.Ytpbkncliepkhaaa

