/- UnpackHello of the program, at every argument. What was there stays. -/
import Derived.Test.YtdbpnibcblelbaaGreatDoorHelR
import Derived.Test.YtdbpnibcblelbaaGreatDoorJoint21
import Derived.Test.YtdbpnibcblelbaaGreatDoorJoint27
import Derived.Test.YtdbpnibcblelbaaGreatDoorJoint13
import Derived.Test.YtdbpnibcblelbaaGreatDoorJoint22
import Derived.Handy
namespace Go.Proofs.YtdbpnibcblelbaaGreatDoor
open Go.ChangeShapes Go.WideShapes Go.ChangeAt Go.RowKit
set_option maxRecDepth 4000 in
set_option maxHeartbeats 2000000 in
theorem implUh_k (k : Int) (m : MsgD) (us : List Value) (w : World) (r : msgC.rep w m us) :
    Calls Tryz.prog 212 #[.int .i64 k, .agg us.toArray] w fun e w' => ∃ us fp, e = .returned (.agg us.toArray) ∧ helloResultC.own w' w.heap.size (uhD k m) us fp ∧ Below w.heap.size w w' := by
  obtain ⟨p, q, rfl, rr⟩ := msg_rep r
  have HR : Hid (Rd w p q m.2) := rr
  clear rr r
  have BW := Below.mk (alloc_below w (.cells #[.int .i64 m.1, .slice p m.2.length q] 82)) (.cells #[.int .i64 0, .slice none 0 0, .int .i64 0, .int .i64 0] 252)
  have A := (Arr.new w [.int .i64 m.1, .slice p m.2.length q] 82).old _ (.cells #[.int .i64 0, .slice none 0 0, .int .i64 0, .int .i64 0] 252)
  have R := Arr.new (w.alloc (.cells #[.int .i64 m.1, .slice p m.2.length q] 82)) [.int .i64 0, .slice none 0 0, .int .i64 0, .int .i64 0] 252
  rw [size_alloc] at R
  have HBad : Hid (∀ c, uhC k m = c → c ≠ 0 → uhD k m = (c, zeroH)) := fun c h1 h2 => by rw [uhD, h1, if_neg h2]
  cases hk : hkB k
  · rw [HBad.out 3 (by rw [uhC, hk]; rfl) (by decide)]
    go_enter Tryz.func212, Tryz.ntmps212
    go_wp2_with fail
    refine (isHelloKind_c _ _).mono ?_
    rintro e w1 ⟨rfl, hw⟩
    subst w1
    rw [hk]
    go_wp2
    exact bodyPost_ret (v := .agg #[.int .i64 3, .slice none 0 0, .int .i64 0, .int .i64 0]) (by simp [results, Tryz.results212, go_sem]) rfl ⟨[_, _, _, _], _, rfl, helloR_own (Own_nil _ _), Below.mk (alloc_below _ _) _⟩
  · have KF := implMF_n m.1 m.2.length q p
    by_cases hf : faultW m.1 m.2.length = 0
    · have h160 : m.2.length ≤ 160 := (faultW_zero hf).2
      have HUF : Hid (uhC k m = if m.1 = k then (if (huR m.2).isSome then 0 else 5) else 1) := by show _ = _; rw [uhC, hk, if_pos rfl, if_pos hf]
      have KF2 : Hid (∀ w, Calls Tryz.prog 219 #[.agg #[.int .i64 m.1, .slice p m.2.length q]] w fun e w' => e = .returned (.int .i64 0) ∧ Below w.heap.size w w') := fun w => by have h := KF w; rw [hf] at h; exact h
      have H160 : Hid (m.2.length ≤ 160) := h160
      clear hf KF h160
      by_cases hmk : m.1 = k
      · have HUF2 : Hid (uhC k m = if (huR m.2).isSome then 0 else 5) := by show _ = _; rw [HUF.out, if_pos hmk]
        clear HUF
        subst hmk
        cases hu : huR m.2 with
        | none =>
          rw [HBad.out 5 (by rw [HUF2.out, hu]; rfl) (by decide)]
          go_enter Tryz.func212, Tryz.ntmps212
          go_wp2_with fail
          refine (isHelloKind_c _ _).mono ?_
          rintro e w1 ⟨rfl, hw⟩
          subst w1
          rw [hk]
          go_wp2_with fail
          refine (KF2.out _).mono ?_
          rintro e w1 ⟨rfl, hb1⟩
          replace BW := Below.step BW hb1
          replace A := A.stay hb1
          replace R := R.stay hb1
          clear hb1
          have c0 := (A.cell 0).trans (show _ = some _ from rfl)
          have c1 := (A.cell 1).trans (show _ = some _ from rfl)
          go_wp2_with fail
          refine (readHello_c p q m.2 _ (HR.out.keep BW)).mono ?_
          rintro e w2 ⟨pu, nu, qu, s, kk, rfl, -, hb2⟩
          rw [hu, show (decide (m.2.length ≤ 160) && (none : Option HelloD).isSome) = false by simp]
          have hb3 := alloc_below w2 (.cells #[.slice pu nu qu, .int .i64 s, .int .i64 kk] 294)
          replace BW := Below.step (Below.step BW hb2) hb3
          replace R := (R.stay hb2).stay hb3
          clear hb2 hb3 c0 c1 A
          have t0 := (R.cell 0).trans (show _ = some _ from rfl)
          have t1 := (R.cell 1).trans (show _ = some _ from rfl)
          have t2 := (R.cell 2).trans (show _ = some _ from rfl)
          have t3 := (R.cell 3).trans (show _ = some _ from rfl)
          have ft := R.frozen
          clear R
          go_wp2_with fail
          exact bodyPost_ret (v := .agg #[.int .i64 5, .slice none 0 0, .int .i64 0, .int .i64 0]) (by simp [results, Tryz.results212, go_sem, t0, t1, t2, t3]) rfl ⟨[_, _, _, _], _, rfl, helloR_own (Own_nil _ _), (((BW.setCell (by show w.heap.size ≤ w.heap.size + 1; omega) _).setCell (by show w.heap.size ≤ w.heap.size + 1; omega) _).setCell (by show w.heap.size ≤ w.heap.size + 1; omega) _).setCell (by show w.heap.size ≤ w.heap.size + 1; omega) _⟩
        | some h =>
          have HUD : Hid (uhD m.1 m = (0, h)) := by
            have e : uhC m.1 m = 0 := by rw [HUF2.out, hu]; rfl
            show _ = _
            rw [uhD, e, if_pos rfl, hu]
            rfl
          have HL8 : Hid (h.1.length = 8) := (hf_parts (huR_back hu).1).1
          have HU : Hid (huR m.2 = some h) := hu
          rw [HUD.out]
          go_enter Tryz.func212, Tryz.ntmps212
          go_wp2_with fail
          refine (isHelloKind_c _ _).mono ?_
          rintro e w1 ⟨rfl, hw⟩
          subst w1
          rw [hk]
          go_wp2_with fail
          refine (KF2.out _).mono ?_
          rintro e w1 ⟨rfl, hb1⟩
          replace BW := Below.step BW hb1
          replace A := A.stay hb1
          replace R := R.stay hb1
          clear hb1
          have c0 := (A.cell 0).trans (show _ = some _ from rfl)
          have c1 := (A.cell 1).trans (show _ = some _ from rfl)
          go_wp2_with fail
          refine (readHello_c p q m.2 _ (HR.out.keep BW)).mono ?_
          rintro e w2 ⟨pu, nu, qu, s, kk, rfl, hval, hb2⟩
          obtain ⟨ru, rfl, rfl, rfl⟩ := hval h H160.out HU.out
          rw [hu, show (decide (m.2.length ≤ 160) && (some h : Option HelloD).isSome) = true by simp [H160.out]]
          have N := Arr.new w2 [.slice pu h.1.length qu, .int .i64 h.2.1, .int .i64 h.2.2] 294
          have hb3 := alloc_below w2 (.cells #[.slice pu h.1.length qu, .int .i64 h.2.1, .int .i64 h.2.2] 294)
          replace BW := Below.step (Below.step BW hb2) hb3
          replace R := (R.stay hb2).stay hb3
          have RU := ru.keep hb3
          clear hb2 hb3 c0 c1 A hval ru hu
          have hz : Hid (w.heap.size + 2 ≤ (w2.alloc (.cells #[.slice pu h.1.length qu, .int .i64 h.2.1, .int .i64 h.2.2] 294)).heap.size) := R.lt
          go_wp2_with fail
          refine (helloTold_c h pu qu _ RU (by have := HL8.out; omega)).mono ?_
          rintro e w3 ⟨u3, rfl, k3, hb3⟩
          replace BW := Below.step BW hb3
          replace R := R.stay hb3
          obtain ⟨a3, cc3, rfl, -⟩ := k3.rd
          replace k3 := k3.lower hz.out
          clear hb3 N RU
          have t0 := (R.cell 0).trans (show _ = some _ from rfl)
          have t1 := (R.cell 1).trans (show _ = some _ from rfl)
          have t2 := (R.cell 2).trans (show _ = some _ from rfl)
          have t3 := (R.cell 3).trans (show _ = some _ from rfl)
          have ft := R.frozen
          clear R
          go_wp2_with fail
          exact bodyPost_ret (v := .agg #[.int .i64 0, .slice a3 h.1.length cc3, .int .i64 h.2.1, .int .i64 h.2.2]) (by simp [results, Tryz.results212, go_sem, t0, t1, t2, t3]) rfl ⟨[_, _, _, _], _, rfl, helloR_own (((((k3.set (Nat.lt_succ_self _) _).set (Nat.lt_succ_self _) _).set (Nat.lt_succ_self _) _).set (Nat.lt_succ_self _) _).lower (by omega)), (((BW.setCell (by show w.heap.size ≤ w.heap.size + 1; omega) _).setCell (by show w.heap.size ≤ w.heap.size + 1; omega) _).setCell (by show w.heap.size ≤ w.heap.size + 1; omega) _).setCell (by show w.heap.size ≤ w.heap.size + 1; omega) _⟩
      · have dk : (m.1 != k) = true := by rw [bne_iff_ne]; exact hmk
        rw [HBad.out 1 (by rw [HUF.out, if_neg hmk]) (by decide)]
        clear hmk HUF
        go_enter Tryz.func212, Tryz.ntmps212
        go_wp2_with fail
        refine (isHelloKind_c _ _).mono ?_
        rintro e w1 ⟨rfl, hw⟩
        subst w1
        rw [hk]
        go_wp2_with fail
        refine (KF2.out _).mono ?_
        rintro e w1 ⟨rfl, hb1⟩
        replace BW := Below.step BW hb1
        replace A := A.stay hb1
        replace R := R.stay hb1
        clear hb1
        have c0 := (A.cell 0).trans (show _ = some _ from rfl)
        have c1 := (A.cell 1).trans (show _ = some _ from rfl)
        have t0 := (R.cell 0).trans (show _ = some _ from rfl)
        have t1 := (R.cell 1).trans (show _ = some _ from rfl)
        have t2 := (R.cell 2).trans (show _ = some _ from rfl)
        have t3 := (R.cell 3).trans (show _ = some _ from rfl)
        have ft := R.frozen
        clear R A
        go_wp2_with fail
        exact bodyPost_ret (v := .agg #[.int .i64 1, .slice none 0 0, .int .i64 0, .int .i64 0]) (by simp [results, Tryz.results212, go_sem, t0, t1, t2, t3]) rfl ⟨[_, _, _, _], _, rfl, helloR_own (Own_nil _ _), (((BW.setCell (by show w.heap.size ≤ w.heap.size + 1; omega) _).setCell (by show w.heap.size ≤ w.heap.size + 1; omega) _).setCell (by show w.heap.size ≤ w.heap.size + 1; omega) _).setCell (by show w.heap.size ≤ w.heap.size + 1; omega) _⟩
    · have hd : (faultW m.1 m.2.length != 0) = true := by rw [bne_iff_ne]; exact hf
      rw [HBad.out (faultW m.1 m.2.length) (by rw [uhC, hk, if_pos rfl, if_neg hf]) hf]
      clear hf
      have KF2 : Hid (∀ w, Calls Tryz.prog 219 #[.agg #[.int .i64 m.1, .slice p m.2.length q]] w fun e w' => e = .returned (.int .i64 (faultW m.1 m.2.length)) ∧ Below w.heap.size w w') := KF
      clear KF HBad
      generalize faultW m.1 m.2.length = cc at *
      go_enter Tryz.func212, Tryz.ntmps212
      go_wp2_with fail
      refine (isHelloKind_c _ _).mono ?_
      rintro e w1 ⟨rfl, hw⟩
      subst w1
      rw [hk]
      go_wp2_with fail
      refine (KF2.out _).mono ?_
      rintro e w1 ⟨rfl, hb1⟩
      replace BW := Below.step BW hb1
      replace R := R.stay hb1
      clear hb1
      have t0 := (R.cell 0).trans (show _ = some _ from rfl)
      have t1 := (R.cell 1).trans (show _ = some _ from rfl)
      have t2 := (R.cell 2).trans (show _ = some _ from rfl)
      have t3 := (R.cell 3).trans (show _ = some _ from rfl)
      have ft := R.frozen
      clear R A
      go_wp2_with fail
      exact bodyPost_ret (v := .agg #[.int .i64 cc, .slice none 0 0, .int .i64 0, .int .i64 0]) (by simp [results, Tryz.results212, go_sem, t0, t1, t2, t3]) rfl ⟨[_, _, _, _], _, rfl, helloR_own (Own_nil _ _), (((BW.setCell (by show w.heap.size ≤ w.heap.size + 1; omega) _).setCell (by show w.heap.size ≤ w.heap.size + 1; omega) _).setCell (by show w.heap.size ≤ w.heap.size + 1; omega) _).setCell (by show w.heap.size ≤ w.heap.size + 1; omega) _⟩
end Go.Proofs.YtdbpnibcblelbaaGreatDoor
/- The functions of chapter 9 in the program that read no table: StreamFault, roomFault, isRecordKind, sendFault, isRecord, ownStream, readContent, at every argument. What was there stays. -/
namespace Go.Proofs.YtdbpnibcblelbaaGreatDoor
open Go.ChangeShapes Go.WideShapes Go.ChangeAt Go.RowKit
theorem rd_nix (w : World) : Rd w none 0 [] := ⟨Nat.le_refl _, by unfold maxLen; decide, fun _ => rfl, fun hp => by simp at hp⟩
set_option maxRecDepth 4000 in
set_option maxHeartbeats 1000000 in
theorem streamFault_c (x : StreamD) (p : Option Addr) (q : Nat) (w : World) : Calls Tryz.prog 114 #[.agg #[.slice p x.1.length q, .int .i64 x.2.1, .int .i64 x.2.2]] w fun e w' => e = .returned (.int .i64 (stC x)) ∧ Below w.heap.size w w' := by
  cases h1 : is32 x.1
  · rw [show stC x = 1 by simp [stC, h1]]
    go_enter Tryz.func114, Tryz.ntmps114
    go_wp2_with fail
    refine (isKeyR_c p q x.1 _).mono ?_
    rintro e w' ⟨rfl, hw⟩
    subst hw
    rw [h1]
    go_wp2
    go_ret
    exact ⟨rfl, alloc_below _ _⟩
  · by_cases s0 : x.2.1 < 0
    · rw [show stC x = 3 by simp [stC, h1, inB]; omega]
      go_enter Tryz.func114, Tryz.ntmps114
      go_wp2_with fail
      refine (isKeyR_c p q x.1 _).mono ?_
      rintro e w' ⟨rfl, hw⟩
      subst hw
      rw [h1]
      go_wp2
      go_ret
      exact ⟨rfl, alloc_below _ _⟩
    · by_cases s1 : 200 < x.2.1
      · rw [show stC x = 3 by simp [stC, h1, inB]; omega]
        go_enter Tryz.func114, Tryz.ntmps114
        go_wp2_with fail
        refine (isKeyR_c p q x.1 _).mono ?_
        rintro e w' ⟨rfl, hw⟩
        subst hw
        rw [h1]
        go_wp2
        go_ret
        exact ⟨rfl, alloc_below _ _⟩
      · by_cases s2 : x.2.2 < 0
        · rw [show stC x = 3 by simp [stC, h1, inB]; omega]
          go_enter Tryz.func114, Tryz.ntmps114
          go_wp2_with fail
          refine (isKeyR_c p q x.1 _).mono ?_
          rintro e w' ⟨rfl, hw⟩
          subst hw
          rw [h1]
          go_wp2
          go_ret
          exact ⟨rfl, alloc_below _ _⟩
        · by_cases s3 : 99 < x.2.2
          · rw [show stC x = 3 by simp [stC, h1, inB]; omega]
            go_enter Tryz.func114, Tryz.ntmps114
            go_wp2_with fail
            refine (isKeyR_c p q x.1 _).mono ?_
            rintro e w' ⟨rfl, hw⟩
            subst hw
            rw [h1]
            go_wp2
            go_ret
            exact ⟨rfl, alloc_below _ _⟩
          · rw [show stC x = 0 by simp [stC, h1, inB]; omega]
            go_enter Tryz.func114, Tryz.ntmps114
            go_wp2_with fail
            refine (isKeyR_c p q x.1 _).mono ?_
            rintro e w' ⟨rfl, hw⟩
            subst hw
            rw [h1]
            go_wp2
            go_ret
            exact ⟨rfl, alloc_below _ _⟩
set_option maxRecDepth 4000 in
set_option maxHeartbeats 1000000 in
theorem roomFault_c (x : StreamD) (p : Option Addr) (q : Nat) (w : World) : Calls Tryz.prog 43 #[.agg #[.slice p x.1.length q, .int .i64 x.2.1, .int .i64 x.2.2]] w fun e w' => e = .returned (.int .i64 (askC x)) ∧ Below w.heap.size w w' := by
  have K : Hid (∀ w, Calls Tryz.prog 114 #[.agg #[.slice p x.1.length q, .int .i64 x.2.1, .int .i64 x.2.2]] w fun e w' => e = .returned (.int .i64 (stC x)) ∧ Below w.heap.size w w') := fun w => streamFault_c x p q w
  have A := Arr.new w [.slice p x.1.length q, .int .i64 x.2.1, .int .i64 x.2.2] 36
  by_cases h1 : stC x = 0
  · have hp := st_parts h1
    rw [h1] at K
    by_cases h2 : x.2.1 = 200
    · have d2 : (x.2.1 == 200) = true := by rw [beq_iff_eq]; exact h2
      rw [show askC x = 10 by simp [askC, h1, h2]]
      clear h1 h2 hp
      go_enter Tryz.func43, Tryz.ntmps43
      go_wp2_with fail
      refine (K.out _).mono ?_
      rintro e w1 ⟨rfl, hb⟩
      replace A := A.stay hb
      have c1 := (A.cell 1).trans (show _ = some _ from rfl)
      go_wp2
      go_ret
      exact ⟨rfl, Below.step (alloc_below _ _) hb⟩
    · have d2 : (x.2.1 == 200) = false := by rw [beq_eq_false_iff_ne]; exact h2
      rw [show askC x = 0 by simp [askC, h1]; omega]
      clear h1 h2 hp
      go_enter Tryz.func43, Tryz.ntmps43
      go_wp2_with fail
      refine (K.out _).mono ?_
      rintro e w1 ⟨rfl, hb⟩
      replace A := A.stay hb
      have c1 := (A.cell 1).trans (show _ = some _ from rfl)
      go_wp2
      go_ret
      exact ⟨rfl, Below.step (alloc_below _ _) hb⟩
  · have d1 : (stC x == 0) = false := by rw [beq_eq_false_iff_ne]; exact h1
    rw [show askC x = stC x by simp [askC, h1]]
    clear h1
    generalize stC x = sc at *
    go_enter Tryz.func43, Tryz.ntmps43
    go_wp2_with fail
    refine (K.out _).mono ?_
    rintro e w1 ⟨rfl, hb⟩
    replace A := A.stay hb
    have c1 := (A.cell 1).trans (show _ = some _ from rfl)
    go_wp2
    go_ret
    exact ⟨rfl, Below.step (alloc_below _ _) hb⟩
set_option maxRecDepth 4000 in
theorem isRecordKind_c (k : Int) (w : World) : Calls Tryz.prog 110 #[.int .i64 k] w fun e w' => e = .returned (.bool (kindB k)) ∧ w' = w := by
  by_cases h1 : 21 ≤ k
  · by_cases h2 : k ≤ 23
    · rw [show kindB k = true by simp [kindB, inB]; omega]
      go_enter Tryz.func110, Tryz.ntmps110
      go_wp2
      go_ret
      exact ⟨rfl, rfl⟩
    · rw [show kindB k = false by simp [kindB, inB]; omega]
      go_enter Tryz.func110, Tryz.ntmps110
      go_wp2
      go_ret
      exact ⟨rfl, rfl⟩
  · rw [show kindB k = false by simp [kindB, inB]; omega]
    go_enter Tryz.func110, Tryz.ntmps110
    go_wp2
    go_ret
    exact ⟨rfl, rfl⟩
set_option maxRecDepth 4000 in
set_option maxHeartbeats 1000000 in
theorem sendFault_c (x : StreamD) (p p2 : Option Addr) (q q2 : Nat) (kind : Int) (plain : List UInt8) (pad : Int) (w : World) : Calls Tryz.prog 39 #[.agg #[.slice p x.1.length q, .int .i64 x.2.1, .int .i64 x.2.2], .int .i64 kind, .slice p2 plain.length q2, .int .i64 pad] w fun e w' => e = .returned (.int .i64 (srC x kind plain pad)) ∧ Below w.heap.size w w' := by
  have K : Hid (∀ w, Calls Tryz.prog 43 #[.agg #[.slice p x.1.length q, .int .i64 x.2.1, .int .i64 x.2.2]] w fun e w' => e = .returned (.int .i64 (askC x)) ∧ Below w.heap.size w w') := fun w => roomFault_c x p q w
  by_cases h1 : askC x = 0
  · rw [h1] at K
    cases hk : kindB kind
    · rw [show srC x kind plain pad = 3 by simp [srC, h1, hk]]
      clear h1
      go_enter Tryz.func39, Tryz.ntmps39
      go_wp2_with fail
      refine (K.out _).mono ?_
      rintro e w1 ⟨rfl, hb⟩
      go_wp2_with fail
      refine (isRecordKind_c kind _).mono ?_
      rintro e w' ⟨rfl, hw⟩
      subst hw
      rw [hk]
      go_wp2
      go_ret
      exact ⟨rfl, Below.step (alloc_below _ _) hb⟩
    · by_cases h2 : pad < 0
      · rw [show srC x kind plain pad = 3 by simp [srC, h1, hk, inB]; omega]
        clear h1
        go_enter Tryz.func39, Tryz.ntmps39
        go_wp2_with fail
        refine (K.out _).mono ?_
        rintro e w1 ⟨rfl, hb⟩
        go_wp2_with fail
        refine (isRecordKind_c kind _).mono ?_
        rintro e w' ⟨rfl, hw⟩
        subst hw
        rw [hk]
        go_wp2
        go_ret
        exact ⟨rfl, Below.step (alloc_below _ _) hb⟩
      · by_cases h3 : 16 < pad
        · rw [show srC x kind plain pad = 3 by simp [srC, h1, hk, inB]; omega]
          clear h1
          go_enter Tryz.func39, Tryz.ntmps39
          go_wp2_with fail
          refine (K.out _).mono ?_
          rintro e w1 ⟨rfl, hb⟩
          go_wp2_with fail
          refine (isRecordKind_c kind _).mono ?_
          rintro e w' ⟨rfl, hw⟩
          subst hw
          rw [hk]
          go_wp2
          go_ret
          exact ⟨rfl, Below.step (alloc_below _ _) hb⟩
        · by_cases h4 : 200 < plain.length
          · rw [show srC x kind plain pad = 2 by simp [srC, h1, hk, inB]; omega]
            have h4I : (200 : Int) < (plain.length : Int) := by omega
            clear h1 h4
            go_enter Tryz.func39, Tryz.ntmps39
            go_wp2_with fail
            refine (K.out _).mono ?_
            rintro e w1 ⟨rfl, hb⟩
            go_wp2_with fail
            refine (isRecordKind_c kind _).mono ?_
            rintro e w' ⟨rfl, hw⟩
            subst hw
            rw [hk]
            go_wp2
            go_ret
            exact ⟨rfl, Below.step (alloc_below _ _) hb⟩
          · rw [show srC x kind plain pad = 0 by simp [srC, h1, hk, inB]; omega]
            have h4I : ¬ (200 : Int) < (plain.length : Int) := by omega
            clear h1 h4
            go_enter Tryz.func39, Tryz.ntmps39
            go_wp2_with fail
            refine (K.out _).mono ?_
            rintro e w1 ⟨rfl, hb⟩
            go_wp2_with fail
            refine (isRecordKind_c kind _).mono ?_
            rintro e w' ⟨rfl, hw⟩
            subst hw
            rw [hk]
            go_wp2
            go_ret
            exact ⟨rfl, Below.step (alloc_below _ _) hb⟩
  · have d1 : (askC x != 0) = true := by rw [bne_iff_ne]; exact h1
    rw [show srC x kind plain pad = askC x by simp [srC, h1]]
    clear h1
    generalize askC x = ac at *
    go_enter Tryz.func39, Tryz.ntmps39
    go_wp2_with fail
    refine (K.out _).mono ?_
    rintro e w1 ⟨rfl, hb⟩
    go_wp2
    go_ret
    exact ⟨rfl, Below.step (alloc_below _ _) hb⟩
theorem at8_eqN {bs : List UInt8} {i k : Nat} (hk : k < 256) : (at8 bs i == (k : Int)) = (bs.getD i 0 == UInt8.ofNat k) := by
  unfold at8
  rw [Bool.eq_iff_iff, beq_iff_eq, beq_iff_eq]
  constructor
  · intro h
    apply UInt8.toNat.inj
    rw [UInt8.toNat_ofNat']
    omega
  · intro h
    rw [h, UInt8.toNat_ofNat']
    omega
set_option maxRecDepth 4000 in
set_option maxHeartbeats 1000000 in
theorem isRecord_c (p : Option Addr) (q : Nat) (r : List UInt8) (w : World) (hr : Rd w p q r) : Calls Tryz.prog 44 #[.slice p r.length q] w fun e w' => e = .returned (.bool (bodyOk r)) ∧ Below w.heap.size w w' := by
  have hq1 : r.length ≤ q := hr.1
  have hq2 : q ≤ 2 ^ 63 - 1 := hr.2.1
  by_cases h5 : r.length < 5
  · have h5I : (r.length : Int) < 5 := by omega
    rw [show bodyOk r = false by simp [bodyOk]; omega]
    go_enter Tryz.func44, Tryz.ntmps44
    go_wp2
    go_ret
    exact ⟨rfl, Below.refl _ _⟩
  · have h5I : ¬ (r.length : Int) < 5 := by omega
    have KT : Hid (Calls Tryz.prog 115 #[.slice p r.length q] w fun e w' => e = .returned (.int .i64 (getB ((r.drop 3).take 2) : Nat)) ∧ Below w.heap.size w w') := toldLength_c p q r w hr (by omega)
    obtain ⟨b, o, rfl, hc⟩ := hr.2.2.2 (by omega)
    have c0 := hc 0 (by omega)
    have c1 := hc 1 (by omega)
    have c2 := hc 2 (by omega)
    rw [Nat.add_zero] at c0
    have hl0 : (0 : Int) < (r.length : Int) := by omega
    have hl1 : (1 : Int) < (r.length : Int) := by omega
    have hl2 : (2 : Int) < (r.length : Int) := by omega
    have E0 := at8_eqN (bs := r) (i := 0) (k := 23) (by decide)
    have E1 := at8_eqN (bs := r) (i := 1) (k := 3) (by decide)
    have E2 := at8_eqN (bs := r) (i := 2) (k := 3) (by decide)
    clear hr hc
    have HB : Hid (bodyOk r = ((r.getD 0 0 == UInt8.ofNat 23) && (r.getD 1 0 == UInt8.ofNat 3) && (r.getD 2 0 == UInt8.ofNat 3) && decide (r.length - 5 = getB ((r.drop 3).take 2)))) := by
      show _ = _
      unfold bodyOk
      rw [decide_eq_true (show 5 ≤ r.length by omega), Bool.true_and]
      rfl
    rw [HB.out, ← E0, ← E1, ← E2]
    clear E0 E1 E2 HB
    generalize at8 r 0 = x0 at *
    generalize at8 r 1 = x1 at *
    generalize at8 r 2 = x2 at *
    generalize getB ((r.drop 3).take 2) = n at *
    cases d0 : (x0 == ((23 : Nat) : Int))
    · have f0 : (x0 != 23) = true := by rw [bne, show (x0 == 23) = false from d0]; rfl
      clear d0
      rw [Bool.false_and, Bool.false_and, Bool.false_and]
      go_enter Tryz.func44, Tryz.ntmps44
      go_wp2
      go_ret
      exact ⟨rfl, Below.refl _ _⟩
    · have f0 : (x0 != 23) = false := by rw [bne, show (x0 == 23) = true from d0]; rfl
      clear d0
      cases d1 : (x1 == ((3 : Nat) : Int))
      · have f1 : (x1 != 3) = true := by rw [bne, show (x1 == 3) = false from d1]; rfl
        clear d1
        rw [Bool.true_and, Bool.false_and, Bool.false_and]
        go_enter Tryz.func44, Tryz.ntmps44
        go_wp2
        go_ret
        exact ⟨rfl, Below.refl _ _⟩
      · have f1 : (x1 != 3) = false := by rw [bne, show (x1 == 3) = true from d1]; rfl
        clear d1
        cases d2 : (x2 == ((3 : Nat) : Int))
        · have f2 : (x2 != 3) = true := by rw [bne, show (x2 == 3) = false from d2]; rfl
          clear d2
          rw [Bool.true_and, Bool.true_and, Bool.false_and]
          go_enter Tryz.func44, Tryz.ntmps44
          go_wp2
          go_ret
          exact ⟨rfl, Below.refl _ _⟩
        · have f2 : (x2 != 3) = false := by rw [bne, show (x2 == 3) = true from d2]; rfl
          clear d2
          rw [Bool.true_and, Bool.true_and, Bool.true_and]
          by_cases hn : r.length - 5 = n
          · have hnI : ((r.length : Int) - 5 == (n : Int)) = true := by rw [beq_iff_eq]; omega
            rw [decide_eq_true hn]
            clear hn
            go_enter Tryz.func44, Tryz.ntmps44
            go_wp2_with fail
            refine KT.out.mono ?_
            rintro e w1 ⟨rfl, hb⟩
            go_wp2
            go_ret
            exact ⟨rfl, hb⟩
          · have hnI : ((r.length : Int) - 5 == (n : Int)) = false := by rw [beq_eq_false_iff_ne]; omega
            rw [decide_eq_false hn]
            clear hn
            go_enter Tryz.func44, Tryz.ntmps44
            go_wp2_with fail
            refine KT.out.mono ?_
            rintro e w1 ⟨rfl, hb⟩
            go_wp2
            go_ret
            exact ⟨rfl, hb⟩
end Go.Proofs.YtdbpnibcblelbaaGreatDoor
/- Whether bytes are a context, in the program. -/
namespace Go.Proofs.YtdbpnibcblelbaaGreatDoor
open Go.ChangeShapes Go.WideShapes Go.ChangeAt Go.RowKit
end Go.Proofs.YtdbpnibcblelbaaGreatDoor
