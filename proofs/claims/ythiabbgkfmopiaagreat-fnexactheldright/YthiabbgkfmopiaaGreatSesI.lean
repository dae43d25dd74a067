/- Whether a context is on a list, the faults of contexts, of what is held and of a session, in the program, at every argument. What was there stays. -/
import Derived.Test.YthiabbgkfmopiaaGreatSes
import Derived.Test.YthiabbgkfmopiaaGreatJoint18
import Derived.Test.YthiabbgkfmopiaaGreatJoint12
import Derived.Test.YthiabbgkfmopiaaGreatJoint16
namespace Go.Proofs.YthiabbgkfmopiaaGreat
open Go.ChangeShapes Go.WideShapes Go.ChangeAt Go.RowKit

theorem RdL.takeB {α : Type} {c : Cod α} {w : World} {p : Option Addr} {q : Nat} {l : List α} (h : RdL c w p q l) (n : Nat) : RdL c w p q (l.take n) := by
  obtain ⟨h1, h2, h3, h4⟩ := h
  refine ⟨by rw [List.length_take]; omega, h2, h3, fun hp => ?_⟩
  obtain ⟨b, o, rfl, hc⟩ := h4 (by rw [List.length_take] at hp; omega)
  refine ⟨b, o, rfl, fun i a hi => hc i a ?_⟩
  have hlt := (List.getElem?_eq_some_iff.1 hi).1
  rw [List.length_take] at hlt
  rw [List.getElem?_take_of_lt (by omega)] at hi
  exact hi
set_option maxRecDepth 4000 in
set_option maxHeartbeats 1000000 in
theorem hasContext_c (l : List (List UInt8)) (c : List UInt8) (p pc : Option Addr) (q qc : Nat) (w : World) (hr : RdL bytC w p q l) (hc : Rd w pc qc c) :
    Calls Tryz.prog 118 #[.slice p l.length q, .slice pc c.length qc] w fun e w' => e = .returned (.bool (hsB l c)) ∧ Below w.heap.size w w' := by
  have HR : Hid (RdL bytC w p q l) := hr
  have HC : Hid (Rd w pc qc c) := hc
  have hq1 : l.length ≤ q := hr.1
  have hq2 : q ≤ 2 ^ 63 - 1 := hr.2.1
  clear hr hc
  go_enter Tryz.func118, Tryz.ntmps118
  go_wp2_with fail
  go_loopw [9] (fun i wr => ∃ k : Nat, k ≤ l.length ∧ i = .int .i64 k ∧ hsB (l.take k) c = false ∧ Below w.heap.size w wr)
    (fun i _ => l.length - (intOf i).toNat)
  case atStart => exact ⟨0, Nat.zero_le _, rfl, by simp [hsB], Below.refl _ _⟩
  case round =>
    obtain ⟨k, hk, rfl, hn, BW⟩ := hrel
    by_cases hlt : k < l.length
    · have hI : (k : Int) < (l.length : Int) := by omega
      obtain ⟨b, o, e1, hcc⟩ := (HR.out.keep BW).2.2.2 (by omega)
      subst e1
      obtain ⟨a, ha⟩ : ∃ a, l[k]? = some a := ⟨l[k], by simp [hlt]⟩
      obtain ⟨us, hrep, hcell⟩ := hcc k a ha
      obtain ⟨pa, qa, rfl, ra⟩ := blk_rep hrep
      have c0 := hcell 0 _ rfl
      rw [show bytC.n = 1 from rfl, Nat.mul_one, Nat.add_zero] at c0
      have KS := implSame_c pa pc qa qc a c wr ra (HC.out.keep BW)
      have H0 : Hid (sameB a c = true → hsB l c = true) := fun h => hsB_iff.2 (sameB_eq.1 h ▸ List.mem_of_getElem? ha)
      have H1 : Hid (sameB a c = false → hsB (l.take (k + 1)) c = false) := fun h => by rw [hsB_take ha, hn, h]; rfl
      clear hcc hcell hrep ra hn
      go_wp2_with fail
      refine KS.mono ?_
      rintro e w2 ⟨rfl, hb⟩
      have BW2 := Below.step BW hb
      cases hs : sameB a c
      · have h1 := H1.out hs
        clear KS c0 hb BW H0 H1 hs
        go_wp2_with fail
        go_roundw
        case rel => exact ⟨k + 1, by omega, by go_num, h1, BW2⟩
        case measure => simp [intOf]; omega
      · have h1 : Hid (hsB l c = true) := H0.out hs
        clear KS c0 hb BW H0 H1 hs
        go_wp2_with fail
        go_ret
        exact ⟨by rw [h1.out]; rfl, BW2⟩
    · have e : k = l.length := by omega
      subst e
      rw [List.take_length] at hn
      have h1 : Hid (hsB l c = false) := hn
      clear hn
      go_wp2_with fail
      go_ret
      exact ⟨by rw [h1.out]; rfl, BW⟩
set_option maxRecDepth 4000 in
set_option maxHeartbeats 1000000 in
theorem contextsFault_c (l : List (List UInt8)) (p : Option Addr) (q : Nat) (w : World) (hr : RdL bytC w p q l) :
    Calls Tryz.prog 101 #[.slice p l.length q] w fun e w' => e = .returned (.int .i64 (cxC l)) ∧ Below w.heap.size w w' := by
  have HR : Hid (RdL bytC w p q l) := hr
  have hq1 : l.length ≤ q := hr.1
  have hq2 : q ≤ 2 ^ 63 - 1 := hr.2.1
  clear hr
  go_enter Tryz.func101, Tryz.ntmps101
  go_wp2_with fail
  go_loopw [7] (fun i wr => ∃ k : Nat, k ≤ l.length ∧ i = .int .i64 k ∧ cxC l = cxG (l.take k) (l.drop k) ∧ Below w.heap.size w wr)
    (fun i _ => l.length - (intOf i).toNat)
  case atStart => exact ⟨0, Nat.zero_le _, rfl, rfl, Below.refl _ _⟩
  case round =>
    obtain ⟨k, hk, rfl, hn, BW⟩ := hrel
    by_cases hlt : k < l.length
    · have hI : (k : Int) < (l.length : Int) := by omega
      have hI2 : ¬ ((l.length : Int) < (k : Int)) := by omega
      obtain ⟨b, o, e1, hcc⟩ := (HR.out.keep BW).2.2.2 (by omega)
      have HT : Hid (RdL bytC wr p q (l.take k)) := (HR.out.keep BW).takeB k
      have HTl : Hid ((l.take k).length = k) := by show _ = _; rw [List.length_take]; omega
      subst e1
      obtain ⟨a, ha⟩ : ∃ a, l[k]? = some a := ⟨l[k], by simp [hlt]⟩
      obtain ⟨us, hrep, hcell⟩ := hcc k a ha
      obtain ⟨pa, qa, rfl, ra⟩ := blk_rep hrep
      have c0 := hcell 0 _ rfl
      rw [show bytC.n = 1 from rfl, Nat.mul_one, Nat.add_zero] at c0
      have KC := isContext_c pa qa a wr
      have KH : Hid (Calls Tryz.prog 118 #[.slice (some ⟨b, o, none⟩) k q, .slice pa a.length qa] wr fun e w' => e = .returned (.bool (hsB (l.take k) a)) ∧ Below wr.heap.size wr w') := by
        have h := hasContext_c (l.take k) a (some ⟨b, o, none⟩) pa q qa wr HT.out ra
        rw [HTl.out] at h
        exact h
      have H0 : Hid (ctxB a = false → cxC l = 2) := fun h => hn.trans (cxG_bad ha h)
      have H1 : Hid (ctxB a = true → hsB (l.take k) a = true → cxC l = 6) := fun h h2 => hn.trans (cxG_taken ha h h2)
      have H2 : Hid (ctxB a = true → hsB (l.take k) a = false → cxC l = cxG (l.take (k + 1)) (l.drop (k + 1))) := fun h h2 => hn.trans (cxG_step ha h h2)
      clear hcc hcell hrep ra hn HT HTl
      go_wp2_with fail
      refine KC.mono ?_
      rintro e w2 ⟨rfl, hw⟩
      subst w2
      cases hs : ctxB a
      · have h1 : Hid (cxC l = 2) := H0.out hs
        clear KC KH c0 H0 H1 H2
        go_wp2_with fail
        go_ret
        exact ⟨by rw [h1.out]; rfl, BW⟩
      · have H3 := H1.out hs
        have H4 := H2.out hs
        clear KC H0 H1 H2 hs
        go_wp2_with fail
        refine KH.out.mono ?_
        rintro e w2 ⟨rfl, hb⟩
        have BW2 := Below.step BW hb
        cases hs : hsB (l.take k) a
        · have h1 : Hid _ := H4 hs
          clear KH c0 H3 H4 hs hb BW
          go_wp2_with fail
          go_roundw
          case rel => exact ⟨k + 1, by omega, by go_num, h1.out, BW2⟩
          case measure => simp [intOf]; omega
        · have h1 : Hid (cxC l = 6) := H3 hs
          clear KH c0 H3 H4 hs hb BW
          go_wp2_with fail
          go_ret
          exact ⟨by rw [h1.out]; rfl, BW2⟩
    · have e : k = l.length := by omega
      subst e
      rw [cxG_end] at hn
      have h1 : Hid (cxC l = 0) := hn
      clear hn
      go_wp2_with fail
      go_ret
      exact ⟨by rw [h1.out]; rfl, BW⟩
theorem rise_next {l : List HeldD} {k : Nat} {a b : HeldD} (ha : l[k]? = some a) (hb : l[k + 1]? = some b) (hr : Rise (l.take (k + 1))) : Rise (l.take (k + 2)) ↔ a.1 < b.1 := by
  rw [List.take_add_one (i := k + 1), hb]
  show Rise (l.take (k + 1) ++ [b]) ↔ _
  rw [hr.snoc, laB_at ha, decide_eq_true_eq]
theorem rise_cut {l : List HeldD} {k : Nat} (h : ¬ Rise (l.take k)) : ¬ Rise l := fun hr => h (List.Pairwise.sublist (List.take_sublist _ _) hr)
set_option maxRecDepth 4000 in
set_option maxHeartbeats 1000000 in
theorem heldFault_c (l : List HeldD) (p : Option Addr) (q : Nat) (w : World) (hr : RdL holdC w p q l) :
    Calls Tryz.prog 103 #[.slice p l.length q] w fun e w' => e = .returned (.int .i64 (hdC l)) ∧ Below w.heap.size w w' := by
  have HR : Hid (RdL holdC w p q l) := hr
  have hq1 : l.length ≤ q := hr.1
  have hq2 : q ≤ 2 ^ 63 - 1 := hr.2.1
  clear hr
  go_enter Tryz.func103, Tryz.ntmps103
  go_wp2_with fail
  go_loopw [8] (fun i wr => ∃ k : Nat, k ≤ l.length ∧ i = .int .i64 k ∧ (l.take k).all okH = true ∧ Below w.heap.size w wr)
    (fun i _ => l.length - (intOf i).toNat)
  case atStart => exact ⟨0, Nat.zero_le _, rfl, by simp, Below.refl _ _⟩
  case round =>
    obtain ⟨k, hk, rfl, hn, BW⟩ := hrel
    by_cases hlt : k < l.length
    · have hI : (k : Int) < (l.length : Int) := by omega
      obtain ⟨b, o, e1, hcc⟩ := (HR.out.keep BW).2.2.2 (by omega)
      subst e1
      obtain ⟨a, ha⟩ : ∃ a, l[k]? = some a := ⟨l[k], by simp [hlt]⟩
      obtain ⟨us, hrep, hcell⟩ := hcc k a ha
      obtain rfl := hold_rep hrep
      have c0 := hcell 0 _ rfl
      have c1 := hcell 1 _ rfl
      rw [show holdC.n = 2 from rfl] at c0 c1
      rw [Nat.add_zero] at c0
      have B2 := Below.mk BW (.cells #[.int .i64 a.1, .int .i64 a.2] 59)
      have H0 : Hid (okH a = false → hdC l = 3) := fun h => by
        unfold hdC
        rw [if_neg (fun h2 => by have := List.all_eq_true.1 h2 a (List.mem_of_getElem? ha); rw [h] at this; cases this)]
      have H1 : Hid (okH a = true → (l.take (k + 1)).all okH = true) := fun h => by rw [List.take_add_one, ha, List.all_append, hn]; simp [h]
      have HO : Hid (okH a = (inB a.1 1 99 && inB a.2 0 9999)) := rfl
      clear hcc hcell hrep hn
      cases h1 : inB a.1 1 99
      · have hz : Hid (hdC l = 3) := H0.out (by rw [HO.out, h1]; rfl)
        clear H0 H1 HO
        go_wp2_with fail
        refine (isCertId_c _ _).mono ?_
        rintro e w2 ⟨rfl, hw⟩
        subst hw
        rw [h1]
        go_wp2_with fail
        go_ret
        exact ⟨by rw [hz.out]; rfl, B2⟩
      · cases h2 : inB a.2 0 9999
        · have hz : Hid (hdC l = 3) := H0.out (by rw [HO.out, h1, h2]; rfl)
          clear H0 H1 HO
          go_wp2_with fail
          refine (isCertId_c _ _).mono ?_
          rintro e w2 ⟨rfl, hw⟩
          subst hw
          rw [h1]
          go_wp2_with fail
          refine (isCertUntil_c _ _).mono ?_
          rintro e w2 ⟨rfl, hw⟩
          subst hw
          rw [h2]
          go_wp2_with fail
          go_ret
          exact ⟨by rw [hz.out]; rfl, B2⟩
        · have hz : Hid ((l.take (k + 1)).all okH = true) := H1.out (by rw [HO.out, h1, h2]; rfl)
          clear H0 H1 HO
          go_wp2_with fail
          refine (isCertId_c _ _).mono ?_
          rintro e w2 ⟨rfl, hw⟩
          subst hw
          rw [h1]
          go_wp2_with fail
          refine (isCertUntil_c _ _).mono ?_
          rintro e w2 ⟨rfl, hw⟩
          subst hw
          rw [h2]
          go_wp2_with fail
          go_roundw
          case rel => exact ⟨k + 1, by omega, by go_num, hz.out, B2⟩
          case measure => simp [intOf]; omega
    · have e : k = l.length := by omega
      subst e
      rw [List.take_length] at hn
      have HA : Hid (l.all okH = true) := hn
      have HB : Hid (Below w.heap.size w wr) := BW
      clear hn BW
      go_wp2_with fail
      go_loopw [5] (fun i wx => ∃ k : Nat, i = .int .i64 ((k : Int) + 1) ∧ Rise (l.take (k + 1)) ∧ Below w.heap.size w wx)
        (fun i _ => l.length - (intOf i).toNat)
      case atStart => exact ⟨0, rfl, (by cases l <;> simp [Rise]), HB.out⟩
      case round =>
        clear HB
        obtain ⟨k, rfl, hn, BW⟩ := hrel
        by_cases hlt : k + 1 < l.length
        · have hI : (k : Int) + 1 < (l.length : Int) := by omega
          have hI2 : (k : Int) < (l.length : Int) := by omega
          have hW : (k : Int) + 1 - 1 = (k : Int) := by omega
          obtain ⟨b, o, e1, hcc⟩ := (HR.out.keep BW).2.2.2 (by omega)
          subst e1
          obtain ⟨a, ha⟩ : ∃ a, l[k]? = some a := ⟨l[k], by simp⟩
          obtain ⟨a2, ha2⟩ : ∃ a, l[k + 1]? = some a := ⟨l[k + 1], by simp [hlt]⟩
          obtain ⟨us, hrep, hcell⟩ := hcc k a ha
          obtain rfl := hold_rep hrep
          obtain ⟨us2, hrep2, hcell2⟩ := hcc (k + 1) a2 ha2
          obtain rfl := hold_rep hrep2
          have c0 := hcell 0 _ rfl
          have d0 := hcell2 0 _ rfl
          rw [show holdC.n = 2 from rfl] at c0 d0
          rw [Nat.add_zero] at c0 d0
          have hX1 : Hid (a.1 < a2.1 → Rise (l.take (k + 2))) := (rise_next ha ha2 hn).2
          have hX0 : Hid (¬ a.1 < a2.1 → hdC l = 1) := fun h => by
            unfold hdC
            rw [if_pos HA.out, if_neg (rise_cut (k := k + 2) (fun h2 => h ((rise_next ha ha2 hn).1 h2)))]
          clear hcc hcell hrep hcell2 hrep2 hn
          by_cases hr : a.1 < a2.1
          · have hN : Hid (Rise (l.take (k + 2))) := hX1.out hr
            have hE : (decide (a2.1 ≤ a.1)) = false := decide_eq_false (by omega)
            have hr2 : ¬ a2.1 ≤ a.1 := by omega
            clear hX1 hX0
            go_wp2_with fail
            go_quiet (fail)
            have hbq : Below wr.heap.size wr (wr.drewN nq) := ⟨rfl, rfl, rfl, Nat.le_refl _, fun _ _ => rfl⟩
            have B2 := Below.step BW hbq
            clear hbq c0 d0 BW
            go_wp2_with fail
            go_roundw
            case rel => exact ⟨k + 1, by go_num, hN.out, B2⟩
            case measure => simp [intOf]; omega
          · have hN : Hid (hdC l = 1) := hX0.out hr
            have hr2 : a2.1 ≤ a.1 := by omega
            clear hX1 hX0
            go_wp2_with fail
            go_quiet (fail)
            have hbq : Below wr.heap.size wr (wr.drewN nq) := ⟨rfl, rfl, rfl, Nat.le_refl _, fun _ _ => rfl⟩
            have B2 := Below.step BW hbq
            clear hbq c0 d0 BW
            go_wp2_with fail
            go_ret
            exact ⟨by rw [hN.out]; rfl, B2⟩
        · have hI : ¬ ((k : Int) + 1 < (l.length : Int)) := by omega
          have hN : Hid (hdC l = 0) := hdC_iff.2 ⟨List.all_eq_true.1 HA.out, by rw [List.take_of_length_le (by omega)] at hn; exact hn⟩
          clear hn
          go_wp2_with fail
          go_ret
          exact ⟨by rw [hN.out]; rfl, BW⟩
set_option maxRecDepth 4000 in
set_option maxHeartbeats 1000000 in
theorem sessFault_k (x : SesD) (us : List Value) (w : World) (h : sessionC.rep w x us) :
    Calls Tryz.prog 88 #[.agg us.toArray] w fun e w' => e = .returned (.int .i64 (seF hdC x)) ∧ Below w.heap.size w w' := by
  obtain ⟨p1, q1, p3, q3, p4, q4, p5, q5, rfl, r1, r3, r4, r5⟩ := session_rep h
  clear h
  have BW := alloc_below w (.cells #[.slice p1 x.1.length q1, .int .i64 x.2.1, .slice p3 x.2.2.1.length q3, .slice p4 x.2.2.2.1.length q4, .slice p5 x.2.2.2.2.length q5] 53)
  have R := Arr.new w [.slice p1 x.1.length q1, .int .i64 x.2.1, .slice p3 x.2.2.1.length q3, .slice p4 x.2.2.2.1.length q4, .slice p5 x.2.2.2.2.length q5] 53
  have c0 := (R.cell 0).trans (show _ = some _ from rfl)
  have c1 := (R.cell 1).trans (show _ = some _ from rfl)
  have c2 := (R.cell 2).trans (show _ = some _ from rfl)
  have c3 := (R.cell 3).trans (show _ = some _ from rfl)
  have c4 := (R.cell 4).trans (show _ = some _ from rfl)
  have KA := authKeyFault_c p1 q1 x.1 x.2.1 (w.alloc (.cells #[.slice p1 x.1.length q1, .int .i64 x.2.1, .slice p3 x.2.2.1.length q3, .slice p4 x.2.2.2.1.length q4, .slice p5 x.2.2.2.2.length q5] 53))
  have RA : Hid (RdL bytC w p3 q3 x.2.2.1) := r3
  have RU : Hid (RdL bytC w p4 q4 x.2.2.2.1) := r4
  have RH : Hid (RdL holdC w p5 q5 x.2.2.2.2) := r5
  have HE : Hid (seF hdC x = if akC x.1 x.2.1 = 0 then (if lnB x then (if cxC (x.2.2.1 ++ x.2.2.2.1) = 0 then hdC x.2.2.2.2 else cxC (x.2.2.1 ++ x.2.2.2.1)) else 2) else akC x.1 x.2.1) := rfl
  have HL : Hid (lnB x = decide (x.2.2.1.length ≤ 6 ∧ x.2.2.2.1.length ≤ 40 ∧ x.2.2.2.2.length ≤ 6)) := rfl
  clear r1 r3 r4 r5
  by_cases hk : akC x.1 x.2.1 = 0
  case neg =>
    have dk : (akC x.1 x.2.1 != 0) = true := by rw [bne_iff_ne]; exact hk
    have hz : Hid (seF hdC x = akC x.1 x.2.1) := by show _ = _; rw [HE.out, if_neg hk]
    clear HE HL hk R
    go_enter Tryz.func88, Tryz.ntmps88
    go_wp2_with fail
    refine KA.mono ?_
    rintro e w1 ⟨rfl, hw⟩
    rw [hw]
    clear hw w1 KA
    go_wp2_with fail
    go_ret
    exact ⟨by rw [hz.out]; rfl, BW⟩
  rw [hk] at KA
  by_cases hl : lnB x = true
  case neg =>
    have hz : Hid (seF hdC x = 2) := by show _ = _; rw [HE.out, if_pos hk, if_neg hl]
    have hl2 : ¬ (x.2.2.1.length ≤ 6 ∧ x.2.2.2.1.length ≤ 40 ∧ x.2.2.2.2.length ≤ 6) := fun h => hl (by rw [HL.out]; exact decide_eq_true h)
    clear HE HL hk R hl
    by_cases h1 : x.2.2.1.length ≤ 6
    · have i1 : ¬ (6 < (x.2.2.1.length : Int)) := by omega
      by_cases h2 : x.2.2.2.1.length ≤ 40
      · have i2 : ¬ (40 < (x.2.2.2.1.length : Int)) := by omega
        have i3 : 6 < (x.2.2.2.2.length : Int) := by omega
        clear hl2 h1 h2
        go_enter Tryz.func88, Tryz.ntmps88
        go_wp2_with fail
        refine KA.mono ?_
        rintro e w1 ⟨rfl, hw⟩
        rw [hw]
        clear hw w1 KA
        go_wp2_with fail
        go_ret
        exact ⟨by rw [hz.out]; rfl, BW⟩
      · have i2 : 40 < (x.2.2.2.1.length : Int) := by omega
        clear hl2 h1 h2
        go_enter Tryz.func88, Tryz.ntmps88
        go_wp2_with fail
        refine KA.mono ?_
        rintro e w1 ⟨rfl, hw⟩
        rw [hw]
        clear hw w1 KA
        go_wp2_with fail
        go_ret
        exact ⟨by rw [hz.out]; rfl, BW⟩
    · have i1 : 6 < (x.2.2.1.length : Int) := by omega
      clear hl2 h1
      go_enter Tryz.func88, Tryz.ntmps88
      go_wp2_with fail
      refine KA.mono ?_
      rintro e w1 ⟨rfl, hw⟩
      rw [hw]
      clear hw w1 KA
      go_wp2_with fail
      go_ret
      exact ⟨by rw [hz.out]; rfl, BW⟩
  have hln := lnB_iff.1 hl
  have i1 : ¬ (6 < (x.2.2.1.length : Int)) := by omega
  have i2 : ¬ (40 < (x.2.2.2.1.length : Int)) := by omega
  have i3 : ¬ (6 < (x.2.2.2.2.length : Int)) := by omega
  have HN : Hid (x.2.2.1.length ≤ 6 ∧ x.2.2.2.1.length ≤ 40 ∧ x.2.2.2.2.length ≤ 6) := hln
  have HE2 : Hid (seF hdC x = if cxC (x.2.2.1 ++ x.2.2.2.1) = 0 then hdC x.2.2.2.2 else cxC (x.2.2.1 ++ x.2.2.2.1)) := by show _ = _; rw [HE.out, if_pos hk, if_pos hl]
  clear HE HL hk hl hln
  obtain ⟨xa, ra, pa⟩ := (RA.out.keep BW).raw
  obtain ⟨xu, ru, pu⟩ := (RU.out.keep BW).raw
  have R0 := R
  generalize hV : w.alloc (.cells #[.slice p1 x.1.length q1, .int .i64 x.2.1, .slice p3 x.2.2.1.length q3, .slice p4 x.2.2.2.1.length q4, .slice p5 x.2.2.2.2.length q5] 53) = V at *
  have HV : Hid (w.alloc (.cells #[.slice p1 x.1.length q1, .int .i64 x.2.1, .slice p3 x.2.2.1.length q3, .slice p4 x.2.2.2.1.length q4, .slice p5 x.2.2.2.2.length q5] 53) = V) := hV
  clear hV
  go_enter Tryz.func88, Tryz.ntmps88
  go_wp2_with fail
  rw [HV.out]
  refine KA.mono ?_
  rintro e w1 ⟨rfl, hw⟩
  subst w1
  have HB2 := alloc_below V (.cells #[.slice p3 x.2.2.1.length q3, .slice p4 x.2.2.2.1.length q4] 26)
  have K7 := concatB_c V.heap.size x.2.2.1.length x.2.2.2.1.length q3 q4 p3 p4 xa xu (V.alloc (.cells #[.slice p3 x.2.2.1.length q3, .slice p4 x.2.2.2.1.length q4] 26)) (Arr.new V [.slice p3 x.2.2.1.length q3, .slice p4 x.2.2.2.1.length q4] 26) (ra.keep HB2) (ru.keep HB2) pa.one pu.one (by have := HN.out; omega)
  have PA : Hid (RepAll bytC V (x.2.2.1 ++ x.2.2.2.1) (xa ++ xu)) := pa.append pu
  clear KA ra ru pa pu
  go_wp2_with fail
  refine K7.mono ?_
  rintro e w2 ⟨v2, rfl, ho, hb2⟩
  have hb3 := Below.step HB2 hb2
  have hp := PA.out.sees bytC_mono (Sees.of_below hb3)
  obtain ⟨p7, q7, rfl, r7⟩ := ownsRow_raw ho
  have L7 : (x.2.2.1 ++ x.2.2.2.1).length = x.2.2.1.length + x.2.2.2.1.length := List.length_append
  have RD : RdL bytC w2 p7 q7 (x.2.2.1 ++ x.2.2.2.1) := Raw.rdL (by rw [L7]; exact r7) hp (Sees.of_below (Below.refl _ _)) bytC_mono
  have KC := contextsFault_c (x.2.2.1 ++ x.2.2.2.1) p7 q7 w2 RD
  rw [L7] at KC
  replace R := R.stay hb3
  replace BW := Below.step BW hb3
  clear K7 HB2 hb2 hb3 hp r7 RD L7 ho PA c0 c1 c2 c3 c4
  go_wp2_with fail
  refine KC.mono ?_
  rintro e w3 ⟨rfl, hb⟩
  replace R := R.stay hb
  replace BW := Below.step BW hb
  have c4 := (R.cell 4).trans (show _ = some _ from rfl)
  have KH := heldFault_c x.2.2.2.2 p5 q5 w3 (RH.out.keep BW)
  clear KC hb
  by_cases hc : cxC (x.2.2.1 ++ x.2.2.2.1) = 0
  · have hz : Hid (seF hdC x = hdC x.2.2.2.2) := by show _ = _; rw [HE2.out, if_pos hc]
    rw [hc]
    clear HE2 hc R
    go_wp2_with fail
    refine KH.mono ?_
    rintro e w4 ⟨rfl, hb⟩
    replace BW := Below.step BW hb
    clear KH hb c4
    go_wp2_with fail
    go_ret
    exact ⟨by rw [hz.out]; rfl, BW⟩
  · have hz : Hid (seF hdC x = cxC (x.2.2.1 ++ x.2.2.2.1)) := by show _ = _; rw [HE2.out, if_neg hc]
    have dk : (cxC (x.2.2.1 ++ x.2.2.2.1) != 0) = true := by rw [bne_iff_ne]; exact hc
    clear HE2 hc R KH
    go_wp2_with fail
    go_ret
    exact ⟨by rw [hz.out]; rfl, BW⟩
end Go.Proofs.YthiabbgkfmopiaaGreat

