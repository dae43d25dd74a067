/- The contracts of signatures in the program: isGiver, SignsFault, slices.Index and slices.Contains of int64, ownSign, ownSigns, at every argument. What was there stays. -/
import Derived.Test.YthiabbgkfmopiaaGreatJoint16
import Derived.Test.YthiabbgkfmopiaaGreatJoint17
import Derived.Test.YthiabbgkfmopiaaGreatJoint14
import Derived.Test.YthiabbgkfmopiaaGreatAuth
import Derived.Handy
import Derived.Test.YthiabbgkfmopiaaGreatJoint15
namespace Go.Proofs.YthiabbgkfmopiaaGreat
open Go.ChangeShapes Go.WideShapes Go.ChangeAt Go.RowKit

theorem isGiver_c (v : Int) (w : World) : Calls Tryz.prog 73 #[.int .i64 v] w fun e w' => e = .returned (.bool (inB v 0 9)) ∧ w' = w := by
  by_cases h0 : v = 0
  · subst h0
    go_enter Tryz.func73, Tryz.ntmps73
    go_wp2
    go_ret
    exact ⟨rfl, rfl⟩
  · have d : (v == 0) = false := by rw [beq_eq_false_iff_ne]; exact h0
    rw [show inB v 0 9 = inB v 1 9 by simp only [inB]; congr 1; apply propext; omega]
    clear h0
    go_enter Tryz.func73, Tryz.ntmps73
    go_wp2_with fail
    refine (isOwner_c _ _).mono ?_
    rintro e w' ⟨rfl, rfl⟩
    go_wp2
    go_ret
    exact ⟨rfl, rfl⟩
set_option maxRecDepth 4000 in
set_option maxHeartbeats 1000000 in
theorem implSg_c (l : List SignD) (p : Option Addr) (q : Nat) (w : World) (hr : RdL signC w p q l) :
    Calls Tryz.prog 53 #[.slice p l.length q] w fun e w' => e = .returned (.int .i64 (sgC l)) ∧ Below w.heap.size w w' := by
  have HR : Hid (RdL signC w p q l) := hr
  have hq1 : l.length ≤ q := hr.1
  have hq2 : q ≤ 2 ^ 63 - 1 := hr.2.1
  clear hr
  by_cases hl : l.length ≤ 40
  · have hlI : ¬ (40 < (l.length : Int)) := by omega
    have HC : Hid (sgC l = sgF l) := by show _ = _; rw [sgC, if_pos hl]
    go_enter Tryz.func53, Tryz.ntmps53
    go_wp2
    go_loopw [10] (fun i wr => ∃ k : Nat, k ≤ l.length ∧ i = .int .i64 k ∧ sgC l = sgF (l.drop k) ∧ Below w.heap.size w wr)
      (fun i _ => l.length - (intOf i).toNat)
    case atStart => exact ⟨0, Nat.zero_le _, rfl, HC.out, Below.refl _ _⟩
    case round =>
      obtain ⟨k, hk, rfl, hn, BW⟩ := hrel
      by_cases hlt : k < l.length
      · have hI : (k : Int) < (l.length : Int) := by omega
        obtain ⟨b, o, e1, hc⟩ := (HR.out.keep BW).2.2.2 (by omega)
        subst e1
        obtain ⟨a, ha⟩ : ∃ a, l[k]? = some a := ⟨l[k], by simp [hlt]⟩
        obtain ⟨us, hrep, hcell⟩ := hc k a ha
        obtain ⟨pa, qa, rfl, ra⟩ := sign_rep hrep
        have c0 := hcell 0 _ rfl
        have c1 := hcell 1 _ rfl
        have c2 := hcell 2 _ rfl
        rw [show signC.n = 3 from rfl] at c0 c1 c2
        rw [Nat.add_zero] at c0
        clear hc hcell hrep ra
        have B2 := Below.mk BW (.cells #[.int .i64 a.1, .int .i64 a.2.1, .slice pa a.2.2.length qa] 106)
        have HO : Hid (sgO a = if inB a.1 1 99 && inB a.2.1 0 9 then (if is32 a.2.2 then 0 else 1) else 3) := rfl
        have H0 : Hid (sgO a = 0 → sgC l = sgF (l.drop (k + 1))) := fun h => hn.trans (sgF_step ha h)
        have H1 : Hid (sgO a ≠ 0 → sgC l = sgO a) := fun h => hn.trans (sgF_bad ha h)
        clear hn
        cases h1 : inB a.1 1 99
        · have hz : Hid (sgO a = 3) := by show _ = _; rw [HO.out, h1]; rfl
          have hz2 : Hid (sgC l = 3) := (H1.out (by rw [hz.out]; decide)).trans hz.out
          go_wp2_with fail
          refine (isCertId_c _ _).mono ?_
          rintro e w2 ⟨rfl, hw⟩
          subst hw
          rw [h1]
          go_wp2
          go_ret
          exact ⟨by rw [hz2.out]; rfl, B2⟩
        · cases h2 : inB a.2.1 0 9
          · have hz : Hid (sgO a = 3) := by show _ = _; rw [HO.out, h1, h2]; rfl
            have hz2 : Hid (sgC l = 3) := (H1.out (by rw [hz.out]; decide)).trans hz.out
            go_wp2_with fail
            refine (isCertId_c _ _).mono ?_
            rintro e w2 ⟨rfl, hw⟩
            subst hw
            rw [h1]
            go_wp2_with fail
            refine (isGiver_c _ _).mono ?_
            rintro e w2 ⟨rfl, hw⟩
            subst hw
            rw [h2]
            go_wp2
            go_ret
            exact ⟨by rw [hz2.out]; rfl, B2⟩
          · cases h3 : is32 a.2.2
            · have hz : Hid (sgO a = 1) := by show _ = _; rw [HO.out, h1, h2, h3]; rfl
              have hz2 : Hid (sgC l = 1) := (H1.out (by rw [hz.out]; decide)).trans hz.out
              go_wp2_with fail
              refine (isCertId_c _ _).mono ?_
              rintro e w2 ⟨rfl, hw⟩
              subst hw
              rw [h1]
              go_wp2_with fail
              refine (isGiver_c _ _).mono ?_
              rintro e w2 ⟨rfl, hw⟩
              subst hw
              rw [h2]
              go_wp2_with fail
              refine (isKeyR_c pa qa a.2.2 _).mono ?_
              rintro e w2 ⟨rfl, hw⟩
              subst hw
              rw [h3]
              go_wp2
              go_ret
              exact ⟨by rw [hz2.out]; rfl, B2⟩
            · have hz : Hid (sgO a = 0) := by show _ = _; rw [HO.out, h1, h2, h3]; rfl
              have hz2 : Hid (sgC l = sgF (l.drop (k + 1))) := H0.out hz.out
              go_wp2_with fail
              refine (isCertId_c _ _).mono ?_
              rintro e w2 ⟨rfl, hw⟩
              subst hw
              rw [h1]
              go_wp2_with fail
              refine (isGiver_c _ _).mono ?_
              rintro e w2 ⟨rfl, hw⟩
              subst hw
              rw [h2]
              go_wp2_with fail
              refine (isKeyR_c pa qa a.2.2 _).mono ?_
              rintro e w2 ⟨rfl, hw⟩
              subst hw
              rw [h3]
              go_wp2_with fail
              go_roundw
              case rel => exact ⟨k + 1, by omega, by go_num, hz2.out, B2⟩
              case measure => simp [intOf]; omega
      · have e : k = l.length := by omega
        subst e
        have hn2 : Hid (sgC l = 0) := hn.trans (sgF_end l)
        clear hn
        go_wp2
        go_ret
        exact ⟨by rw [hn2.out]; rfl, BW⟩
  · have hlI : 40 < (l.length : Int) := by omega
    rw [show sgC l = 2 by rw [sgC, if_neg hl]]
    clear hl
    go_enter Tryz.func53, Tryz.ntmps53
    go_wp2
    go_ret
    exact ⟨rfl, Below.refl _ _⟩
end Go.Proofs.YthiabbgkfmopiaaGreat

/- What a role is, and what is asked of an exporter and a role, in the program. -/
namespace Go.Proofs.YthiabbgkfmopiaaGreat
open Go.ChangeShapes Go.WideShapes Go.ChangeAt Go.RowKit

theorem isRole_c (r : Int) (w : World) : Calls Tryz.prog 91 #[.int .i64 r] w fun e w' => e = .returned (.bool (roleB r)) ∧ w' = w := by
  by_cases h1 : r = 1
  · have d1 : (r == 1) = true := by rw [beq_iff_eq]; exact h1
    rw [show roleB r = true by simp [roleB, h1]]
    clear h1
    go_enter Tryz.func91, Tryz.ntmps91
    go_wp2
    go_ret
    exact ⟨rfl, rfl⟩
  · have d1 : (r == 1) = false := by rw [beq_eq_false_iff_ne]; exact h1
    by_cases h2 : r = 2
    · have d2 : (r == 2) = true := by rw [beq_iff_eq]; exact h2
      rw [show roleB r = true by simp [roleB, h2]]
      clear h1 h2
      go_enter Tryz.func91, Tryz.ntmps91
      go_wp2
      go_ret
      exact ⟨rfl, rfl⟩
    · have d2 : (r == 2) = false := by rw [beq_eq_false_iff_ne]; exact h2
      rw [show roleB r = false by simp [roleB, h1, h2]]
      clear h1 h2
      go_enter Tryz.func91, Tryz.ntmps91
      go_wp2
      go_ret
      exact ⟨rfl, rfl⟩
theorem authKeyFault_c (p : Option Addr) (q : Nat) (x : List UInt8) (r : Int) (w : World) : Calls Tryz.prog 100 #[.slice p x.length q, .int .i64 r] w fun e w' => e = .returned (.int .i64 (akC x r)) ∧ w' = w := by
  cases h1 : is32 x
  · rw [show akC x r = 1 by simp [akC, h1]]
    go_enter Tryz.func100, Tryz.ntmps100
    go_wp2_with fail
    refine (isKeyR_c p q x w).mono ?_
    rintro e w2 ⟨rfl, hw⟩
    subst w2
    rw [h1]
    go_wp2
    go_ret
    exact ⟨rfl, rfl⟩
  · cases h2 : roleB r
    · rw [show akC x r = 3 by simp [akC, h1, h2]]
      go_enter Tryz.func100, Tryz.ntmps100
      go_wp2_with fail
      refine (isKeyR_c p q x w).mono ?_
      rintro e w2 ⟨rfl, hw⟩
      subst w2
      rw [h1]
      go_wp2_with fail
      refine (isRole_c r w).mono ?_
      rintro e w2 ⟨rfl, hw⟩
      subst w2
      rw [h2]
      go_wp2
      go_ret
      exact ⟨rfl, rfl⟩
    · rw [show akC x r = 0 by simp [akC, h1, h2]]
      go_enter Tryz.func100, Tryz.ntmps100
      go_wp2_with fail
      refine (isKeyR_c p q x w).mono ?_
      rintro e w2 ⟨rfl, hw⟩
      subst w2
      rw [h1]
      go_wp2_with fail
      refine (isRole_c r w).mono ?_
      rintro e w2 ⟨rfl, hw⟩
      subst w2
      rw [h2]
      go_wp2
      go_ret
      exact ⟨rfl, rfl⟩
end Go.Proofs.YthiabbgkfmopiaaGreat

/- Whether bytes are a context, in the program. -/
namespace Go.Proofs.YthiabbgkfmopiaaGreat
open Go.ChangeShapes Go.WideShapes Go.ChangeAt Go.RowKit

theorem isContext_c (p : Option Addr) (q : Nat) (c : List UInt8) (w : World) : Calls Tryz.prog 105 #[.slice p c.length q] w fun e w' => e = .returned (.bool (ctxB c)) ∧ w' = w := by
  unfold ctxB
  by_cases h1 : (1 : Int) ≤ (c.length : Int)
  · by_cases h2 : (c.length : Int) ≤ 20
    · rw [inB_true h1 h2]
      go_enter Tryz.func105, Tryz.ntmps105
      go_wp2
      go_ret
      exact ⟨rfl, rfl⟩
    · rw [inB_false (by omega)]
      go_enter Tryz.func105, Tryz.ntmps105
      go_wp2
      go_ret
      exact ⟨rfl, rfl⟩
  · rw [inB_false (by omega)]
    go_enter Tryz.func105, Tryz.ntmps105
    go_wp2
    go_ret
    exact ⟨rfl, rfl⟩
end Go.Proofs.YthiabbgkfmopiaaGreat

/- Chapter 15, the program's side: the small functions on worlds: isWorldNow, isPrincipal, isPlaceOf, hasEventContext, isEvent, at every argument. What was there stays. -/
namespace Go.Proofs.YthiabbgkfmopiaaGreat
open Go.ChangeShapes Go.WideShapes Go.ChangeAt Go.RowKit

theorem isWorldNow_c (v : Int) (w : World) : Calls Tryz.prog 51 #[.int .i64 v] w fun e w' => e = .returned (.bool (inB v 0 9000)) ∧ w' = w := by
  by_cases h1 : 0 ≤ v
  · by_cases h2 : v ≤ 9000
    · rw [inB_true h1 h2]
      go_enter Tryz.func51, Tryz.ntmps51
      go_wp2
      go_ret
      exact ⟨rfl, rfl⟩
    · rw [inB_false (by omega)]
      go_enter Tryz.func51, Tryz.ntmps51
      go_wp2
      go_ret
      exact ⟨rfl, rfl⟩
  · rw [inB_false (by omega)]
    go_enter Tryz.func51, Tryz.ntmps51
    go_wp2
    go_ret
    exact ⟨rfl, rfl⟩
theorem isPrincipal_c (v : Int) (w : World) : Calls Tryz.prog 87 #[.int .i64 v] w fun e w' => e = .returned (.bool (inB v 1 9)) ∧ w' = w := by
  go_enter Tryz.func87, Tryz.ntmps87
  go_wp2_with fail
  refine (isOwner_c v w).mono ?_
  rintro e w1 ⟨rfl, hw⟩
  rw [hw]
  clear hw w1
  go_wp2_with fail
  go_ret
  exact ⟨rfl, rfl⟩
theorem isPlaceOf_c (v : Int) (n : Nat) (w : World) : Calls Tryz.prog 90 #[.int .i64 v, .int .i64 n] w fun e w' => e = .returned (.bool (inB v 0 ((n : Int) - 1))) ∧ w' = w := by
  by_cases h1 : 0 ≤ v
  · by_cases h2 : v < (n : Int)
    · rw [inB_true h1 (by omega)]
      go_enter Tryz.func90, Tryz.ntmps90
      go_wp2
      go_ret
      exact ⟨rfl, rfl⟩
    · rw [inB_false (by omega)]
      go_enter Tryz.func90, Tryz.ntmps90
      go_wp2
      go_ret
      exact ⟨rfl, rfl⟩
  · rw [inB_false (by omega)]
    go_enter Tryz.func90, Tryz.ntmps90
    go_wp2
    go_ret
    exact ⟨rfl, rfl⟩
theorem hasEventContext_c (a : EventD) (p : Option Addr) (q : Nat) (w : World) : Calls Tryz.prog 92 #[.agg #[.int .i64 a.1, .int .i64 a.2.1, .int .i64 a.2.2.1, .slice p a.2.2.2.1.length q, .int .i64 a.2.2.2.2.1, .int .i64 a.2.2.2.2.2]] w fun e w' =>
    e = .returned (.bool (if a.1 = 3 then (a.2.2.2.1.length : Int) == 0 else inB (a.2.2.2.1.length : Int) 1 20)) ∧ Below w.heap.size w w' := by
  have BW := alloc_below w (.cells #[.int .i64 a.1, .int .i64 a.2.1, .int .i64 a.2.2.1, .slice p a.2.2.2.1.length q, .int .i64 a.2.2.2.2.1, .int .i64 a.2.2.2.2.2] 99)
  have KC := isContext_c p q a.2.2.2.1 (w.alloc (.cells #[.int .i64 a.1, .int .i64 a.2.1, .int .i64 a.2.2.1, .slice p a.2.2.2.1.length q, .int .i64 a.2.2.2.2.1, .int .i64 a.2.2.2.2.2] 99))
  have R := Arr.new w [.int .i64 a.1, .int .i64 a.2.1, .int .i64 a.2.2.1, .slice p a.2.2.2.1.length q, .int .i64 a.2.2.2.2.1, .int .i64 a.2.2.2.2.2] 99
  have c0 := (R.cell 0).trans (show _ = some _ from rfl)
  have c3 := (R.cell 3).trans (show _ = some _ from rfl)
  clear R
  by_cases hk : a.1 = 3
  · have d3 : (a.1 == 3) = true := by rw [beq_iff_eq]; exact hk
    rw [if_pos hk]
    clear hk KC
    go_enter Tryz.func92, Tryz.ntmps92
    go_wp2_with fail
    go_ret
    exact ⟨rfl, BW⟩
  · have d3 : (a.1 == 3) = false := by rw [beq_eq_false_iff_ne]; exact hk
    rw [if_neg hk]
    clear hk
    go_enter Tryz.func92, Tryz.ntmps92
    go_wp2_with fail
    refine KC.mono ?_
    rintro e w1 ⟨rfl, hw⟩
    rw [hw]
    clear hw w1
    go_wp2_with fail
    go_ret
    exact ⟨rfl, BW⟩
theorem roleB_in (r : Int) : roleB r = inB r 1 2 := by
  unfold roleB inB
  by_cases h1 : r = 1
  · subst h1; decide
  · by_cases h2 : r = 2
    · subst h2; decide
    · have : ¬ (1 ≤ r ∧ r ≤ 2) := by omega
      simp [h1, h2]
      omega
set_option maxHeartbeats 4000000 in
theorem isEvent_c (a : EventD) (n : Nat) (p : Option Addr) (q : Nat) (w : World) : Calls Tryz.prog 76 #[.agg #[.int .i64 a.1, .int .i64 a.2.1, .int .i64 a.2.2.1, .slice p a.2.2.2.1.length q, .int .i64 a.2.2.2.2.1, .int .i64 a.2.2.2.2.2], .int .i64 n] w fun e w' =>
    e = .returned (.bool (evB n a)) ∧ Below w.heap.size w w' := by
  have BW := alloc_below w (.cells #[.int .i64 a.1, .int .i64 a.2.1, .int .i64 a.2.2.1, .slice p a.2.2.2.1.length q, .int .i64 a.2.2.2.2.1, .int .i64 a.2.2.2.2.2] 99)
  have R := Arr.new w [.int .i64 a.1, .int .i64 a.2.1, .int .i64 a.2.2.1, .slice p a.2.2.2.1.length q, .int .i64 a.2.2.2.2.1, .int .i64 a.2.2.2.2.2] 99
  obtain ⟨Z, HZ⟩ : ∃ Z, (if a.1 = 3 then (a.2.2.2.1.length : Int) == 0 else inB (a.2.2.2.1.length : Int) 1 20) = Z := ⟨_, rfl⟩
  have KX := hasEventContext_c a p q (w.alloc (.cells #[.int .i64 a.1, .int .i64 a.2.1, .int .i64 a.2.2.1, .slice p a.2.2.2.1.length q, .int .i64 a.2.2.2.2.1, .int .i64 a.2.2.2.2.2] 99))
  rw [HZ] at KX
  obtain ⟨A2, HA2⟩ : ∃ A, inB a.2.1 0 ((n : Int) - 1) = A := ⟨_, rfl⟩
  obtain ⟨A3, HA3⟩ : ∃ A, roleB a.2.2.1 = A := ⟨_, rfl⟩
  obtain ⟨A4, HA4⟩ : ∃ A, inB a.2.2.2.2.1 1 99 = A := ⟨_, rfl⟩
  obtain ⟨A5, HA5⟩ : ∃ A, inB a.2.2.2.2.2 0 9 = A := ⟨_, rfl⟩
  have HE : Hid (evB n a = (inB a.1 1 3 && A2 && A3 && A4 && A5 && Z)) := by show _ = _; unfold evB; rw [HZ, HA2, HA4, HA5, ← HA3, roleB_in]
  clear HZ
  have c0 := (R.cell 0).trans (show _ = some _ from rfl)
  have c1 := (R.cell 1).trans (show _ = some _ from rfl)
  have c2 := (R.cell 2).trans (show _ = some _ from rfl)
  have c3 := (R.cell 3).trans (show _ = some _ from rfl)
  have c4 := (R.cell 4).trans (show _ = some _ from rfl)
  have c5 := (R.cell 5).trans (show _ = some _ from rfl)
  clear R
  by_cases h1 : 1 ≤ a.1
  case neg =>
    have i1 : a.1 < 1 := by omega
    have hz : Hid (evB n a = false) := by show _ = _; rw [HE.out, inB_false (by omega)]; rfl
    clear h1 HE KX HA2 HA3 HA4 HA5
    go_enter Tryz.func76, Tryz.ntmps76
    go_wp2_with fail
    go_ret
    exact ⟨by rw [hz.out]; rfl, BW⟩
  have i1 : ¬ a.1 < 1 := by omega
  by_cases h2 : a.1 ≤ 3
  case neg =>
    have i2 : 3 < a.1 := by omega
    have hz : Hid (evB n a = false) := by show _ = _; rw [HE.out, inB_false (by omega)]; rfl
    clear h1 h2 HE KX HA2 HA3 HA4 HA5
    go_enter Tryz.func76, Tryz.ntmps76
    go_wp2_with fail
    go_ret
    exact ⟨by rw [hz.out]; rfl, BW⟩
  have i2 : ¬ 3 < a.1 := by omega
  have HE2 : Hid (evB n a = (true && A2 && A3 && A4 && A5 && Z)) := by show _ = _; rw [HE.out, inB_true h1 h2]
  clear HE h1 h2
  go_enter Tryz.func76, Tryz.ntmps76
  go_wp2_with fail
  refine (isPlaceOf_c a.2.1 n _).mono ?_
  rintro e w1 ⟨rfl, hw⟩
  rw [hw, HA2]
  clear hw w1
  cases A2
  case false =>
    go_wp2_with fail
    go_ret
    exact ⟨by rw [HE2.out]; rfl, BW⟩
  clear HA2
  go_wp2_with fail
  refine (isRole_c a.2.2.1 _).mono ?_
  rintro e w1 ⟨rfl, hw⟩
  rw [hw, HA3]
  clear hw w1
  cases A3
  case false =>
    go_wp2_with fail
    go_ret
    exact ⟨by rw [HE2.out]; rfl, BW⟩
  clear HA3
  go_wp2_with fail
  refine (isCertId_c a.2.2.2.2.1 _).mono ?_
  rintro e w1 ⟨rfl, hw⟩
  rw [hw, HA4]
  clear hw w1
  cases A4
  case false =>
    go_wp2_with fail
    go_ret
    exact ⟨by rw [HE2.out]; rfl, BW⟩
  clear HA4
  go_wp2_with fail
  refine (isGiver_c a.2.2.2.2.2 _).mono ?_
  rintro e w1 ⟨rfl, hw⟩
  rw [hw, HA5]
  clear hw w1
  cases A5
  case false =>
    go_wp2_with fail
    go_ret
    exact ⟨by rw [HE2.out]; rfl, BW⟩
  clear HA5
  go_wp2_with fail
  refine KX.mono ?_
  rintro e w2 ⟨rfl, hb⟩
  have BW2 := Below.step BW hb
  go_wp2_with fail
  go_ret
  exact ⟨by rw [HE2.out]; rfl, BW2⟩
end Go.Proofs.YthiabbgkfmopiaaGreat

