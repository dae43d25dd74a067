/- The contracts of signatures in the program: isGiver, SignsFault, slices.Index and slices.Contains of int64, ownSign, ownSigns, at every argument. What was there stays. -/
import Derived.Test.YtdbpnibcblelbabGreatDoorJoint20
import Derived.Test.YtdbpnibcblelbabGreatDoorJoint13
namespace Go.Proofs.YtdbpnibcblelbabGreatDoor
open Go.ChangeShapes Go.WideShapes Go.ChangeAt Go.RowKit

theorem isGiver_c (v : Int) (w : World) : Calls Tryz.prog 71 #[.int .i64 v] w fun e w' => e = .returned (.bool (inB v 0 9)) ∧ w' = w := by
  by_cases h0 : v = 0
  · subst h0
    go_enter Tryz.func71, Tryz.ntmps71
    go_wp2
    go_ret
    exact ⟨rfl, rfl⟩
  · have d : (v == 0) = false := by rw [beq_eq_false_iff_ne]; exact h0
    rw [show inB v 0 9 = inB v 1 9 by simp only [inB]; congr 1; apply propext; omega]
    clear h0
    go_enter Tryz.func71, Tryz.ntmps71
    go_wp2_with fail
    refine (isOwner_c _ _).mono ?_
    rintro e w' ⟨rfl, rfl⟩
    go_wp2
    go_ret
    exact ⟨rfl, rfl⟩
set_option maxRecDepth 4000 in
set_option maxHeartbeats 1000000 in
theorem implSg_c (l : List SignD) (p : Option Addr) (q : Nat) (w : World) (hr : RdL signC w p q l) :
    Calls Tryz.prog 49 #[.slice p l.length q] w fun e w' => e = .returned (.int .i64 (sgC l)) ∧ Below w.heap.size w w' := by
  have HR : Hid (RdL signC w p q l) := hr
  have hq1 : l.length ≤ q := hr.1
  have hq2 : q ≤ 2 ^ 63 - 1 := hr.2.1
  clear hr
  by_cases hl : l.length ≤ 40
  · have hlI : ¬ (40 < (l.length : Int)) := by omega
    have HC : Hid (sgC l = sgF l) := by show _ = _; rw [sgC, if_pos hl]
    go_enter Tryz.func49, Tryz.ntmps49
    go_wp2
    go_loopw [10] (fun i wr => ∃ k : Nat, k ≤ l.length ∧ i = .int .i64 k ∧ sgC l = sgF (l.drop k) ∧ Below w.heap.size w wr)
      (fun i _ => l.length - (intOf i).toNat)
    case atStart => exact ⟨0, Nat.zero_le _, rfl, HC.out, Below.refl _ _⟩
    case round =>
      obtain ⟨k, hk, rfl, hn, BW⟩ := hrel
      by_cases hlt : k < l.length
      · have hI : (k : Int) < (l.length : Int) := by omega
        obtain ⟨b, o, e1, hc⟩ := (HR.out.keep BW).2.2.2 (by omega)
        subst e1
        obtain ⟨a, ha⟩ : ∃ a, l[k]? = some a := ⟨l[k], by simp [hlt]⟩
        obtain ⟨us, hrep, hcell⟩ := hc k a ha
        obtain ⟨pa, qa, rfl, ra⟩ := sign_rep hrep
        have c0 := hcell 0 _ rfl
        have c1 := hcell 1 _ rfl
        have c2 := hcell 2 _ rfl
        rw [show signC.n = 3 from rfl] at c0 c1 c2
        rw [Nat.add_zero] at c0
        clear hc hcell hrep ra
        have B2 := Below.mk BW (.cells #[.int .i64 a.1, .int .i64 a.2.1, .slice pa a.2.2.length qa] 59)
        have HO : Hid (sgO a = if inB a.1 1 99 && inB a.2.1 0 9 then (if is32 a.2.2 then 0 else 1) else 3) := rfl
        have H0 : Hid (sgO a = 0 → sgC l = sgF (l.drop (k + 1))) := fun h => hn.trans (sgF_step ha h)
        have H1 : Hid (sgO a ≠ 0 → sgC l = sgO a) := fun h => hn.trans (sgF_bad ha h)
        clear hn
        cases h1 : inB a.1 1 99
        · have hz : Hid (sgO a = 3) := by show _ = _; rw [HO.out, h1]; rfl
          have hz2 : Hid (sgC l = 3) := (H1.out (by rw [hz.out]; decide)).trans hz.out
          go_wp2_with fail
          refine (isCertId_c _ _).mono ?_
          rintro e w2 ⟨rfl, hw⟩
          subst hw
          rw [h1]
          go_wp2
          go_ret
          exact ⟨by rw [hz2.out]; rfl, B2⟩
        · cases h2 : inB a.2.1 0 9
          · have hz : Hid (sgO a = 3) := by show _ = _; rw [HO.out, h1, h2]; rfl
            have hz2 : Hid (sgC l = 3) := (H1.out (by rw [hz.out]; decide)).trans hz.out
            go_wp2_with fail
            refine (isCertId_c _ _).mono ?_
            rintro e w2 ⟨rfl, hw⟩
            subst hw
            rw [h1]
            go_wp2_with fail
            refine (isGiver_c _ _).mono ?_
            rintro e w2 ⟨rfl, hw⟩
            subst hw
            rw [h2]
            go_wp2
            go_ret
            exact ⟨by rw [hz2.out]; rfl, B2⟩
          · cases h3 : is32 a.2.2
            · have hz : Hid (sgO a = 1) := by show _ = _; rw [HO.out, h1, h2, h3]; rfl
              have hz2 : Hid (sgC l = 1) := (H1.out (by rw [hz.out]; decide)).trans hz.out
              go_wp2_with fail
              refine (isCertId_c _ _).mono ?_
              rintro e w2 ⟨rfl, hw⟩
              subst hw
              rw [h1]
              go_wp2_with fail
              refine (isGiver_c _ _).mono ?_
              rintro e w2 ⟨rfl, hw⟩
              subst hw
              rw [h2]
              go_wp2_with fail
              refine (isKeyR_c pa qa a.2.2 _).mono ?_
              rintro e w2 ⟨rfl, hw⟩
              subst hw
              rw [h3]
              go_wp2
              go_ret
              exact ⟨by rw [hz2.out]; rfl, B2⟩
            · have hz : Hid (sgO a = 0) := by show _ = _; rw [HO.out, h1, h2, h3]; rfl
              have hz2 : Hid (sgC l = sgF (l.drop (k + 1))) := H0.out hz.out
              go_wp2_with fail
              refine (isCertId_c _ _).mono ?_
              rintro e w2 ⟨rfl, hw⟩
              subst hw
              rw [h1]
              go_wp2_with fail
              refine (isGiver_c _ _).mono ?_
              rintro e w2 ⟨rfl, hw⟩
              subst hw
              rw [h2]
              go_wp2_with fail
              refine (isKeyR_c pa qa a.2.2 _).mono ?_
              rintro e w2 ⟨rfl, hw⟩
              subst hw
              rw [h3]
              go_wp2_with fail
              go_roundw
              case rel => exact ⟨k + 1, by omega, by go_num, hz2.out, B2⟩
              case measure => simp [intOf]; omega
      · have e : k = l.length := by omega
        subst e
        have hn2 : Hid (sgC l = 0) := hn.trans (sgF_end l)
        clear hn
        go_wp2
        go_ret
        exact ⟨by rw [hn2.out]; rfl, BW⟩
  · have hlI : 40 < (l.length : Int) := by omega
    rw [show sgC l = 2 by rw [sgC, if_neg hl]]
    clear hl
    go_enter Tryz.func49, Tryz.ntmps49
    go_wp2
    go_ret
    exact ⟨rfl, Below.refl _ _⟩
end Go.Proofs.YtdbpnibcblelbabGreatDoor

