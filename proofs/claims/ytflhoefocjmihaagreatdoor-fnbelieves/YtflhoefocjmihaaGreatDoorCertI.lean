/- The contracts of the certificates in the program: isCertId, isOwner, isGiver, isCertUntil, isCert, certOf, CertsFault, PackCert, UnpackCert, LookCert, at every argument. What was there stays. -/
import Derived.Test.YtflhoefocjmihaaGreatDoorCertT
namespace Go.Proofs.YtflhoefocjmihaaGreatDoor
open Go.ChangeShapes Go.WideShapes Go.ChangeAt Go.RowKit

theorem isCertId_c (v : Int) (w : World) : Calls Tryz.prog 113 #[.int .i64 v] w fun e w' => e = .returned (.bool (inB v 1 99)) ∧ w' = w := by
  by_cases h1 : 1 ≤ v
  · by_cases h2 : v ≤ 99
    · rw [inB_true h1 h2]
      go_enter Tryz.func113, Tryz.ntmps113
      go_wp2
      go_ret
      exact ⟨rfl, rfl⟩
    · rw [inB_false (by omega)]
      go_enter Tryz.func113, Tryz.ntmps113
      go_wp2
      go_ret
      exact ⟨rfl, rfl⟩
  · rw [inB_false (by omega)]
    go_enter Tryz.func113, Tryz.ntmps113
    go_wp2
    go_ret
    exact ⟨rfl, rfl⟩
theorem isOwner_c (v : Int) (w : World) : Calls Tryz.prog 149 #[.int .i64 v] w fun e w' => e = .returned (.bool (inB v 1 9)) ∧ w' = w := by
  by_cases h1 : 1 ≤ v
  · by_cases h2 : v ≤ 9
    · rw [inB_true h1 h2]
      go_enter Tryz.func149, Tryz.ntmps149
      go_wp2
      go_ret
      exact ⟨rfl, rfl⟩
    · rw [inB_false (by omega)]
      go_enter Tryz.func149, Tryz.ntmps149
      go_wp2
      go_ret
      exact ⟨rfl, rfl⟩
  · rw [inB_false (by omega)]
    go_enter Tryz.func149, Tryz.ntmps149
    go_wp2
    go_ret
    exact ⟨rfl, rfl⟩
theorem isCertUntil_c (v : Int) (w : World) : Calls Tryz.prog 114 #[.int .i64 v] w fun e w' => e = .returned (.bool (inB v 0 9999)) ∧ w' = w := by
  by_cases h1 : 0 ≤ v
  · by_cases h2 : v ≤ 9999
    · rw [inB_true h1 h2]
      go_enter Tryz.func114, Tryz.ntmps114
      go_wp2
      go_ret
      exact ⟨rfl, rfl⟩
    · rw [inB_false (by omega)]
      go_enter Tryz.func114, Tryz.ntmps114
      go_wp2
      go_ret
      exact ⟨rfl, rfl⟩
  · rw [inB_false (by omega)]
    go_enter Tryz.func114, Tryz.ntmps114
    go_wp2
    go_ret
    exact ⟨rfl, rfl⟩
set_option maxRecDepth 4000 in
set_option maxHeartbeats 400000 in
theorem isCert_c (c : CertD) (w : World) :
    Calls Tryz.prog 115 #[.agg #[.int .i64 c.1, .int .i64 c.2.1, .int .i64 c.2.2]] w fun e w' => e = .returned (.bool (okC c)) ∧ Below w.heap.size w w' := by
  cases h1 : inB c.1 1 99
  · rw [show okC c = false by simp [okC, h1]]
    go_enter Tryz.func115, Tryz.ntmps115
    go_wp2_with fail
    refine (isCertId_c _ _).mono ?_
    rintro e w' ⟨rfl, hw⟩
    subst hw
    rw [h1]
    go_wp2
    go_ret
    exact ⟨rfl, alloc_below _ _⟩
  · cases h2 : inB c.2.1 1 9
    · rw [show okC c = false by simp [okC, h2]]
      go_enter Tryz.func115, Tryz.ntmps115
      go_wp2_with fail
      refine (isCertId_c _ _).mono ?_
      rintro e w' ⟨rfl, hw⟩
      subst hw
      rw [h1]
      go_wp2_with fail
      refine (isOwner_c _ _).mono ?_
      rintro e w' ⟨rfl, hw⟩
      subst hw
      rw [h2]
      go_wp2
      go_ret
      exact ⟨rfl, alloc_below _ _⟩
    · rw [show okC c = inB c.2.2 0 9999 by simp [okC, h1, h2]]
      go_enter Tryz.func115, Tryz.ntmps115
      go_wp2_with fail
      refine (isCertId_c _ _).mono ?_
      rintro e w' ⟨rfl, hw⟩
      subst hw
      rw [h1]
      go_wp2_with fail
      refine (isOwner_c _ _).mono ?_
      rintro e w' ⟨rfl, hw⟩
      subst hw
      rw [h2]
      go_wp2_with fail
      refine (isCertUntil_c _ _).mono ?_
      rintro e w' ⟨rfl, hw⟩
      subst hw
      go_wp2
      go_ret
      exact ⟨rfl, alloc_below _ _⟩
set_option maxRecDepth 4000 in
set_option maxHeartbeats 1000000 in
theorem certOf_c (l : List CertD) (p : Option Addr) (q : Nat) (id : Int) (w : World) (hr : RdL certC w p q l) :
    Calls Tryz.prog 86 #[.slice p l.length q, .int .i64 id] w fun e w' => e = .returned (.agg #[.int .i64 (foC l id).1, .int .i64 (foC l id).2.1, .int .i64 (foC l id).2.2]) ∧ Below w.heap.size w w' := by
  have HR : Hid (RdL certC w p q l) := hr
  have hq1 : l.length ≤ q := hr.1
  have hq2 : q ≤ 2 ^ 63 - 1 := hr.2.1
  have BW := alloc_below w (.cells #[.int .i64 0, .int .i64 0, .int .i64 0] 41)
  have R := Arr.new w [.int .i64 0, .int .i64 0, .int .i64 0] 41
  clear hr
  go_enter Tryz.func86, Tryz.ntmps86
  go_wp2
  go_loopw [9] (fun i wr => ∃ k : Nat, k ≤ l.length ∧ i = .int .i64 k ∧ hasC (l.take k) id = false ∧ Arr wr w.heap.size 41 [.int .i64 0, .int .i64 0, .int .i64 0] ∧ Below w.heap.size w wr)
    (fun i _ => l.length - (intOf i).toNat)
  case atStart => exact ⟨0, Nat.zero_le _, rfl, hasC_zero _ _, R, BW⟩
  case round =>
    clear R BW
    obtain ⟨k, hk, rfl, hn, R, BW⟩ := hrel
    by_cases hlt : k < l.length
    · have hI : (k : Int) < (l.length : Int) := by omega
      obtain ⟨b, o, e1, hc⟩ := (HR.out.keep BW).2.2.2 (by omega)
      subst e1
      obtain ⟨a, ha⟩ : ∃ a, l[k]? = some a := ⟨l[k], by simp [hlt]⟩
      obtain ⟨us, hrep, hcell⟩ := hc k a ha
      obtain rfl := cert_rep hrep
      have c0 := hcell 0 _ rfl
      have c1 := hcell 1 _ rfl
      have c2 := hcell 2 _ rfl
      rw [show certC.n = 3 from rfl] at c0 c1 c2
      rw [Nat.add_zero] at c0
      have R2 := R.old _ (.cells #[.int .i64 a.1, .int .i64 a.2.1, .int .i64 a.2.2] 41)
      have B2 := Below.mk BW (.cells #[.int .i64 a.1, .int .i64 a.2.1, .int .i64 a.2.2] 41)
      have r0 := R2.cell 0
      have r1 := R2.cell 1
      have r2 := R2.cell 2
      have fr := R2.frozen
      simp at r0 r1 r2
      clear hc hcell hrep R
      by_cases he : a.1 = id
      · have d : (a.1 == id) = true := by rw [beq_iff_eq]; exact he
        have HE : Hid (foC l id = a) := foC_at ha hn he
        clear he hn
        go_wp2_with fail
        refine bodyPost_ret (v := .agg #[.int .i64 a.1, .int .i64 a.2.1, .int .i64 a.2.2]) (by simp [results, Tryz.results86, go_sem, r0, r1, r2]) rfl ⟨by rw [HE.out], ?_⟩
        exact ((B2.setCell (Nat.le_refl _) _).setCell (Nat.le_refl _) _).setCell (Nat.le_refl _) _
      · have d : (a.1 == id) = false := by rw [beq_eq_false_iff_ne]; exact he
        have hn2 : Hid (hasC (l.take (k + 1)) id = false) := by show _ = _; rw [hasC_take ha, hn, d]; rfl
        clear he hn
        go_wp2_with fail
        go_roundw
        case rel => exact ⟨k + 1, by omega, by go_num, hn2.out, R2, B2⟩
        case measure => simp [intOf]; omega
    · have e : k = l.length := by omega
      subst e
      rw [List.take_length] at hn
      have HE : Hid (foC l id = zC) := foC_none hn
      have r0 := R.cell 0
      have r1 := R.cell 1
      have r2 := R.cell 2
      have fr := R.frozen
      simp at r0 r1 r2
      go_wp2_with fail
      refine bodyPost_ret (v := .agg #[.int .i64 0, .int .i64 0, .int .i64 0]) (by simp [results, Tryz.results86, go_sem, r0, r1, r2]) rfl ⟨by rw [HE.out]; rfl, ?_⟩
      exact ((BW.setCell (Nat.le_refl _) _).setCell (Nat.le_refl _) _).setCell (Nat.le_refl _) _
end Go.Proofs.YtflhoefocjmihaaGreatDoor

