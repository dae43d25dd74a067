/- Chapter 15, the specification's side: whether a world has a fault (written by tools/wld_s.py). -/
import Derived.Test.YthiabbgkfmopiaaGreatJoint15
import Derived.Test.YthiabbgkfmopiaaGreatSesS
import Derived.Test.YthiabbgkfmopiaaGreatJoint17
namespace Go.Proofs.YthiabbgkfmopiaaGreat
open Go.ChangeShapes Go.WideShapes Go.ChangeAt Go.RowKit

theorem l1Same_d (a b : Option Addr) (ca cb : Nat) (xs bs : List UInt8) (w : World) (hra : Rd w a ca xs) (hrb : Rd w b cb bs) :
    Calls Tryz.prog 68 #[.slice a xs.length ca, .slice b bs.length cb] w fun e w' => e = .returned (.bool (sameB xs bs)) ∧ Below w.heap.size w w' := (l1Same_c a b ca cb xs bs w hra hrb).mono fun _ _ h => ⟨h.1, by rw [h.2]; exact Below.refl _ _⟩
set_option maxRecDepth 4000 in
set_option maxHeartbeats 2000000 in
theorem l15Link_c (b o : Nat) (a : LinkD) (pc1 pc3 pc4 pc5 ps1 ps3 ps4 ps5 : Option Addr) (qc1 qc3 qc4 qc5 qs1 qs3 qs4 qs5 : Nat) (w : World) (c0 : w.cell? ⟨b, o, none⟩ = some (.int .i64 a.1)) (c1 : w.cell? ⟨b, o + 1, none⟩ = some (.int .i64 a.2.1)) (AC : AtSes w b (o + 2) pc1 qc1 pc3 qc3 pc4 qc4 pc5 qc5 a.2.2.1) (AS : AtSes w b (o + 7) ps1 qs1 ps3 qs3 ps4 qs4 ps5 qs5 a.2.2.2) (rc1 : Rd w pc1 qc1 a.2.2.1.1) (rc3 : RdL bytC w pc3 qc3 a.2.2.1.2.2.1) (rc4 : RdL bytC w pc4 qc4 a.2.2.1.2.2.2.1) (rc5 : RdL holdC w pc5 qc5 a.2.2.1.2.2.2.2) (rs1 : Rd w ps1 qs1 a.2.2.2.1) (rs3 : RdL bytC w ps3 qs3 a.2.2.2.2.2.1) (rs4 : RdL bytC w ps4 qs4 a.2.2.2.2.2.2.1) (rs5 : RdL holdC w ps5 qs5 a.2.2.2.2.2.2.2) :
    Calls Tryz.prog 42 #[.pointer (some ⟨b, o, none⟩)] w fun e w' => e = .returned (.int .i64 (lkF hdS a)) ∧ Below w.heap.size w w' := by
  obtain ⟨A, HA⟩ : ∃ A, inB a.1 1 9 = A := ⟨_, rfl⟩
  obtain ⟨B, HB⟩ : ∃ B, inB a.2.1 1 9 = B := ⟨_, rfl⟩
  go_enter Tryz.func42, Tryz.ntmps42
  go_wp2_with fail
  refine (l1In_c a.1 1 9 w).mono ?_
  rintro e w1 ⟨rfl, hw⟩
  rw [hw, HA]
  clear hw w1
  cases A
  case false =>
    go_wp2_with fail
    go_ret
    exact ⟨by unfold lkF; rw [if_neg (by rw [HA]; simp)]; rfl, Below.refl _ _⟩
  go_wp2_with fail
  refine (l1In_c a.2.1 1 9 w).mono ?_
  rintro e w1 ⟨rfl, hw⟩
  rw [hw, HB]
  clear hw w1
  cases B
  case false =>
    go_wp2_with fail
    go_ret
    exact ⟨by unfold lkF; rw [if_neg (by rw [HB]; simp)]; rfl, Below.refl _ _⟩
  have HAB : Hid (lkF hdS a = (if seF hdS a.2.2.1 = 0 then (if seF hdS a.2.2.2 = 0 then (if a.2.2.1.2.1 = 1 ∧ a.2.2.2.2.1 = 2 ∧ sameB a.2.2.1.1 a.2.2.2.1 = true then 0 else 1) else seF hdS a.2.2.2) else seF hdS a.2.2.1)) := by show _ = _; unfold lkF; rw [if_pos ⟨HA, HB⟩]
  clear HA HB
  go_wp2_with fail
  refine (l14Fault_c b (o + 2) pc1 pc3 pc4 pc5 qc1 qc3 qc4 qc5 a.2.2.1 w AC rc3 rc4 rc5).mono ?_
  rintro e w1 ⟨rfl, hb⟩
  by_cases h2 : seF hdS a.2.2.1 = 0
  case neg =>
    have d0 : (seF hdS a.2.2.1 != 0) = true := by rw [bne_iff_ne]; exact h2
    have he : Hid (lkF hdS a = seF hdS a.2.2.1) := by show _ = _; rw [HAB.out, if_neg h2]
    generalize seF hdS a.2.2.1 = k0 at *
    go_wp2_with fail
    go_ret
    exact ⟨by rw [he.out]; rfl, hb⟩
  rw [h2]
  have HB2 : Hid (lkF hdS a = (if seF hdS a.2.2.2 = 0 then (if a.2.2.1.2.1 = 1 ∧ a.2.2.2.2.1 = 2 ∧ sameB a.2.2.1.1 a.2.2.2.1 = true then 0 else 1) else seF hdS a.2.2.2)) := by show _ = _; rw [HAB.out, if_pos h2]
  clear HAB h2
  replace AS := AS.keep hb
  replace AC := AC.keep hb
  replace rc1 := rc1.keep hb
  replace rs1 := rs1.keep hb
  replace rs3 := rs3.keep hb
  replace rs4 := rs4.keep hb
  replace rs5 := rs5.keep hb
  go_wp2_with fail
  refine (l14Fault_c b (o + 7) ps1 ps3 ps4 ps5 qs1 qs3 qs4 qs5 a.2.2.2 w1 AS rs3 rs4 rs5).mono ?_
  rintro e w2 ⟨rfl, hb2⟩
  have BW := Below.step hb hb2
  by_cases h3 : seF hdS a.2.2.2 = 0
  case neg =>
    have d0 : (seF hdS a.2.2.2 != 0) = true := by rw [bne_iff_ne]; exact h3
    have he : Hid (lkF hdS a = seF hdS a.2.2.2) := by show _ = _; rw [HB2.out, if_neg h3]
    generalize seF hdS a.2.2.2 = k0 at *
    go_wp2_with fail
    go_ret
    exact ⟨by rw [he.out]; rfl, BW⟩
  rw [h3]
  have HC2 : Hid (lkF hdS a = (if a.2.2.1.2.1 = 1 ∧ a.2.2.2.2.1 = 2 ∧ sameB a.2.2.1.1 a.2.2.2.1 = true then 0 else 1)) := by show _ = _; rw [HB2.out, if_pos h3]
  clear HB2 h3 hb
  replace AS := AS.keep hb2
  replace AC := AC.keep hb2
  replace rc1 := rc1.keep hb2
  replace rs1 := rs1.keep hb2
  have c0 := AC.c0
  have c1 := AC.c1
  have s0 := AS.c0
  have s1 := AS.c1
  clear hb2
  go_wp2_with fail
  replace c0 := HW.at c0
  replace c1 := HW.at c1
  replace s0 := HW.at s0
  replace s1 := HW.at s1
  have hne := HW.some w2
  by_cases h4 : a.2.2.1.2.1 = 1
  case neg =>
    have d1 : (a.2.2.1.2.1 != 1) = true := by rw [bne_iff_ne]; exact h4
    refine wp_region_class rfl (by kernel_rfl) ?_
    repeat (go_big_quiet_step ((go_at_call 68; exact Calls.stay (l1Same_d _ _ _ _ _ _ _ (rc1.keep (HW.h _)) (rs1.keep (HW.h _))))))
    refine wpQuiet_nil ?_
    intro w' hw'
    have BW2 := Below.step BW (HW.out hw')
    go_wp2_with fail
    go_ret
    exact ⟨by rw [HC2.out, if_neg (fun k => h4 k.1)]; rfl, BW2⟩
  have d1 : (a.2.2.1.2.1 != 1) = false := by rw [bne_eq_false_iff_eq]; exact h4
  by_cases h5 : a.2.2.2.2.1 = 2
  case neg =>
    have d2 : (a.2.2.2.2.1 != 2) = true := by rw [bne_iff_ne]; exact h5
    refine wp_region_class rfl (by kernel_rfl) ?_
    repeat (go_big_quiet_step ((go_at_call 68; exact Calls.stay (l1Same_d _ _ _ _ _ _ _ (rc1.keep (HW.h _)) (rs1.keep (HW.h _))))))
    refine wpQuiet_nil ?_
    intro w' hw'
    have BW2 := Below.step BW (HW.out hw')
    go_wp2_with fail
    go_ret
    exact ⟨by rw [HC2.out, if_neg (fun k => h5 k.2.1)]; rfl, BW2⟩
  have d2 : (a.2.2.2.2.1 != 2) = false := by rw [bne_eq_false_iff_eq]; exact h5
  refine wp_region_class rfl (by kernel_rfl) ?_
  repeat (go_big_quiet_step ((go_at_call 68; exact Calls.stay (l1Same_d _ _ _ _ _ _ _ (rc1.keep (HW.h _)) (rs1.keep (HW.h _))))))
  refine wpQuiet_nil ?_
  intro w' hw'
  have BW2 := Below.step BW (HW.out hw')
  cases h6 : sameB a.2.2.1.1 a.2.2.2.1
  · skip
    go_wp2_with fail
    go_ret
    exact ⟨by rw [HC2.out, if_neg (fun k => by rw [h6] at k; exact absurd k.2.2 (by decide))]; rfl, BW2⟩
  · skip
    go_wp2_with fail
    go_ret
    exact ⟨by rw [HC2.out, if_pos ⟨h4, h5, h6⟩]; rfl, BW2⟩
end Go.Proofs.YthiabbgkfmopiaaGreat

