/- The walk of FnBelieves, where the two tables hold what the program's text lays (written by tools/walk_believes.py). -/
import Derived.Test.YtflhoefocjmihaaGreatDoorDrawCk
import Derived.Test.YtflhoefocjmihaaGreatDoorAuthX
import Derived.Test.YtflhoefocjmihaaGreatDoorAuthY
import Derived.Test.YtflhoefocjmihaaGreatDoorAuthK
import Derived.Test.YtflhoefocjmihaaGreatDoorAuthJ
import Derived.Test.YtflhoefocjmihaaGreatDoorJoint20
import Derived.Test.YtflhoefocjmihaaGreatDoorSignN
import Derived.Test.YtflhoefocjmihaaGreatDoorJoint8
import Derived.Test.YtflhoefocjmihaaGreatDoorJoint7
import Derived.Test.YtflhoefocjmihaaGreatDoorJoint1
namespace Go.Proofs.YtflhoefocjmihaaGreatDoor
open Go.ChangeShapes Go.WideShapes Go.ChangeAt Go.RowKit

theorem caC_all {x : List UInt8} {r : Int} {certs : List CertD} {signs : List SignD} {now : Int} {data : List UInt8} {a : AuthD} (h : caC x r certs signs now data = 0) (ha : (raR data).getD zeroA = a) :
    akC x r = 0 ∧ ctC certs = 0 ∧ sgC signs = 0 ∧ inB now 0 9999 = true ∧ raR data = some a ∧ hkC x r certs signs now a = 0 := by
  unfold caC at h
  by_cases h1 : akC x r = 0
  · rw [if_pos h1] at h
    by_cases h2 : ctC certs = 0
    · rw [if_pos h2] at h
      by_cases h3 : sgC signs = 0
      · rw [if_pos h3] at h
        cases h4 : inB now 0 9999
        · simp [h4] at h
        · rw [h4, if_pos rfl] at h
          cases h5 : raR data with
          | none => simp [h5] at h
          | some b =>
            rw [h5] at h ha
            have hb : b = a := ha
            subst hb
            exact ⟨h1, h2, h3, rfl, rfl, h⟩
      · rw [if_neg h3] at h; exact absurd h h3
    · rw [if_neg h2] at h; exact absurd h h2
  · rw [if_neg h1] at h; exact absurd h h1
set_option maxRecDepth 4000 in
set_option maxHeartbeats 8000000 in
theorem fnBelieves_walk (b : Option Addr) (cap : Nat) (bs0 : List UInt8) (w : World) (r0 : Rd w b cap bs0) (hT : Tabs w) :
    Calls Tryz.prog 5 #[.slice b bs0.length cap] w fun e w' => e = .returned (.bool true) ∧ Below w.heap.size w w' := by
  by_cases hl0 : 1048576 < bs0.length
  · go_enter Tryz.func5, Tryz.ntmps5
    go_wp2_with fail
    refine (lwBig_yes _ _ _ _ hl0).mono ?_
    rintro e w1 ⟨rfl, rfl⟩
    go_wp2
    go_ret
    exact ⟨rfl, Below.refl _ _⟩
  replace hl0 : bs0.length ≤ 1048576 := by omega
  have HR0 : Hid (Rd w b cap bs0) := r0
  have HT : Hid (Tabs w) := hT
  clear r0 hT
  go_enter Tryz.func5, Tryz.ntmps5
  go_wp2_with fail
  refine (lwBig_no _ _ _ _ hl0).mono ?_
  rintro e w1 ⟨rfl, hw1⟩
  rw [hw1]
  clear hw1 w1
  go_wp2_with fail
  refine (drawCk_c _ _ bs0 _ HR0.out).mono ?_
  rintro e w1 ⟨x, r, l, s, now, d, px, pc, ps, pd, qx, qc, qs, qd, rfl, RX, RC, RS, RU, BW⟩
  obtain ⟨A, HA⟩ : ∃ A, Hid (caD x r l s now d = A) := ⟨_, rfl⟩
  have KC := implCa_k px pc ps pd qx qc qs qd x r l s now d w1 RX RC RS RU (HT.out.keep BW)
  rw [HA.out] at KC
  go_wp2_with fail
  refine KC.mono ?_
  rintro e w2 ⟨us, fp, rfl, ko, hb⟩
  have kr := authResultC.toRep ko
  obtain ⟨pa1, qa1, pa4, qa4, rfl, ra1, ra4⟩ := authResult_rep kr
  replace RX := RX.keep hb
  replace RC := RC.keep hb
  replace RS := RS.keep hb
  replace RU := RU.keep hb
  replace BW := Below.step BW hb
  clear hb ko kr KC
  by_cases h0 : A.1 = 0
  · skip
    obtain ⟨a, HAa⟩ : ∃ a, A.2 = a := ⟨_, rfl⟩
    have hAe : A = (0, a) := by rw [← HAa, ← h0]
    subst hAe
    have hca : caC x r l s now d = 0 := by
      by_cases h : caC x r l s now d = 0
      · exact h
      · have h2 := HA.out; rw [caD, if_neg h] at h2; exact absurd (congrArg Prod.fst h2) h
    obtain ⟨hak, hct, hsg, hnow, hra, hhk⟩ := caC_all (a := a) hca (by have h2 := HA.out; rw [caD, if_pos hca] at h2; exact congrArg Prod.snd h2)
    obtain ⟨hhas, hfo, hno, hck, hmc⟩ := hkC_ok hhk
    have hmk := hk_made hra hhk
    obtain ⟨hcx, hoc, hp0, hp1, -, -, -⟩ := raR_back hra
    have hpl : a.2.2.1 ≤ 39 := by
      have h40 := (sgC_all.1 hsg).1
      by_cases h : 0 ≤ a.2.2.1 ∧ a.2.2.1 < s.length
      · omega
      · rw [ckA_out h] at hck; cases hck
    have had : adC x r a.1 a.2.1 = 0 := by rw [adC, if_pos hak, hcx, hoc]; rfl
    have HMA : Hid (maD x r a.1 a.2.1 a.2.2.1 = (0, d)) := by show _ = _; rw [maD, if_pos (by rw [maC, if_pos had, inB_true hp0 hpl]; rfl), hmk]
    have HAD : Hid (adD x r a.1 a.2.1 = (0, dgN x r a.1 a.2.1)) := by show _ = _; rw [adD, if_pos had]
    have HLK : Hid (lkD l a.2.1.1 = (0, a.2.1)) := by show _ = _; rw [lkD, if_pos hct, hhas, hfo]; rfl
    have HCK : Hid (ckB s a.2.2.1 a.2.1.1 (dgN x r a.1 a.2.1) = true) := by show _ = _; rw [ckB, hsg, hck]; rfl
    have hop := okC_parts hoc
    have HW1 : Hid ((Lit.int .i64 a.2.2.1).wf = true) := wf_i64 (by omega) (by omega)
    have HW2 : Hid ((Lit.int .i64 a.2.1.1).wf = true) := wf_i64 (by omega) (by omega)
    have dno : decide (a.2.1.2.2 ≥ now) = true := by simp; exact hno
    clear HA h0 hca hak hct hsg hra hhk hhas hfo hck hmc hmk hcx hoc hp0 hp1 hpl had hop HAa hno hnow
    simp only [] at ra1 ra4
    have hl := alloc_below w2 (.cells #[.int .i64 0, .slice pa1 a.1.length qa1, .int .i64 a.2.1.1, .int .i64 a.2.1.2.1, .int .i64 a.2.1.2.2, .int .i64 a.2.2.1, .slice pa4 a.2.2.2.length qa4] 53)
    have AR := Arr.new w2 [.int .i64 0, .slice pa1 a.1.length qa1, .int .i64 a.2.1.1, .int .i64 a.2.1.2.1, .int .i64 a.2.1.2.2, .int .i64 a.2.2.1, .slice pa4 a.2.2.2.length qa4] 53
    have RA := ra1
    clear ra1 ra4
    replace RX := RX.keep hl
    replace RC := RC.keep hl
    replace RS := RS.keep hl
    replace RU := RU.keep hl
    replace RA := RA.keep hl
    replace BW := Below.step BW hl
    clear hl
    go_wp2_with fail
    generalize hV : w2.alloc (.cells #[.int .i64 0, .slice pa1 a.1.length qa1, .int .i64 a.2.1.1, .int .i64 a.2.1.2.1, .int .i64 a.2.1.2.2, .int .i64 a.2.2.1, .slice pa4 a.2.2.2.length qa4] 53) = V2 at *
    clear hV
    have a0 := (AR.cell 0).trans (show _ = some _ from rfl)
    have a1 := (AR.cell 1).trans (show _ = some _ from rfl)
    have a2 := (AR.cell 2).trans (show _ = some _ from rfl)
    have a3 := (AR.cell 3).trans (show _ = some _ from rfl)
    have a4 := (AR.cell 4).trans (show _ = some _ from rfl)
    have a5 := (AR.cell 5).trans (show _ = some _ from rfl)
    have a6 := (AR.cell 6).trans (show _ = some _ from rfl)
    have KD := implAd_c px pa1 qx qa1 x a.1 r a.2.1 V2 RX RA (HT.out.keep BW)
    rw [HAD.out] at KD
    obtain ⟨dg, HDG⟩ : ∃ dg, Hid (dgN x r a.1 a.2.1 = dg) := ⟨_, rfl⟩
    rw [HDG.out] at KD HCK
    clear HAD HDG
    go_wp2_with fail
    refine KD.mono ?_
    rintro e w3 ⟨u, rfl, kd, hb⟩
    obtain ⟨pg, qg, rfl, RG⟩ := kd.rd
    replace RX := RX.keep hb
    replace RC := RC.keep hb
    replace RS := RS.keep hb
    replace RU := RU.keep hb
    replace RA := RA.keep hb
    replace AR := AR.stay hb
    replace BW := Below.step BW hb
    have hl := alloc_below w3 (.cells #[.int .i64 0, .slice pg dg.length qg] 45)
    have DR := Arr.new w3 [.int .i64 0, .slice pg dg.length qg] 45
    replace RX := RX.keep hl
    replace RC := RC.keep hl
    replace RS := RS.keep hl
    replace RU := RU.keep hl
    replace RA := RA.keep hl
    replace RG := RG.keep hl
    replace AR := AR.stay hl
    replace BW := Below.step BW hl
    clear hb hl kd KD a0 a1 a2 a3 a4 a5 a6
    have a0 := (AR.cell 0).trans (show _ = some _ from rfl)
    have a1 := (AR.cell 1).trans (show _ = some _ from rfl)
    have a2 := (AR.cell 2).trans (show _ = some _ from rfl)
    have a3 := (AR.cell 3).trans (show _ = some _ from rfl)
    have a4 := (AR.cell 4).trans (show _ = some _ from rfl)
    have a5 := (AR.cell 5).trans (show _ = some _ from rfl)
    have a6 := (AR.cell 6).trans (show _ = some _ from rfl)
    go_wp2_with fail
    generalize hV : w3.alloc (.cells #[.int .i64 0, .slice pg dg.length qg] 45) = V3 at *
    clear hV
    have KL := implLk_c l pc qc a.2.1.1 V3 RC
    rw [HLK.out] at KL
    refine KL.mono ?_
    rintro e w4 ⟨rfl, hb⟩
    replace RX := RX.keep hb
    replace RC := RC.keep hb
    replace RS := RS.keep hb
    replace RU := RU.keep hb
    replace RA := RA.keep hb
    replace RG := RG.keep hb
    replace AR := AR.stay hb
    replace DR := DR.stay hb
    replace BW := Below.step BW hb
    have hl := alloc_below w4 (.cells #[.int .i64 0, .int .i64 a.2.1.1, .int .i64 a.2.1.2.1, .int .i64 a.2.1.2.2] 62)
    have LR := Arr.new w4 [.int .i64 0, .int .i64 a.2.1.1, .int .i64 a.2.1.2.1, .int .i64 a.2.1.2.2] 62
    replace RX := RX.keep hl
    replace RC := RC.keep hl
    replace RS := RS.keep hl
    replace RU := RU.keep hl
    replace RA := RA.keep hl
    replace RG := RG.keep hl
    replace AR := AR.stay hl
    replace DR := DR.stay hl
    replace BW := Below.step BW hl
    clear hb hl KL HLK a0 a1 a2 a3 a4 a5 a6
    have a0 := (AR.cell 0).trans (show _ = some _ from rfl)
    have a1 := (AR.cell 1).trans (show _ = some _ from rfl)
    have a2 := (AR.cell 2).trans (show _ = some _ from rfl)
    have a3 := (AR.cell 3).trans (show _ = some _ from rfl)
    have a4 := (AR.cell 4).trans (show _ = some _ from rfl)
    have a5 := (AR.cell 5).trans (show _ = some _ from rfl)
    have a6 := (AR.cell 6).trans (show _ = some _ from rfl)
    have KM := implMa_c px pa1 qx qa1 x a.1 r a.2.1 a.2.2.1 _ RX RA (HT.out.keep BW)
    rw [HMA.out] at KM
    go_wp2_with fail
    generalize hV : w4.alloc (.cells #[.int .i64 0, .int .i64 a.2.1.1, .int .i64 a.2.1.2.1, .int .i64 a.2.1.2.2] 62) = V4 at *
    clear hV
    refine KM.mono ?_
    rintro e w5 ⟨u, rfl, km, hb⟩
    obtain ⟨pm, qm, rfl, RM⟩ := km.rd
    replace RX := RX.keep hb
    replace RC := RC.keep hb
    replace RS := RS.keep hb
    replace RU := RU.keep hb
    replace RA := RA.keep hb
    replace RG := RG.keep hb
    replace AR := AR.stay hb
    replace DR := DR.stay hb
    replace LR := LR.stay hb
    replace BW := Below.step BW hb
    have hl := alloc_below w5 (.cells #[.int .i64 0, .slice pm d.length qm] 45)
    have MR := Arr.new w5 [.int .i64 0, .slice pm d.length qm] 45
    replace RX := RX.keep hl
    replace RC := RC.keep hl
    replace RS := RS.keep hl
    replace RU := RU.keep hl
    replace RA := RA.keep hl
    replace RG := RG.keep hl
    replace RM := RM.keep hl
    replace AR := AR.stay hl
    replace DR := DR.stay hl
    replace LR := LR.stay hl
    replace BW := Below.step BW hl
    clear hb hl km KM HMA a0 a1 a2 a3 a4 a5 a6
    have a0 := (AR.cell 0).trans (show _ = some _ from rfl)
    have a1 := (AR.cell 1).trans (show _ = some _ from rfl)
    have a2 := (AR.cell 2).trans (show _ = some _ from rfl)
    have a3 := (AR.cell 3).trans (show _ = some _ from rfl)
    have a4 := (AR.cell 4).trans (show _ = some _ from rfl)
    have a5 := (AR.cell 5).trans (show _ = some _ from rfl)
    have a6 := (AR.cell 6).trans (show _ = some _ from rfl)
    have d0 := (DR.cell 0).trans (show _ = some _ from rfl)
    have d1 := (DR.cell 1).trans (show _ = some _ from rfl)
    have l0 := (LR.cell 0).trans (show _ = some _ from rfl)
    have l1 := (LR.cell 1).trans (show _ = some _ from rfl)
    have l2 := (LR.cell 2).trans (show _ = some _ from rfl)
    have l3 := (LR.cell 3).trans (show _ = some _ from rfl)
    have m0 := (MR.cell 0).trans (show _ = some _ from rfl)
    have m1 := (MR.cell 1).trans (show _ = some _ from rfl)
    have KS : Hid (∀ W : World, RdL signC W ps qs s → Rd W pg qg dg → Calls Tryz.prog 28 #[.slice ps s.length qs, .int .i64 a.2.2.1, .int .i64 a.2.1.1, .slice pg dg.length qg] W fun e w' => e = .returned (.bool true) ∧ Below W.heap.size W w') := fun W h1 h2 => by
      have h := implCk_c s ps pg qs qg a.2.2.1 a.2.1.1 dg W h1 h2 HW1.out HW2.out
      rw [HCK.out] at h
      exact h
    clear HCK HW1 HW2
    go_wp2_with fail
    generalize hV : w5.alloc (.cells #[.int .i64 0, .slice pm d.length qm] 45) = VF at *
    clear hV
    refine (KS.out VF RS RG).mono ?_
    rintro e w6 ⟨rfl, hb⟩
    replace RX := RX.keep hb
    replace RC := RC.keep hb
    replace RS := RS.keep hb
    replace RU := RU.keep hb
    replace RA := RA.keep hb
    replace RG := RG.keep hb
    replace RM := RM.keep hb
    replace AR := AR.stay hb
    replace DR := DR.stay hb
    replace LR := LR.stay hb
    replace MR := MR.stay hb
    replace BW := Below.step BW hb
    clear hb KS a0 a1 a2 a3 a4 a5 a6 d1 l0 l1 l2 l3 m1 d0 m0
    have a0 := (AR.cell 0).trans (show _ = some _ from rfl)
    have a1 := (AR.cell 1).trans (show _ = some _ from rfl)
    have a2 := (AR.cell 2).trans (show _ = some _ from rfl)
    have a3 := (AR.cell 3).trans (show _ = some _ from rfl)
    have a4 := (AR.cell 4).trans (show _ = some _ from rfl)
    have a5 := (AR.cell 5).trans (show _ = some _ from rfl)
    have a6 := (AR.cell 6).trans (show _ = some _ from rfl)
    have m0 := (MR.cell 0).trans (show _ = some _ from rfl)
    have m1 := (MR.cell 1).trans (show _ = some _ from rfl)
    go_wp2_with fail
    refine (lwSame_yes _ _ _ _ _ _ d _ rfl rfl RM RU).mono ?_
    rintro e w7 ⟨rfl, hw⟩
    rw [hw]
    clear hw w7
    go_wp2_with fail
    go_ret
    exact ⟨rfl, BW⟩
  · skip
    obtain ⟨k, HK⟩ : ∃ k, A.1 = k := ⟨_, rfl⟩
    obtain ⟨a, HAa⟩ : ∃ a, A.2 = a := ⟨_, rfl⟩
    have hAe : A = (k, a) := by rw [← HAa, ← HK]
    rw [HK] at h0
    subst hAe
    clear HAa HK
    simp only [] at ra1 ra4
    have dk : (k != 0) = true := by rw [bne_iff_ne]; exact h0
    have dkk : (k == k) = true := beq_self_eq_true k
    clear ra1 ra4 h0
    have hl := alloc_below w2 (.cells #[.int .i64 k, .slice pa1 a.1.length qa1, .int .i64 a.2.1.1, .int .i64 a.2.1.2.1, .int .i64 a.2.1.2.2, .int .i64 a.2.2.1, .slice pa4 a.2.2.2.length qa4] 53)
    have AR := Arr.new w2 [.int .i64 k, .slice pa1 a.1.length qa1, .int .i64 a.2.1.1, .int .i64 a.2.1.2.1, .int .i64 a.2.1.2.2, .int .i64 a.2.2.1, .slice pa4 a.2.2.2.length qa4] 53
    replace RX := RX.keep hl
    replace RC := RC.keep hl
    replace RS := RS.keep hl
    replace RU := RU.keep hl
    replace BW := Below.step BW hl
    have a0 := (AR.cell 0).trans (show _ = some _ from rfl)
    have a1 := (AR.cell 1).trans (show _ = some _ from rfl)
    have a2 := (AR.cell 2).trans (show _ = some _ from rfl)
    have a3 := (AR.cell 3).trans (show _ = some _ from rfl)
    have a4 := (AR.cell 4).trans (show _ = some _ from rfl)
    have a5 := (AR.cell 5).trans (show _ = some _ from rfl)
    have a6 := (AR.cell 6).trans (show _ = some _ from rfl)
    clear hl
    go_wp2_with fail
    generalize hV : w2.alloc (.cells #[.int .i64 k, .slice pa1 a.1.length qa1, .int .i64 a.2.1.1, .int .i64 a.2.1.2.1, .int .i64 a.2.1.2.2, .int .i64 a.2.2.1, .slice pa4 a.2.2.2.length qa4] 53) = V2 at *
    clear hV
    refine (drawRa_c _ _ bs0 V2 (HR0.out.keep BW)).mono ?_
    rintro e w3 ⟨pr, qr, dr, rfl, RR, hb⟩
    replace RX := RX.keep hb
    replace RC := RC.keep hb
    replace RS := RS.keep hb
    replace RU := RU.keep hb
    replace AR := AR.stay hb
    replace BW := Below.step BW hb
    clear hb a0 a1 a2 a3 a4 a5 a6
    have a0 := (AR.cell 0).trans (show _ = some _ from rfl)
    have a1 := (AR.cell 1).trans (show _ = some _ from rfl)
    have a2 := (AR.cell 2).trans (show _ = some _ from rfl)
    have a3 := (AR.cell 3).trans (show _ = some _ from rfl)
    have a4 := (AR.cell 4).trans (show _ = some _ from rfl)
    have a5 := (AR.cell 5).trans (show _ = some _ from rfl)
    have a6 := (AR.cell 6).trans (show _ = some _ from rfl)
    have KS : Hid (∀ W : World, Rd W px qx x → RdL certC W pc qc l → RdL signC W ps qs s → Rd W pd qd d → Calls Tryz.prog 25 #[.slice px x.length qx, .int .i64 r, .slice pc l.length qc, .slice ps s.length qs, .int .i64 now, .slice pd d.length qd] W fun e w' => ∃ us fp, e = .returned (.agg us.toArray) ∧ authResultC.own w' W.heap.size ((k, a) : AuthResultD) us fp ∧ Below W.heap.size W w') := fun W h1 h2 h3 h4 => by
      have h := specCa_k px pc ps pd qx qc qs qd x r l s now d W h1 h2 h3 h4
      rw [HA.out] at h
      exact h
    clear HA AR
    obtain ⟨D, HD⟩ : ∃ D, Hid (raD dr = D) := ⟨_, rfl⟩
    have KI : Hid (∀ W : World, Rd W pr qr dr → Calls Tryz.prog 20 #[.slice pr dr.length qr] W fun e w' => ∃ us fp, e = .returned (.agg us.toArray) ∧ authResultC.own w' W.heap.size D us fp ∧ Below W.heap.size W w') := fun W h => by
      have h2 := implRa_k dr pr qr W h
      rw [HD.out] at h2
      exact h2
    have KJ : Hid (∀ W : World, Rd W pr qr dr → Calls Tryz.prog 26 #[.slice pr dr.length qr] W fun e w' => ∃ us fp, e = .returned (.agg us.toArray) ∧ authResultC.own w' W.heap.size D us fp ∧ Below W.heap.size W w') := fun W h => by
      have h2 := specRa_k dr pr qr W h
      rw [HD.out] at h2
      exact h2
    have dDD : (D.1 == D.1) = true := beq_self_eq_true _
    have F0 := authR_f0
    clear HD
    go_wp2_with fail
    have hne := HW.some w3
    have ga0 := HW.at a0
    clear a0 a1 a2 a3 a4 a5 a6
    refine wp_region_pick [0, 1, 2, 3, 4, 5, 8, 9] 20 12 1 rfl rfl rfl (by kernel_rfl) (by kernel_rfl) (by kernel_rfl) (by kernel_rfl) ?_
    simp only [opsAt, List.getElem?_toArray, List.getElem?_cons_zero, List.getElem?_cons_succ]
    repeat (go_big_quiet_step (fail))
    refine wpQuiet_nil ?_
    refine wpM_only (i := 6) (by kernel_rfl) ?_
    refine mOp_call rfl (by go_simp) 25 _ #[.slice px x.length qx, .int .i64 r, .slice pc l.length qc, .slice ps s.length qs, .int .i64 now, .slice pd d.length qd] (fun w => by go_simp) rfl ?_
    rintro _ ⟨sg0, rfl⟩
    refine (KS.out _ (RX.keep sg0.h) (RC.keep sg0.h) (RS.keep sg0.h) (RU.keep sg0.h)).mono ?_
    rintro e wg0 ⟨us, fp2, rfl, ko, hbx⟩
    obtain ⟨pe1, qe1, pe4, qe4, rfl, -, -⟩ := authResult_rep (authResultC.toRep ko)
    clear ko
    have hbg := Below.step sg0.h hbx
    refine ⟨_, rfl, ⟨⟨wg0, hbx⟩, rfl⟩, ?_⟩
    replace ga0 := HW.down ga0 hbg
    replace RX := RX.keep hbg
    replace RC := RC.keep hbg
    replace RS := RS.keep hbg
    replace RU := RU.keep hbg
    replace RR := RR.keep hbg
    replace BW := Below.step BW hbg
    replace hne := HW.some wg0
    clear hbg hbx
    refine wpM_more [7, 10, 11, 12, 15] 11 6 rfl (by kernel_rfl) (by kernel_rfl) (by kernel_rfl) (by kernel_rfl) ?_
    simp only [opsAt, List.getElem?_toArray, List.getElem?_cons_zero, List.getElem?_cons_succ]
    go_simp
    repeat (go_big_quiet_step (fail))
    refine wpQuiet_nil ?_
    refine wpM_only (i := 13) (by kernel_rfl) ?_
    refine mOp_call rfl (by go_simp) 20 _ #[.slice pr dr.length qr] (fun w => by go_simp) rfl ?_
    rintro _ ⟨sg2, rfl⟩
    refine (KI.out _ (RR.keep sg2.h)).mono ?_
    rintro e wg2 ⟨us, fp2, rfl, ko, hbx⟩
    obtain ⟨pf1, qf1, pf4, qf4, rfl, -, -⟩ := authResult_rep (authResultC.toRep ko)
    clear ko
    have hbg := Below.step sg2.h hbx
    refine ⟨_, rfl, ⟨⟨wg2, hbx⟩, rfl⟩, ?_⟩
    replace ga0 := HW.down ga0 hbg
    replace RX := RX.keep hbg
    replace RC := RC.keep hbg
    replace RS := RS.keep hbg
    replace RU := RU.keep hbg
    replace RR := RR.keep hbg
    replace BW := Below.step BW hbg
    replace hne := HW.some wg2
    clear hbg hbx
    refine wpM_more [14] 5 4 rfl (by kernel_rfl) (by kernel_rfl) (by kernel_rfl) (by kernel_rfl) ?_
    simp only [opsAt, List.getElem?_toArray, List.getElem?_cons_zero, List.getElem?_cons_succ]
    go_simp
    repeat (go_big_quiet_step (fail))
    refine wpQuiet_nil ?_
    refine wpM_only (i := 16) (by kernel_rfl) ?_
    refine mOp_call rfl (by go_simp) 26 _ #[.slice pr dr.length qr] (fun w => by go_simp) rfl ?_
    rintro _ ⟨sg4, rfl⟩
    refine (KJ.out _ (RR.keep sg4.h)).mono ?_
    rintro e wg4 ⟨us, fp2, rfl, ko, hbx⟩
    obtain ⟨pg1, qg1, pg4, qg4, rfl, -, -⟩ := authResult_rep (authResultC.toRep ko)
    clear ko
    have hbg := Below.step sg4.h hbx
    refine ⟨_, rfl, ⟨⟨wg4, hbx⟩, rfl⟩, ?_⟩
    replace ga0 := HW.down ga0 hbg
    replace RX := RX.keep hbg
    replace RC := RC.keep hbg
    replace RS := RS.keep hbg
    replace RU := RU.keep hbg
    replace RR := RR.keep hbg
    replace BW := Below.step BW hbg
    replace hne := HW.some wg4
    clear hbg hbx
    refine wpM_more [17, 18, 19] 3 0 rfl (by kernel_rfl) (by kernel_rfl) (by kernel_rfl) (by kernel_rfl) ?_
    simp only [opsAt, List.getElem?_toArray, List.getElem?_cons_zero, List.getElem?_cons_succ]
    go_simp
    repeat (go_big_quiet_step (fail))
    refine wpQuiet_nil ?_
    refine wpM_end (by kernel_rfl) rfl (by kernel_rfl) (by decide) ?_
    rintro _ ⟨sgz, rfl⟩
    simp only [List.drop_succ_cons, List.drop_zero]
    go_wp2
    go_ret
    exact ⟨rfl, Below.step BW sgz.h⟩
end Go.Proofs.YtflhoefocjmihaaGreatDoor

