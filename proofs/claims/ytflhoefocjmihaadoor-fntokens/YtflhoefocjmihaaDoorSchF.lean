/- The contracts of chapter 7's functions in the program, at every argument: code and bytes, where the two tables hold what the program's text lays (Tabs). What was there stays. (Written by tools/sch_i.py.) -/
import Derived.Test.YtflhoefocjmihaaDoorSchI
namespace Go.Proofs.YtflhoefocjmihaaDoor
open Go.ChangeShapes Go.WideShapes Go.ChangeAt Go.RowKit

set_option maxRecDepth 4000 in
set_option maxHeartbeats 1000000 in
theorem implEx_c (p p2 : Option Addr) (q q2 : Nat) (exporter l ctx : List UInt8) (n : Int) (w : World) (hr : Rd w p q exporter) (hr2 : Rd w p2 q2 ctx) (hl : l.length ≤ 1048576) (hT : Tabs w) :
    Calls Tryd.prog 26 #[.slice p exporter.length q, .string (strB l), .slice p2 ctx.length q2, .int .i64 n] w fun e w' => ∃ u, e = .returned (.agg #[.int .i64 (exC exporter l ctx n), u]) ∧ Own w' w.heap.size u (exL exporter l ctx n) ∧ Below w.heap.size w w' := by
  have HT : Hid (Tabs w) := hT
  clear hT
  cases h1 : is32 exporter
  · rw [show exC exporter l ctx n = 1 by simp [exC, h1], show exL exporter l ctx n = [] by simp [exL, exC, h1]]
    go_enter Tryd.func26, Tryd.ntmps26
    go_wp2_with fail
    refine (isKey_c p q exporter _).mono ?_
    rintro e w' ⟨rfl, hw⟩
    subst hw
    rw [h1]
    go_wp2
    exact bodyPost_ret (v := .agg #[.int .i64 1, .slice none 0 0]) (by simp [results, Tryd.results26, go_sem]) rfl ⟨_, rfl, Own_nil _ _, alloc_below _ _⟩
  · by_cases hc : labelC l ctx n = 0
    · obtain ⟨g1, g2, g3⟩ := labelC_zero hc
      obtain ⟨m, rfl, hm⟩ := nat255 g3
      have l1 : exporter.length = 32 := by simpa [is32] using h1
      rw [show exC exporter l ctx (m : Int) = 0 by simp [exC, h1, hc], show exL exporter l ctx (m : Int) = exportN exporter l ctx m by simp [exL, exC, h1, hc]]
      have KF : Hid (∀ w, Calls Tryd.prog 46 #[.string (strB l), .slice p2 ctx.length q2, .int .i64 (m : Int)] w fun e w' => e = .returned (.int .i64 0) ∧ w' = w) := fun w => by
        have g := labelFault_c p2 q2 l ctx (m : Int) w hl
        rw [hc] at g
        exact g
      obtain ⟨dg, hdg⟩ : ∃ d, Hid (d = digestN ctx) := ⟨_, rfl⟩
      have HDL : Hid (dg.length = 32) := by show _ = _; rw [hdg.out, digestN_len]
      have KDg : Hid (∀ w, Rd w p2 q2 ctx → Tabs w → Calls Tryd.prog 47 #[.slice p2 ctx.length q2] w fun e w' => ∃ a c, e = .returned (.agg #[.int .i64 0, .slice a 32 c]) ∧ Own w' w.heap.size (.slice a 32 c) dg ∧ Below w.heap.size w w') := fun w h h' => by rw [hdg.out]; exact implDg_ok p2 q2 ctx w h h' (by omega)
      have KG : Hid (∀ w, Rd w p q exporter → Calls Tryd.prog 49 #[.slice p exporter.length q] w fun e w' => ∃ f, e = .returned f ∧ Tells w' f exporter ∧ Below w.heap.size w w') := fun w h => given_c p q exporter w h (by omega)
      have KD : Hid (∀ w f, Tells w f exporter → Calls Tryd.prog 50 #[f, .string (strB l)] w fun e w' => ∃ g, e = .returned g ∧ Tells w' g (deriveN exporter l []) ∧ Below w.heap.size w w') := fun w f h => chainDer_c f exporter l w h (by omega) g1
      have KX : Hid (∀ w f a c, Tells w f (deriveN exporter l []) → Rd w a c dg → Calls Tryd.prog 51 #[f, .string ⟨#[101, 120, 112, 111, 114, 116, 101, 114]⟩, .slice a 32 c, .int .i64 (m : Int)] w fun e w' => ∃ g, e = .returned g ∧ Tells w' g (exportN exporter l ctx m) ∧ Below w.heap.size w w') := fun w f a c h h' => by
        have k := chainExp_c f _ exporterB dg m a c w h h' (by rw [deriveN_len]; decide) (by
          have e1 : labelOk exporterB = true := by decide
          have := HDL.out
          simp [labelC, e1, inB]; omega)
        rw [HDL.out, hdg.out] at k
        rw [exporter_str]
        exact k
      have HR : Hid (Rd w p q exporter) := hr
      have HR2 : Hid (Rd w p2 q2 ctx) := hr2
      clear l1 hr hr2 hc g1 g3
      go_enter Tryd.func26, Tryd.ntmps26
      go_wp2_with fail
      refine (isKey_c p q exporter _).mono ?_
      rintro e w' ⟨rfl, hw⟩
      subst hw
      rw [h1]
      go_wp2_with fail
      refine (KF.out _).mono ?_
      rintro e w' ⟨rfl, hw⟩
      subst hw
      go_wp2_with fail
      refine (KDg.out _ (HR2.out.keep (alloc_below _ _)) (HT.out.keep (alloc_below _ _))).mono ?_
      rintro e wm ⟨ad, cd, rfl, od, bd⟩
      have BW := Below.res bd
      have CC := (Arr.new w [.int .i64 0, .slice none 0 0] 33).stay bd
      have hz : Hid (w.heap.size < wm.heap.size) := size_lt bd
      have RZ := Rd.own od
      have f1 := bytes_f1 0 ad 32 cd
      clear bd od KDg KF
      go_wp2_with fail
      clear f1
      refine (KG.out _ (HR.out.keep BW)).mono ?_
      rintro e w1 ⟨f1, rfl, t1, b1⟩
      replace BW := Below.step BW b1
      replace CC := CC.stay b1
      replace hz : Hid (w.heap.size < w1.heap.size) := Nat.lt_of_lt_of_le hz.out b1.size
      replace RZ := RZ.keep b1
      clear b1
      go_wp2_with fail
      refine (KD.out _ f1 t1).mono ?_
      rintro e w2 ⟨f2, rfl, t2, b2⟩
      replace BW := Below.step BW b2
      replace CC := CC.stay b2
      replace hz : Hid (w.heap.size < w2.heap.size) := Nat.lt_of_lt_of_le hz.out b2.size
      replace RZ := RZ.keep b2
      clear b2 t1
      go_wp2_with fail
      refine (KX.out _ f2 _ _ t2 RZ).mono ?_
      rintro e w3 ⟨f3, rfl, t3, b3⟩
      replace BW := Below.step BW b3
      replace CC := CC.stay b3
      replace hz : Hid (w.heap.size < w3.heap.size) := Nat.lt_of_lt_of_le hz.out b3.size
      replace RZ := RZ.keep b3
      clear b3 t2
      go_wp2_with fail
      refine (toldBy_c f3 (exportN exporter l ctx m) _ t3 (HT.out.keep BW)).mono ?_
      rintro e w4 ⟨u, rfl, ho, b4⟩
      replace ho := ho.lower (B' := w3.heap.size) (Nat.le_refl _)
      replace BW := Below.step BW b4
      replace CC := CC.stay b4
      clear b4 t3
      obtain ⟨a, cap, rfl, -⟩ := ho.rd
      have c0 := CC.cell 0
      have c1 := CC.cell 1
      simp at c0 c1
      have fz := CC.frozen
      clear HT HR HR2 KG KX KD RZ HDL hdg
      go_wp2
      refine bodyPost_ret (v := .agg #[.int .i64 0, .slice a (exportN exporter l ctx m).length cap]) (by simp [results, Tryd.results26, go_sem, c0, c1]) rfl ⟨_, rfl, ?_, (BW.setCell (Nat.le_refl _) _).setCell (Nat.le_refl _) _⟩
      exact ((ho.set hz.out _).set hz.out _).lower (Nat.le_of_lt hz.out)
    · rw [show exC exporter l ctx n = labelC l ctx n by simp [exC, h1], show exL exporter l ctx n = [] by simp [exL, exC, h1, hc]]
      have KF : Hid (∀ w, Calls Tryd.prog 46 #[.string (strB l), .slice p2 ctx.length q2, .int .i64 n] w fun e w' => e = .returned (.int .i64 (labelC l ctx n)) ∧ w' = w) := fun w => labelFault_c p2 q2 l ctx n w hl
      generalize labelC l ctx n = c at *
      have cz1 : (c != 0) = true := by rw [bne_iff_ne]; exact hc
      clear hc hr hr2
      go_enter Tryd.func26, Tryd.ntmps26
      go_wp2_with fail
      refine (isKey_c p q exporter _).mono ?_
      rintro e w' ⟨rfl, hw⟩
      subst hw
      rw [h1]
      go_wp2_with fail
      refine (KF.out _).mono ?_
      rintro e w' ⟨rfl, hw⟩
      subst hw
      go_wp2
      exact bodyPost_ret (v := .agg #[.int .i64 c, .slice none 0 0]) (by simp [results, Tryd.results26, go_sem]) rfl ⟨_, rfl, Own_nil _ _, alloc_below _ _⟩
end Go.Proofs.YtflhoefocjmihaaDoor

