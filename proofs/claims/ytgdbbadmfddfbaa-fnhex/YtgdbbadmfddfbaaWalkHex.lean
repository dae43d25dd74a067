/- The walk of FnHex. -/
import Derived.Test.YtgdbbadmfddfbaaDraws2
import Derived.Test.YtgdbbadmfddfbaaHexImpl
import Derived.Test.YtgdbbadmfddfbaaHexBack
import Derived.Test.YtgdbbadmfddfbaaBohSpec
import Derived.Test.YtgdbbadmfddfbaaSame
import Derived.Test.YtgdbbadmfddfbaaBig
import Derived.Test.YtgdbbadmfddfbaaClass
import Derived.Test.YtgdbbadmfddfbaaFields
import Derived.Laws.IdiomStrings
namespace Go.Proofs.Ytgdbbadmfddfbaa
open Go.ChangeShapes Go.WideShapes Go.ChangeAt Go.RowKit

theorem hexText_boh {l : List UInt8} (h : bohOk l = true) : hexCode (bohBytes l) = 0 ∧ hexText (bohBytes l) = l := by
  have hl := bohBytes_len l
  exact ⟨by simp [hexCode, hl], by simp [hexText, hl, hex_boh h]⟩

set_option maxHeartbeats 4000000 in
theorem fnHex_walk (a : Option Addr) (cap : Nat) (bs0 : List UInt8) (w : World) (r0 : Rd w a cap bs0) :
    Calls Try.prog 4 #[.slice a bs0.length cap] w fun e w' => e = .returned (.bool true) ∧ Below w.heap.size w w' := by
  by_cases hl0 : 1048576 < bs0.length
  · go_enter Try.func4, Try.ntmps4
    go_wp2_with fail
    refine (lwBig_yes _ _ _ _ hl0).mono ?_
    rintro e w1 ⟨rfl, rfl⟩
    go_wp2
    go_ret
    exact ⟨rfl, Below.refl _ _⟩
  replace hl0 : bs0.length ≤ 1048576 := by omega
  have tf0 := text_f0
  have tf1 := text_f1
  have bf0 := bytes_f0
  go_enter Try.func4, Try.ntmps4
  go_wp2_with fail
  refine (lwBig_no _ _ _ _ hl0).mono ?_
  rintro e w1 ⟨rfl, hw1⟩
  rw [hw1]
  clear hw1 w1
  go_wp2_with fail
  refine (drawBoh_c _ _ bs0 _ r0).mono ?_
  rintro e w1 ⟨l, rfl, hll, BW⟩
  replace r0 := r0.keep BW
  go_wp2_with fail
  refine (implBoh_c l _ (by omega)).mono ?_
  rintro e w2 ⟨u1, rfl, k1, hb2⟩
  obtain ⟨p1, q1, rfl, -⟩ := k1.rd
  replace r0 := r0.keep hb2
  replace BW := Below.step BW hb2
  clear hb2
  have L1 := alloc_below w2 (Obj.cells #[Value.int IntKind.i64 (bohCode l), Value.slice p1 (bohBytes l).length q1] 30)
  cases hok : bohOk l
  · have hcn : bohCode l ≠ 0 := by
      by_cases h : l.length ≤ 1200
      · rw [(bohCode_bad h hok).1]; decide
      · rw [(bohCode_many h).1]; decide
    have HB : Hid (∀ w, Calls Try.prog 17 #[.string (strB l)] w fun e w' => e = .returned (.agg #[.int .i64 (bohCode l), .slice none 0 0]) ∧ Below w.heap.size w w') := fun w => specBohBad_c l w (by omega) hok
    generalize bohCode l = c at *
    have cz0 : (c == 0) = false := by rw [beq_eq_false_iff_ne]; exact hcn
    have cz1 : (c != 0) = true := by rw [bne_iff_ne]; exact hcn
    clear hok hcn
    go_wp2
    have d0 : (w2.alloc (Obj.cells #[Value.int IntKind.i64 c, Value.slice p1 (bohBytes l).length q1] 30)).cell? ⟨w2.heap.size, 0, none⟩ = some (.int .i64 c) := World.cell?_alloc_new _ _ _ _
    replace r0 := r0.keep L1
    replace BW := Below.step BW L1
    clear L1 k1
    generalize w2.alloc (Obj.cells #[Value.int IntKind.i64 c, Value.slice p1 (bohBytes l).length q1] 30) = W at *
    have g0 := HW.at d0
    have hne := HW.some W
    refine wp_region_class (by kernel_rfl) (by kernel_rfl) ?_
    clear d0
    repeat (go_big_quiet_step ((go_at_call 17; exact Calls.stay (HB.out _))))
    refine wpQuiet_nil ?_
    intro w3 hw3
    have hs3 := HW.out hw3
    clear hw3
    replace r0 := r0.keep hs3
    replace BW := Below.step BW hs3
    clear hs3
    go_wp2_with fail
    refine (drawHex_c _ _ bs0 _ r0).mono ?_
    rintro e w4 ⟨u4, bs, rfl, hbl, k4, hb4⟩
    obtain ⟨p4, q4, rfl, -⟩ := k4.rd
    replace BW := Below.step BW hb4
    clear hb4 r0
    by_cases h6 : bs.length ≤ 600
    · have HY : Hid (∀ w, Rd w p4 q4 bs → Calls Try.prog 16 #[.slice p4 bs.length q4] w fun e w' => e = .returned (.agg #[.int .i64 0, .string (strB (hexL bs))]) ∧ Below w.heap.size w w') := fun w hr => by
        have h := implHex_c p4 q4 bs w hr
        rw [show hexCode bs = 0 by simp [hexCode, h6], show hexText bs = hexL bs by simp [hexText, h6]] at h
        exact h
      have HZ : Hid (∀ w, Calls Try.prog 15 #[.string (strB (hexL bs))] w fun e w' => ∃ u, e = .returned (.agg #[.int .i64 0, u]) ∧ Own w' w.heap.size u bs ∧ Below w.heap.size w w') := fun w => by
        obtain ⟨b1, b2⟩ := boh_hex h6
        have h := implBoh_c (hexL bs) w (by rw [hexL_len]; omega)
        rw [bohCode_ok (by rw [hexL_len]; omega) b1, b2] at h
        exact h
      have HLn : Hid ((hexL bs).length = 2 * bs.length) := hexL_len bs
      go_wp2_with fail
      refine (HY.out _ (Rd.own k4)).mono ?_
      rintro e w5 ⟨rfl, hb5⟩
      replace k4 := k4.stay hb5
      replace BW := Below.step BW hb5
      clear hb5
      go_wp2_with fail
      refine (HZ.out _).mono ?_
      rintro e w6 ⟨u6, rfl, k6, hb6⟩
      obtain ⟨p6, q6, rfl, -⟩ := k6.rd
      have sT := Has.new hb6
      replace hb6 := Below.res hb6
      replace k4 := k4.stay hb6
      replace BW := Below.step BW hb6
      clear hb6
      have cT := sT 1 _ rfl
      have zT := sT.lt
      go_wp2_with fail
      refine (implSame_c p6 p4 q6 q4 bs bs _ ((Rd.own k6).keep (alloc_below _ _)) ((Rd.own k4).keep (alloc_below _ _))).mono ?_
      rintro e w7 ⟨rfl, hb7⟩
      rw [show sameB bs bs = true by simp [sameB]]
      replace sT := sT.keep (Below.res hb7)
      replace k4 := k4.stay (Below.res hb7)
      replace BW := Below.step BW (Below.res hb7)
      clear hb7 cT zT k6
      have cT := sT 1 _ rfl
      have hss := strB_size (hexL bs)
      have hln : ((hexL bs).length : Int) = 2 * (bs.length : Int) := by have := HLn.out; omega
      clear HLn
      have hb := run_bytes (P := Try.prog) (src := 9) (dst := 22) Try.underlying9 Try.underlying22 Try.underlying5 l
      have hml : l.length ≤ maxLen := by unfold maxLen; omega
      go_wp2_with fail
      refine (implSame_c p4 _ q4 _ bs l _ ((Rd.own k4).keep (bytesW_below _ _)) (bytesW_rd _ _ hml)).mono ?_
      rintro e w8 ⟨rfl, hb8⟩
      replace hb8 := Below.step (bytesW_below _ _) hb8
      replace k4 := k4.stay hb8
      replace BW := Below.step BW hb8
      clear hb8 cT sT
      go_wp2_with fail
      refine (specSame_c p4 _ q4 _ bs l _ ((Rd.own k4).keep (bytesW_below _ _)) (bytesW_rd _ _ hml)).mono ?_
      rintro e w9 ⟨rfl, hb9⟩
      replace BW := Below.step BW (Below.step (bytesW_below _ _) hb9)
      clear hb9 k4 hml
      go_wp2
      go_ret
      exact ⟨rfl, BW⟩
    · have HY : Hid (∀ w, Rd w p4 q4 bs → Calls Try.prog 16 #[.slice p4 bs.length q4] w fun e w' => e = .returned (.agg #[.int .i64 2, .string (strB [])]) ∧ Below w.heap.size w w') := fun w hr => by
        have h := implHex_c p4 q4 bs w hr
        rw [show hexCode bs = 2 by simp [hexCode, h6], show hexText bs = [] by simp [hexText, h6]] at h
        exact h
      have HZ : Hid (∀ w, Rd w p4 q4 bs → Calls Try.prog 19 #[.slice p4 bs.length q4] w fun e w' => e = .returned (.agg #[.int .i64 2, .string (strB [])]) ∧ Below w.heap.size w w') := fun w hr => by
        have h := specHex_c p4 q4 bs w hr
        rw [show hexCode bs = 2 by simp [hexCode, h6], show hexText bs = [] by simp [hexText, h6]] at h
        exact h
      clear h6
      go_wp2_with fail
      refine (HY.out _ (Rd.own k4)).mono ?_
      rintro e w5 ⟨rfl, hb5⟩
      have L5 := alloc_below w5 (Obj.cells #[Value.int IntKind.i64 2, Value.string (strB [])] 36)
      replace k4 := (k4.stay hb5).stay L5
      replace BW := Below.step (Below.step BW hb5) L5
      have d0 : (w5.alloc (Obj.cells #[Value.int IntKind.i64 2, Value.string (strB [])] 36)).cell? ⟨w5.heap.size, 0, none⟩ = some (.int .i64 2) := World.cell?_alloc_new _ _ _ _
      clear hb5 L5
      go_wp2
      generalize w5.alloc (Obj.cells #[Value.int IntKind.i64 2, Value.string (strB [])] 36) = W2 at *
      have g5 := HW.at d0
      have hne5 := HW.some W2
      refine wp_region_class (by kernel_rfl) (by kernel_rfl) ?_
      clear d0
      repeat (go_big_quiet_step ((go_at_call 19; exact Calls.stay (HZ.out _ (Rd.own (k4.stay (HW.h _)))))))
      refine wpQuiet_nil ?_
      intro w9 hw9
      have hs9 := HW.out hw9
      go_wp2
      go_ret
      exact ⟨rfl, Below.step BW hs9⟩
  · have hc0 : bohCode l = 0 := by
      have h : l.length ≤ 1200 := by have h' := hok; simp only [bohOk, Bool.and_eq_true, decide_eq_true_eq] at h'; exact h'.1.1
      exact bohCode_ok h hok
    rw [hc0]
    rw [hc0] at L1
    have HX : Hid (∀ w, Rd w p1 q1 (bohBytes l) → Calls Try.prog 16 #[.slice p1 (bohBytes l).length q1] w fun e w' => e = .returned (.agg #[.int .i64 0, .string (strB l)]) ∧ Below w.heap.size w w') := fun w hr => by
      have h := implHex_c p1 q1 (bohBytes l) w hr
      rw [(hexText_boh hok).1, (hexText_boh hok).2] at h
      exact h
    clear hok hc0
    go_wp2
    have d0 : (w2.alloc (Obj.cells #[Value.int IntKind.i64 0, Value.slice p1 (bohBytes l).length q1] 30)).cell? ⟨w2.heap.size, 0, none⟩ = some (.int .i64 0) := World.cell?_alloc_new _ _ _ _
    have d1 : (w2.alloc (Obj.cells #[Value.int IntKind.i64 0, Value.slice p1 (bohBytes l).length q1] 30)).cell? ⟨w2.heap.size, 1, none⟩ = some (.slice p1 (bohBytes l).length q1) := World.cell?_alloc_new _ _ _ _
    replace k1 := k1.stay L1
    replace r0 := r0.keep L1
    replace BW := Below.step BW L1
    clear L1
    generalize w2.alloc (Obj.cells #[Value.int IntKind.i64 0, Value.slice p1 (bohBytes l).length q1] 30) = W at *
    have g0 := HW.at d0
    have g1 := HW.at d1
    have hne := HW.some W
    refine wp_region_class (by kernel_rfl) (by kernel_rfl) ?_
    clear d0 d1
    repeat (go_big_quiet_step ((first | (go_at_call 16; exact Calls.stay (HX.out _ (Rd.own (k1.stay (HW.h _))))))))
    refine wpQuiet_nil ?_
    intro w3 hw3
    have hs3 := HW.out hw3
    clear hw3
    replace r0 := r0.keep hs3
    replace BW := Below.step BW hs3
    clear hs3
    go_wp2_with fail
    refine (drawHex_c _ _ bs0 _ r0).mono ?_
    rintro e w4 ⟨u4, bs, rfl, hbl, k4, hb4⟩
    obtain ⟨p4, q4, rfl, -⟩ := k4.rd
    replace BW := Below.step BW hb4
    clear hb4 r0
    by_cases h6 : bs.length ≤ 600
    · have HY : Hid (∀ w, Rd w p4 q4 bs → Calls Try.prog 16 #[.slice p4 bs.length q4] w fun e w' => e = .returned (.agg #[.int .i64 0, .string (strB (hexL bs))]) ∧ Below w.heap.size w w') := fun w hr => by
        have h := implHex_c p4 q4 bs w hr
        rw [show hexCode bs = 0 by simp [hexCode, h6], show hexText bs = hexL bs by simp [hexText, h6]] at h
        exact h
      have HZ : Hid (∀ w, Calls Try.prog 15 #[.string (strB (hexL bs))] w fun e w' => ∃ u, e = .returned (.agg #[.int .i64 0, u]) ∧ Own w' w.heap.size u bs ∧ Below w.heap.size w w') := fun w => by
        obtain ⟨b1, b2⟩ := boh_hex h6
        have h := implBoh_c (hexL bs) w (by rw [hexL_len]; omega)
        rw [bohCode_ok (by rw [hexL_len]; omega) b1, b2] at h
        exact h
      have HLn : Hid ((hexL bs).length = 2 * bs.length) := hexL_len bs
      go_wp2_with fail
      refine (HY.out _ (Rd.own k4)).mono ?_
      rintro e w5 ⟨rfl, hb5⟩
      replace k4 := k4.stay hb5
      replace BW := Below.step BW hb5
      clear hb5
      go_wp2_with fail
      refine (HZ.out _).mono ?_
      rintro e w6 ⟨u6, rfl, k6, hb6⟩
      obtain ⟨p6, q6, rfl, -⟩ := k6.rd
      have sT := Has.new hb6
      replace hb6 := Below.res hb6
      replace k4 := k4.stay hb6
      replace BW := Below.step BW hb6
      clear hb6
      have cT := sT 1 _ rfl
      have zT := sT.lt
      go_wp2_with fail
      refine (implSame_c p6 p4 q6 q4 bs bs _ ((Rd.own k6).keep (alloc_below _ _)) ((Rd.own k4).keep (alloc_below _ _))).mono ?_
      rintro e w7 ⟨rfl, hb7⟩
      rw [show sameB bs bs = true by simp [sameB]]
      replace sT := sT.keep (Below.res hb7)
      replace k4 := k4.stay (Below.res hb7)
      replace BW := Below.step BW (Below.res hb7)
      clear hb7 cT zT k6
      have cT := sT 1 _ rfl
      have hss := strB_size (hexL bs)
      have hln : ((hexL bs).length : Int) = 2 * (bs.length : Int) := by have := HLn.out; omega
      clear HLn
      have hb := run_bytes (P := Try.prog) (src := 9) (dst := 22) Try.underlying9 Try.underlying22 Try.underlying5 l
      have hml : l.length ≤ maxLen := by unfold maxLen; omega
      go_wp2_with fail
      refine (implSame_c p4 _ q4 _ bs l _ ((Rd.own k4).keep (bytesW_below _ _)) (bytesW_rd _ _ hml)).mono ?_
      rintro e w8 ⟨rfl, hb8⟩
      replace hb8 := Below.step (bytesW_below _ _) hb8
      replace k4 := k4.stay hb8
      replace BW := Below.step BW hb8
      clear hb8 cT sT
      go_wp2_with fail
      refine (specSame_c p4 _ q4 _ bs l _ ((Rd.own k4).keep (bytesW_below _ _)) (bytesW_rd _ _ hml)).mono ?_
      rintro e w9 ⟨rfl, hb9⟩
      replace BW := Below.step BW (Below.step (bytesW_below _ _) hb9)
      clear hb9 k4 hml
      go_wp2
      go_ret
      exact ⟨rfl, BW⟩
    · have HY : Hid (∀ w, Rd w p4 q4 bs → Calls Try.prog 16 #[.slice p4 bs.length q4] w fun e w' => e = .returned (.agg #[.int .i64 2, .string (strB [])]) ∧ Below w.heap.size w w') := fun w hr => by
        have h := implHex_c p4 q4 bs w hr
        rw [show hexCode bs = 2 by simp [hexCode, h6], show hexText bs = [] by simp [hexText, h6]] at h
        exact h
      have HZ : Hid (∀ w, Rd w p4 q4 bs → Calls Try.prog 19 #[.slice p4 bs.length q4] w fun e w' => e = .returned (.agg #[.int .i64 2, .string (strB [])]) ∧ Below w.heap.size w w') := fun w hr => by
        have h := specHex_c p4 q4 bs w hr
        rw [show hexCode bs = 2 by simp [hexCode, h6], show hexText bs = [] by simp [hexText, h6]] at h
        exact h
      clear h6
      go_wp2_with fail
      refine (HY.out _ (Rd.own k4)).mono ?_
      rintro e w5 ⟨rfl, hb5⟩
      have L5 := alloc_below w5 (Obj.cells #[Value.int IntKind.i64 2, Value.string (strB [])] 36)
      replace k4 := (k4.stay hb5).stay L5
      replace BW := Below.step (Below.step BW hb5) L5
      have d0 : (w5.alloc (Obj.cells #[Value.int IntKind.i64 2, Value.string (strB [])] 36)).cell? ⟨w5.heap.size, 0, none⟩ = some (.int .i64 2) := World.cell?_alloc_new _ _ _ _
      clear hb5 L5
      go_wp2
      generalize w5.alloc (Obj.cells #[Value.int IntKind.i64 2, Value.string (strB [])] 36) = W2 at *
      have g5 := HW.at d0
      have hne5 := HW.some W2
      refine wp_region_class (by kernel_rfl) (by kernel_rfl) ?_
      clear d0
      repeat (go_big_quiet_step ((go_at_call 19; exact Calls.stay (HZ.out _ (Rd.own (k4.stay (HW.h _)))))))
      refine wpQuiet_nil ?_
      intro w9 hw9
      have hs9 := HW.out hw9
      go_wp2
      go_ret
      exact ⟨rfl, Below.step BW hs9⟩
end Go.Proofs.Ytgdbbadmfddfbaa
