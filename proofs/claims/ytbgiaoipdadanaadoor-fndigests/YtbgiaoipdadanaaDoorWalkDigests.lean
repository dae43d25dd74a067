/- The walk of FnDigests, where the two tables hold what the program's text lays. -/
import Derived.Test.YtbgiaoipdadanaaDoorDrawD
import Derived.Test.YtbgiaoipdadanaaDoorDigX
import Derived.Test.YtbgiaoipdadanaaDoorPadB
import Derived.Test.YtbgiaoipdadanaaDoorBig
import Derived.Test.YtbgiaoipdadanaaDoorLwSame
import Derived.Test.YtbgiaoipdadanaaDoorOdd
import Derived.Test.YtbgiaoipdadanaaDoorFields
namespace Go.Proofs.YtbgiaoipdadanaaDoor
open Go.ChangeShapes Go.WideShapes Go.ChangeAt Go.RowKit

theorem HW.down {V w' : World} {p : Addr} {v : Value} (h : ∀ s : HW V, s.w.cell? p = Option.some v) (hb : Below V.heap.size V w') : ∀ s : HW w', s.w.cell? p = Option.some v := HW.at (h ⟨w', hb⟩)
theorem padN_take (bs : List UInt8) : ((padN bs).drop 0).take bs.length = bs := by simp [padN]

set_option maxHeartbeats 1000000 in
theorem specDgBad_c (p : Option Addr) (q : Nat) (bs : List UInt8) (w : World) (h : ¬ bs.length ≤ 600) :
    Calls Tryd.prog 7 #[.slice p bs.length q] w fun e w' => e = .returned (.agg #[.int .i64 2, .slice none 0 0]) ∧ Below w.heap.size w w' := by
  go_enter Tryd.func7, Tryd.ntmps7
  go_wp2
  exact bodyPost_ret (v := .agg #[.int .i64 2, .slice none 0 0]) (by simp [results, Tryd.results7, go_sem]) rfl ⟨rfl, alloc_below _ _⟩
set_option maxHeartbeats 1000000 in
theorem implPadBad_c (p : Option Addr) (q : Nat) (bs : List UInt8) (w : World) (h : ¬ bs.length ≤ 600) :
    Calls Tryd.prog 8 #[.slice p bs.length q] w fun e w' => e = .returned (.agg #[.int .i64 2, .slice none 0 0]) ∧ Below w.heap.size w w' := by
  go_enter Tryd.func8, Tryd.ntmps8
  go_wp2
  exact bodyPost_ret (v := .agg #[.int .i64 2, .slice none 0 0]) (by simp [results, Tryd.results8, go_sem]) rfl ⟨rfl, alloc_below _ _⟩

set_option maxHeartbeats 4000000 in
theorem fnDigests_walk (a : Option Addr) (cap : Nat) (bs0 : List UInt8) (w : World) (r0 : Rd w a cap bs0) (hT : Tabs w) :
    Calls Tryd.prog 3 #[.slice a bs0.length cap] w fun e w' => e = .returned (.bool true) ∧ Below w.heap.size w w' := by
  by_cases hl0 : 1048576 < bs0.length
  · go_enter Tryd.func3, Tryd.ntmps3
    go_wp2_with fail
    refine (lwBig_yes _ _ _ _ hl0).mono ?_
    rintro e w1 ⟨rfl, rfl⟩
    go_wp2
    go_ret
    exact ⟨rfl, Below.refl _ _⟩
  replace hl0 : bs0.length ≤ 1048576 := by omega
  have tf1 := text_f1
  have bf0 := bytes_f0
  have bf1 := bytes_f1
  go_enter Tryd.func3, Tryd.ntmps3
  go_wp2_with fail
  refine (lwBig_no _ _ _ _ hl0).mono ?_
  rintro e w1 ⟨rfl, hw1⟩
  rw [hw1]
  clear hw1 w1
  go_wp2_with fail
  refine (drawDg_c _ _ bs0 _ r0).mono ?_
  rintro e w1 ⟨u0, bs, rfl, hbl, k0, BW⟩
  obtain ⟨p0, q0, rfl, rd0⟩ := k0.rd
  clear k0 r0 hl0
  have HT : Hid (Tabs w1) := hT.keep BW
  clear hT
  go_wp2_with fail
  refine (implDg_c p0 q0 bs _ rd0 HT.out).mono ?_
  rintro e w2 ⟨u1, rfl, k1, hb2⟩
  obtain ⟨p1, q1, rfl, rd1⟩ := k1.rd
  have HT2 : Hid (Tabs w2) := HT.out.keep hb2
  replace rd0 := rd0.keep hb2
  replace BW := Below.step BW hb2
  clear hb2 HT k1
  by_cases h6 : bs.length ≤ 600
  · have hH : Hid (bs.length ≤ 600) := h6
    rw [show dgCode bs = 0 by simp [dgCode, h6]]
    rw [show dgList bs = digestN bs by simp [dgList, h6]] at rd1 ⊢
    rw [digestN_len]
    have HP : Hid (∀ w, Rd w p0 q0 bs → Calls Tryd.prog 8 #[.slice p0 bs.length q0] w fun e w' => ∃ u, e = .returned (.agg #[.int .i64 0, u]) ∧ Own w' w.heap.size u (padN bs) ∧ Below w.heap.size w w') := fun w hr => by
      have h := implPad_c p0 q0 bs w hr
      rw [show padCode bs = 0 by simp [padCode, h6], show padList bs = padN bs by simp [padList, h6]] at h
      exact h
    have HX : Hid (∀ w, Rd w p0 q0 bs → Tabs w → Calls Tryd.prog 11 #[.slice p0 bs.length q0] w fun e w' => e = .returned (.agg #[.int .i64 0, .string (strB (hexL (digestN bs)))]) ∧ Below w.heap.size w w') := fun w hr ht => by
      have h := implDt_c p0 q0 bs w hr ht
      rw [show dgCode bs = 0 by simp [dgCode, h6], show dtText bs = hexL (digestN bs) by simp [dtText, h6]] at h
      exact h
    have HS : Hid (∀ w, Rd w p0 q0 bs → Calls Tryd.prog 7 #[.slice p0 bs.length q0] w fun e w' => ∃ u, e = .returned (.agg #[.int .i64 0, u]) ∧ Own w' w.heap.size u (digestN bs) ∧ Below w.heap.size w w') := fun w hr => by
      have h := specDg_c p0 q0 bs w hr
      rw [show dgCode bs = 0 by simp [dgCode, h6], show dgList bs = digestN bs by simp [dgList, h6]] at h
      exact h
    have HY : Hid (∀ w, Rd w p1 q1 (digestN bs) → Calls Tryd.prog 12 #[.slice p1 32 q1] w fun e w' => e = .returned (.agg #[.int .i64 0, .string (strB (hexL (digestN bs)))]) ∧ Below w.heap.size w w') := fun w hr => by
      have h := implHex_c p1 q1 (digestN bs) w hr
      rw [show hexCode (digestN bs) = 0 by simp [hexCode, digestN_len], show hexText (digestN bs) = hexL (digestN bs) by simp [hexText, digestN_len], digestN_len] at h
      exact h
    have hXs : (strB (hexL (digestN bs))).size = 64 := by rw [strB_size, hexL_len, digestN_len]
    have hD : Hid ((digestN bs).length = 32) := digestN_len bs
    have hn : Hid ((padN bs).length = 64 * ((bs.length + 72) / 64)) := padN_len_n bs
    have hn1 : 1 ≤ (bs.length + 72) / 64 := by omega
    have hn2 : bs.length + 8 < 64 * ((bs.length + 72) / 64) := by omega
    have hn3 : (bs.length + 72) / 64 ≤ 11 := by omega
    generalize digestN bs = dg at *
    generalize strB (hexL dg) = X at *
    go_wp2_with fail
    refine (HP.out _ (rd0.keep (alloc_below _ _))).mono ?_
    rintro e w3 ⟨u3, rfl, k3, hb3⟩
    have sR := Has.new hb3
    replace hb3 := Below.res hb3
    obtain ⟨p2, q2, rfl, rd2⟩ := k3.rd
    obtain ⟨b2, o2, rfl⟩ := rd2.block (by rw [hn.out]; omega)
    have hcut := rd2.cut 0 bs.length q2 (by rw [hn.out]; omega) (by have := rd2.1; rw [hn.out] at this; omega) rd2.2.1
    have hcut2 : Hid (Rd w3 (some ⟨b2, o2 + 0, none⟩) q2 (((padN bs).drop 0).take 64)) := rd2.cut 0 64 q2 (by rw [hn.out]; omega) (by have := rd2.1; rw [hn.out] at this; omega) rd2.2.1
    have h64 : Hid ((((padN bs).drop 0).take 64).length = 64) := by show _ = _; have := hn.out; simp; omega
    rw [padN_take, Nat.add_zero] at hcut
    have hq2 : 64 * ((bs.length + 72) / 64) ≤ q2 := by have := rd2.1; rw [hn.out] at this; exact this
    have hq3 : q2 ≤ 2 ^ 63 - 1 := rd2.2.1
    rw [hn.out]
    generalize (bs.length + 72) / 64 = n at *
    replace rd0 := rd0.keep hb3
    replace rd1 := rd1.keep hb3
    have HT3 : Hid (Tabs w3) := HT2.out.keep hb3
    replace BW := Below.step BW hb3
    clear hb3 k3 rd2 HT2
    have L3 := alloc_below w3 (Obj.cells #[Value.int IntKind.i64 0, Value.slice (some ⟨b2, o2, none⟩) (64 * n) q2] 26)
    have hm0 : ((64 * (n : Int)) % 64) = 0 := by omega
    have HQ : Hid (∀ w, Rd w (some ⟨b2, o2, none⟩) q2 (((padN bs).drop 0).take 64) → Calls Tryd.prog 10 #[.slice (some ⟨b2, o2, none⟩) 64 q2] w fun e w' => ∃ p3 q3, e = .returned (.agg #[.int .i64 0, .slice p3 64 q3]) ∧ Below w.heap.size w w') := fun w hr => by
      have h := implSpr_c _ _ _ w hr
      rw [show sprCode (((padN bs).drop 0).take 64) = 0 by simp only [sprCode, if_pos h64.out], h64.out] at h
      refine h.mono ?_
      rintro e w' ⟨u, rfl, k, hb⟩
      obtain ⟨p3, q3, rfl, -⟩ := k.rd
      exact ⟨p3, q3, by rw [show (sprList (((padN bs).drop 0).take 64)).length = 64 by simp only [sprList, if_pos h64.out, List.length_map, spreadN_len]], hb⟩
    go_wp2_with fail
    refine (lwSame_yes _ _ _ _ _ _ bs _ rfl rfl (hcut.keep L3) (rd0.keep L3)).mono ?_
    rintro e w4 ⟨rfl, hw4⟩
    rw [hw4]
    clear hw4 w4 hcut
    rw [Nat.add_zero] at hcut2
    go_wp2_with fail
    refine (HQ.out _ (hcut2.out.keep L3)).mono ?_
    rintro e w5 ⟨p3, q3, rfl, hb5⟩
    replace hb5 := Below.step L3 hb5
    replace sR := sR.keep hb5
    replace rd0 := rd0.keep hb5
    replace rd1 := rd1.keep hb5
    have HT5 : Hid (Tabs w5) := HT3.out.keep hb5
    replace BW := Below.step BW hb5
    clear hb5 L3 hcut2 h64 HQ HT3 hq2 hq3 hm0 hn hn1 hn2 hn3 HP
    go_wp2_with fail
    refine (HX.out _ (rd0.keep (alloc_below _ _)) (HT5.out.keep (alloc_below _ _))).mono ?_
    rintro e w6 ⟨rfl, hb6⟩
    have sB := Has.new hb6
    replace hb6 := Below.res hb6
    replace sR := sR.keep hb6
    replace rd0 := rd0.keep hb6
    replace rd1 := rd1.keep hb6
    replace BW := Below.step BW hb6
    clear hb6 HX HT5
    have L6 := alloc_below w6 (Obj.cells #[Value.int IntKind.i64 0, Value.string X] 34)
    have g1 := cell_keep (sR 1 _ rfl) L6
    have g2 := cell_keep (sB 0 _ rfl) L6
    have g3 := cell_keep (sB 1 _ rfl) L6
    have g4 : (w6.alloc (Obj.cells #[Value.int IntKind.i64 0, Value.string X] 34)).cell? ⟨w6.heap.size, 1, none⟩ = some (.string X) := World.cell?_alloc_new _ _ _ _
    replace rd0 := rd0.keep L6
    replace rd1 := rd1.keep L6
    replace BW := Below.step BW L6
    clear L6 sR sB
    go_wp2_with fail
    generalize w6.alloc (Obj.cells #[Value.int IntKind.i64 0, Value.string X] 34) = W at *
    replace g1 := HW.at g1
    replace g2 := HW.at g2
    replace g3 := HW.at g3
    replace g4 := HW.at g4
    have hne := HW.some W
    refine wp_region_odd_seg 8 31 rfl (by kernel_rfl) (by kernel_rfl) (by kernel_rfl) (by kernel_rfl) ?_
    simp only [List.take_succ_cons, List.take_zero]
    repeat (go_big_quiet_step (fail))
    refine wpQuiet_nil ?_
    refine wpG_call (k := 8) rfl (by kernel_rfl) (by kernel_rfl) (by go_simp) 7 _ #[.slice p0 bs.length q0] (fun w => by go_simp) rfl ?_
    rintro _ ⟨s', rfl⟩
    refine (HS.out _ (rd0.keep s'.h)).mono ?_
    rintro e w7 ⟨u7, rfl, k7, hb7⟩
    obtain ⟨p7, q7, rfl, rd7⟩ := k7.rd
    rw [hD.out]
    have hb8 : Below W.heap.size W w7 := Below.step s'.h hb7
    have z1 := HW.down g1 hb8
    have z2 := HW.down g2 hb8
    have z3 := HW.down g3 hb8
    have z4 := HW.down g4 hb8
    have hne7 := HW.some w7
    replace rd1 := rd1.keep hb8
    replace BW := Below.step BW hb8
    refine ⟨_, rfl, ⟨⟨w7, hb7⟩, rfl⟩, ?_⟩
    clear g1 g2 g3 g4 hne hb8 k7 hb7 rd0 HS
    refine wpG_next 9 1 29 (by decide) (by kernel_rfl) (by kernel_rfl) (by kernel_rfl) ?_
    simp only [List.drop_succ_cons, List.drop_zero, List.take_succ_cons, List.take_zero]
    go_simp
    repeat (go_big_quiet_step (fail))
    refine wpQuiet_nil ?_
    refine wpG_call (k := 10) rfl (by kernel_rfl) (by kernel_rfl) (by go_simp) 9 _ #[.slice p1 32 q1, .slice p7 32 q7] (fun w => by go_simp) rfl ?_
    rintro _ ⟨s8, rfl⟩
    refine (lwSame_yes _ _ _ _ _ _ dg _ hD.out hD.out (rd1.keep s8.h) (rd7.keep s8.h)).mono ?_
    rintro e w8 ⟨rfl, hw8⟩
    refine ⟨_, rfl, ⟨⟨s8.w, Below.refl _ _⟩, hw8⟩, ?_⟩
    subst hw8
    have y1 := HW.down z1 s8.h
    have y2 := HW.down z2 s8.h
    have y3 := HW.down z3 s8.h
    have y4 := HW.down z4 s8.h
    have hne8 := HW.some s8.w
    replace rd1 := rd1.keep s8.h
    replace BW := Below.step BW s8.h
    clear z1 z2 z3 z4 hne7 rd7
    generalize s8.w = w8 at *
    clear s8
    refine wpG_next 11 17 11 (by decide) (by kernel_rfl) (by kernel_rfl) (by kernel_rfl) ?_
    simp only [List.drop_succ_cons, List.drop_zero, List.take_succ_cons, List.take_zero]
    go_simp
    repeat (go_big_quiet_step (fail))
    refine wpQuiet_nil ?_
    refine wpG_call (k := 28) rfl (by kernel_rfl) (by kernel_rfl) (by go_simp) 12 _ #[.slice p1 32 q1] (fun w => by go_simp) rfl ?_
    rintro _ ⟨s9, rfl⟩
    refine (HY.out _ (rd1.keep s9.h)).mono ?_
    rintro e w9 ⟨rfl, hb9⟩
    have hb10 := Below.step s9.h hb9
    have x4 := HW.down y4 hb10
    have hne9 := HW.some w9
    replace BW := Below.step BW hb10
    refine ⟨_, rfl, ⟨⟨w9, hb9⟩, rfl⟩, ?_⟩
    clear y1 y2 y3 y4 hne8 hb10 hb9 rd1 HY
    refine wpG_next 29 10 0 (by decide) (by kernel_rfl) (by kernel_rfl) (by kernel_rfl) ?_
    simp only [List.drop_succ_cons, List.drop_zero, List.take_succ_cons, List.take_zero]
    go_simp
    repeat (go_big_quiet_step (fail))
    refine wpQuiet_nil ?_
    refine wpG_end rfl ?_
    rintro _ ⟨s10, rfl⟩
    go_wp2
    go_ret
    exact ⟨rfl, Below.step BW s10.h⟩
  · have hH : Hid (¬ bs.length ≤ 600) := h6
    rw [show dgCode bs = 2 by simp [dgCode, h6]]
    rw [show dgList bs = [] by simp [dgList, h6]] at rd1 ⊢
    have L1 := alloc_below w2 (Obj.cells #[Value.int IntKind.i64 2, Value.slice p1 ([] : List UInt8).length q1] 26)
    go_wp2
    have d0 : (w2.alloc (Obj.cells #[Value.int IntKind.i64 2, Value.slice p1 ([] : List UInt8).length q1] 26)).cell? ⟨w2.heap.size, 0, none⟩ = some (.int .i64 2) := World.cell?_alloc_new _ _ _ _
    replace BW := Below.step BW L1
    clear L1 rd1 rd0 h6
    generalize w2.alloc (Obj.cells #[Value.int IntKind.i64 2, Value.slice p1 ([] : List UInt8).length q1] 26) = W at *
    have g0 := HW.at d0
    have hne := HW.some W
    refine wp_region_class (by kernel_rfl) (by kernel_rfl) ?_
    clear d0
    repeat (go_big_quiet_step ((first | (go_at_call 7; exact Calls.stay (specDgBad_c _ _ _ _ hH.out)) | (go_at_call 8; exact Calls.stay (implPadBad_c _ _ _ _ hH.out)))))
    refine wpQuiet_nil ?_
    intro w5 hw5
    have hs5 := HW.out hw5
    go_wp2
    go_ret
    exact ⟨rfl, Below.step BW hs5⟩
end Go.Proofs.YtbgiaoipdadanaaDoor
