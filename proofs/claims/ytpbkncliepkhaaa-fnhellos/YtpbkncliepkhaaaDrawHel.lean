/- The draws of chapter 10: l10Draw, l10Bent, DrawPackHello, DrawUnpackHello: what comes out can be read; its bounds, no more. -/
import Derived.Test.YtpbkncliepkhaaaDrawHs
import Derived.Test.YtpbkncliepkhaaaHelP
namespace Go.Proofs.Ytpbkncliepkhaaa
open Go.ChangeShapes Go.WideShapes Go.ChangeAt Go.RowKit

set_option maxRecDepth 4000 in
set_option maxHeartbeats 1000000 in
theorem l10Draw_c (b : Nat) (p : Option Addr) (q : Nat) (cs : List UInt8) (t : Int) (w : World) (hs : Src w b p q cs t) (ht : 0 ≤ t) (ht2 : t ≤ 800000000) :
    Calls Try.prog 34 #[.pointer (some ⟨b, 0, none⟩)] w fun e w' => ∃ (pu : Option Addr) (qu : Nat) (h : HelloD), e = .returned (.agg #[.slice pu h.1.length qu, .int .i64 h.2.1, .int .i64 h.2.2]) ∧ hfC h = 0 ∧ Own w' w.heap.size (.slice pu h.1.length qu) h.1 ∧ Src w' b p q cs (t + 10) ∧ w.grownBy w' (some b) := by
  have A0 := Arr.new w [.slice none 0 0, .int .i64 0, .int .i64 0] 29
  have hb0 : Hid (b < w.heap.size) := hs.lt
  have hz0 : Hid ((w.alloc (.cells #[.slice none 0 0, .int .i64 0, .int .i64 0] 29)).heap.size = w.heap.size + 1) := size_alloc _ _
  go_enter Try.func34, Try.ntmps34
  go_wp2_with fail
  refine (l1Some_c b p q cs t 8 _ (hs.keep (alloc_below _ _)) (by omega) (by omega) (by omega) (by omega)).mono ?_
  rintro e v1 ⟨u, bs, rfl, hl, ho, hs1, hg1⟩
  rw [hz0.out] at ho
  replace A0 := A0.other hg1 (fun e => by have := hb0.out; simp at e; omega)
  have hg : w.grownBy v1 (some b) := grownBy_trans (World.grownBy_alloc _ _ _) hg1
  obtain ⟨pu, qu, rfl, -⟩ := ho.rd
  have HL : Hid (bs.length = 8) := hl
  clear hg1 hs hl
  go_wp2_with fail
  refine (l1Next_c b p q cs (t + 8) 65520 v1 hs1 (by omega) (by omega) (by omega) (by omega)).mono ?_
  rintro e v2 ⟨n, rfl, x1, y1, hs2, hg2⟩
  replace A0 := A0.other hg2 (fun e => by have := hb0.out; simp at e; omega)
  replace hg := grownBy_trans hg hg2
  replace ho := ho.other hg2 (fun k hk e => by have := ho.ge k hk; have := hb0.out; simp at e; omega)
  clear hg2 hs1
  go_wp2_with fail
  refine (l1Pick_c b p q cs (t + 8 + 1) v2.heap.size [0, 0, 1, 2] 4 _ (hs2.keep (alloc_below _ _)) (by omega) (by omega) rfl (by decide) (by decide) (by have := hs2.lt; omega) (new_ints _ _ _ [0, 0, 1, 2] rfl)).mono ?_
  rintro e v3 ⟨k, hk, rfl, hs3, hg3⟩
  have hR : Hid (0 ≤ k ∧ k ≤ 2) := by
    show _ ∧ _
    simp only [List.mem_cons, List.not_mem_nil, or_false] at hk
    omega
  clear hk
  replace A0 := (A0.stay (alloc_below _ _)).other hg3 (fun e => by have := hb0.out; simp at e; omega)
  replace ho := (ho.stay (alloc_below _ _)).other hg3 (fun k hk e => by have := ho.ge k hk; have := hb0.out; simp at e; omega)
  replace hg := grownBy_trans hg (grownBy_trans (World.grownBy_alloc _ _ _) hg3)
  have c0 := (A0.cell 0).trans (show _ = some _ from rfl)
  have c1 := (A0.cell 1).trans (show _ = some _ from rfl)
  have c2 := (A0.cell 2).trans (show _ = some _ from rfl)
  have fz := A0.frozen
  have hfc : Hid (hfC (bs, 1 + n, k) = 0) := by
    show _ = _
    unfold hfC
    rw [if_pos HL.out]
    have h1 : inB (1 + n) 1 65520 = true := by simp [inB]; omega
    have h2 : inB k 0 9 = true := by have := hR.out; simp [inB]; omega
    simp only [h1, h2]
    rfl
  rw [show t + 8 + 1 + 1 = t + 10 by omega] at hs3
  have hE := bent_end3 hs3 hb0.out hg (.slice pu bs.length qu) (.int .i64 (1 + n)) (.int .i64 k)
  clear hg3 hs2 A0
  go_wp2_with fail
  exact bodyPost_ret (v := .agg #[.slice pu bs.length qu, .int .i64 (1 + n), .int .i64 k]) (by simp [results, Try.results34, go_sem, c0, c1, c2]) rfl ⟨pu, qu, (bs, 1 + n, k), rfl, hfc.out, (((ho.set (a := ⟨w.heap.size, 0, none⟩) (Nat.lt_succ_self _) _).set (a := ⟨w.heap.size, 1, none⟩) (Nat.lt_succ_self _) _).set (a := ⟨w.heap.size, 2, none⟩) (Nat.lt_succ_self _) _).lower (Nat.le_succ _), hE.1, hE.2⟩
set_option maxRecDepth 4000 in
set_option maxHeartbeats 2000000 in
theorem l10Bent_c (b : Nat) (p : Option Addr) (q : Nat) (cs : List UInt8) (t : Int) (w : World) (hs : Src w b p q cs t) (ht : 0 ≤ t) (ht2 : t ≤ 700000000) :
    Calls Try.prog 50 #[.pointer (some ⟨b, 0, none⟩)] w fun e w' => ∃ (pu : Option Addr) (qu : Nat) (h : HelloD) (t' : Int), e = .returned (.agg #[.slice pu h.1.length qu, .int .i64 h.2.1, .int .i64 h.2.2]) ∧ h.1.length ≤ 8 ∧ Rd w' pu qu h.1 ∧ (∀ y, pu = some y → w.heap.size ≤ y.block) ∧ t ≤ t' ∧ t' ≤ t + 20 ∧ Src w' b p q cs t' ∧ w.grownBy w' (some b) := by
  have A0 := Arr.new w [.slice none 0 0, .int .i64 0, .int .i64 0] 29
  have hb0 : Hid (b < w.heap.size) := hs.lt
  have hz0 : Hid ((w.alloc (.cells #[.slice none 0 0, .int .i64 0, .int .i64 0] 29)).heap.size = w.heap.size + 1) := size_alloc _ _
  go_enter Try.func50, Try.ntmps50
  go_wp2_with fail
  refine (l10Draw_c b p q cs t _ (hs.keep (alloc_below _ _)) (by omega) (by omega)).mono ?_
  rintro e w1 ⟨pu, qu, h, rfl, hf, ho, hs1, hg1⟩
  rw [hz0.out] at ho
  have h8 : h.1.length = 8 := (hf_parts hf).1
  have H8 : Hid (h.1.length = 8) := h8
  replace A0 := A0.other hg1 (fun e => by have := hb0.out; simp at e; omega)
  replace hg1 := grownBy_trans (World.grownBy_alloc w _ _) hg1
  have hlo : Hid (∀ k, (Value.slice pu h.1.length qu).ownBlock = some k → k < w1.heap.size) := fun k hk => ho.lt k hk
  have HLoc : Hid (∀ y, pu = some y → w.heap.size ≤ y.block) := fun y hy => by subst hy; have := ho.ge y.block rfl; omega
  have A1 := Arr.new w1 [.slice pu h.1.length qu, .int .i64 h.2.1, .int .i64 h.2.2] 29
  have hb1 : Hid (b < w1.heap.size) := hs1.lt
  have hw1 : Hid (w.heap.size < w1.heap.size) := A0.lt
  clear hf h8
  go_wp2_with fail
  refine (l1Next_c b p q cs (t + 10) 8 _ (hs1.keep (alloc_below _ _)) (by omega) (by omega) (by omega) (by omega)).mono ?_
  rintro e w2 ⟨r, rfl, x0, y0, hs2, hg2⟩
  replace A1 := A1.other hg2 (fun e => by have := hb1.out; simp at e; omega)
  replace A0 := (A0.stay (alloc_below _ _)).other hg2 (fun e => by have := hb0.out; simp at e; omega)
  replace ho := (ho.stay (alloc_below _ _)).other hg2 (fun k hk e => by have := ho.ge k hk; have := hb0.out; simp at e; omega)
  have hg : w.grownBy w2 (some b) := grownBy_trans hg1 (grownBy_trans (World.grownBy_alloc _ _ _) hg2)
  have hnw : w.heap.size ≠ w1.heap.size := by have := hw1.out; omega
  have hnw2 : w1.heap.size ≠ w.heap.size := by have := hw1.out; omega
  clear hg1 hg2 hs hs1
  by_cases h0 : r = 0
  · subst h0
    obtain ⟨b3, o3, rfl, -⟩ := (Rd.own ho).2.2.2 (by have := H8.out; omega)
    have hq1 : 8 ≤ qu := by have h1 := (Rd.own ho).1; have := H8.out; omega
    have hq2 : qu ≤ 2 ^ 63 - 1 := (Rd.own ho).2.1
    have hq3 : ¬ qu = 1 := by omega
    have HD : Hid ((h.1.drop 1).length = 7) := by show _ = _; rw [List.length_drop, H8.out]
    have RD : Hid (Rd w2 (some ⟨b3, o3 + 1, none⟩) (qu - 1) (h.1.drop 1)) := by
      have hc := (Rd.own ho).cut 1 7 (qu - 1) (by have := H8.out; omega) (by omega) (by unfold maxLen; omega)
      rw [List.take_of_length_le (by have := HD.out; omega)] at hc
      exact hc
    have hb3 : Hid (b3 < w1.heap.size ∧ w.heap.size < b3) := ⟨hlo.out b3 rfl, by have h := ho.ge b3 rfl; omega⟩
    have hn8 : (h.1.length : Int) = 8 := by have := H8.out; omega
    rw [H8.out] at A1 ⊢
    have c0 := (A1.cell 0).trans (show _ = some _ from rfl)
    have c1 := (A1.cell 1).trans (show _ = some _ from rfl)
    have c2 := (A1.cell 2).trans (show _ = some _ from rfl)
    have d0 := (A0.cell 0).trans (show _ = some _ from rfl)
    have d1 := (A0.cell 1).trans (show _ = some _ from rfl)
    have d2 := (A0.cell 2).trans (show _ = some _ from rfl)
    have fz := A1.frozen
    have fy := A0.frozen
    have hgs := grownBy_set w2 w1.heap.size 0 (.slice (some ⟨b3, o3 + 1, none⟩) 7 (qu - 1))
    have hE := bent_end3 (hs2.other hgs (fun k hk => by simp at hk; have := hb1.out; omega)) hb0.out (grownBy_setNew hg (Nat.le_of_lt hw1.out)) (.slice (some ⟨b3, o3 + 1, none⟩) 7 (qu - 1)) (.int .i64 h.2.1) (.int .i64 h.2.2)
    have RE : Hid (Rd ((((w2.setCell ⟨w1.heap.size, 0, none⟩ (.slice (some ⟨b3, o3 + 1, none⟩) 7 (qu - 1))).setCell ⟨w.heap.size, 0, none⟩ (.slice (some ⟨b3, o3 + 1, none⟩) 7 (qu - 1))).setCell ⟨w.heap.size, 1, none⟩ (.int .i64 h.2.1)).setCell ⟨w.heap.size, 2, none⟩ (.int .i64 h.2.2)) (some ⟨b3, o3 + 1, none⟩) (qu - 1) (h.1.drop 1)) := by
      refine rd_set (rd_set (rd_set (rd_set RD.out (fun k hk => ?_) _) (fun k hk => ?_) _) (fun k hk => ?_) _) (fun k hk => ?_) _ <;> (cases hk; have := hb3.out; first | (show b3 ≠ w1.heap.size; omega) | (show b3 ≠ w.heap.size; omega))
    clear hgs hg ho A1 A0 hn8
    go_wp2_with fail
    exact bodyPost_ret (v := .agg #[.slice (some ⟨b3, o3 + 1, none⟩) 7 (qu - 1), .int .i64 h.2.1, .int .i64 h.2.2]) (by simp [results, Try.results50, go_sem, d0, d1, d2]) rfl ⟨some ⟨b3, o3 + 1, none⟩, qu - 1, (h.1.drop 1, h.2.1, h.2.2), t + 10 + 1, (by show _ = Ending.returned (.agg #[.slice _ (h.1.drop 1).length _, _, _]); rw [HD.out]), (show (h.1.drop 1).length ≤ 8 by have := HD.out; omega), RE.out, (fun y hy => by cases hy; show w.heap.size ≤ b3; have := hb3.out; omega), by omega, by omega, hE.1, hE.2⟩
  · have e0 : (r == 0) = false := by simp [h0]
    by_cases h1 : r = 1
    · subst h1
      go_wp2_with fail
      refine (l1Pick_c b p q cs (t + 10 + 1) w2.heap.size [0, 65520, 65521] 3 _ (hs2.keep (alloc_below _ _)) (by omega) (by omega) rfl (by decide) (by decide) (by have := hs2.lt; omega) (new_ints _ _ _ [0, 65520, 65521] rfl)).mono ?_
      rintro e w3 ⟨k3, -, rfl, hs3, hg3⟩
      replace A1 := (A1.stay (alloc_below _ _)).other hg3 (fun e => by have := hb1.out; simp at e; omega)
      replace A0 := (A0.stay (alloc_below _ _)).other hg3 (fun e => by have := hb0.out; simp at e; omega)
      replace ho := (ho.stay (alloc_below _ _)).other hg3 (fun k hk e => by have := ho.ge k hk; have := hb0.out; simp at e; omega)
      replace hg := grownBy_trans hg (grownBy_trans (World.grownBy_alloc _ _ _) hg3)
      have hgs := grownBy_set w3 w1.heap.size 1 (.int .i64 k3)
      have hE := bent_end3 (hs3.other hgs (fun k hk => by simp at hk; have := hb1.out; omega)) hb0.out (grownBy_setNew hg (Nat.le_of_lt hw1.out)) (.slice pu h.1.length qu) (.int .i64 k3) (.int .i64 h.2.2)
      have RE : Hid (Rd ((((w3.setCell ⟨w1.heap.size, 1, none⟩ (.int .i64 k3)).setCell ⟨w.heap.size, 0, none⟩ (.slice pu h.1.length qu)).setCell ⟨w.heap.size, 1, none⟩ (.int .i64 k3)).setCell ⟨w.heap.size, 2, none⟩ (.int .i64 h.2.2)) pu qu h.1) := Rd.own ((((ho.other hgs (fun k hk e => by have := hlo.out k hk; simp at e; omega)).set (a := ⟨w.heap.size, 0, none⟩) (Nat.lt_succ_self _) _).set (a := ⟨w.heap.size, 1, none⟩) (Nat.lt_succ_self _) _).set (a := ⟨w.heap.size, 2, none⟩) (Nat.lt_succ_self _) _)
      have c0 := (A1.cell 0).trans (show _ = some _ from rfl)
      have c1 := (A1.cell 1).trans (show _ = some _ from rfl)
      have c2 := (A1.cell 2).trans (show _ = some _ from rfl)
      have d0 := (A0.cell 0).trans (show _ = some _ from rfl)
      have d1 := (A0.cell 1).trans (show _ = some _ from rfl)
      have d2 := (A0.cell 2).trans (show _ = some _ from rfl)
      have fz := A1.frozen
      have fy := A0.frozen
      clear hgs hg hs3 ho hg3 hs2 A1 A0
      go_wp2_with fail
      exact bodyPost_ret (v := .agg #[.slice pu h.1.length qu, .int .i64 k3, .int .i64 h.2.2]) (by simp [results, Try.results50, go_sem, d0, d1, d2]) rfl ⟨pu, qu, (h.1, k3, h.2.2), t + 10 + 1 + 1, rfl, (show h.1.length ≤ 8 by have := H8.out; omega), RE.out, HLoc.out, by omega, by omega, hE.1, hE.2⟩
    · have e1 : (r == 1) = false := by simp [h1]
      by_cases h2 : r = 2
      · subst h2
        go_wp2_with fail
        refine (l1Pick_c b p q cs (t + 10 + 1) w2.heap.size [9, 10, -1] 3 _ (hs2.keep (alloc_below _ _)) (by omega) (by omega) rfl (by decide) (by decide) (by have := hs2.lt; omega) (new_ints _ _ _ [9, 10, -1] rfl)).mono ?_
        rintro e w3 ⟨k3, -, rfl, hs3, hg3⟩
        replace A1 := (A1.stay (alloc_below _ _)).other hg3 (fun e => by have := hb1.out; simp at e; omega)
        replace A0 := (A0.stay (alloc_below _ _)).other hg3 (fun e => by have := hb0.out; simp at e; omega)
        replace ho := (ho.stay (alloc_below _ _)).other hg3 (fun k hk e => by have := ho.ge k hk; have := hb0.out; simp at e; omega)
        replace hg := grownBy_trans hg (grownBy_trans (World.grownBy_alloc _ _ _) hg3)
        have hgs := grownBy_set w3 w1.heap.size 2 (.int .i64 k3)
        have hE := bent_end3 (hs3.other hgs (fun k hk => by simp at hk; have := hb1.out; omega)) hb0.out (grownBy_setNew hg (Nat.le_of_lt hw1.out)) (.slice pu h.1.length qu) (.int .i64 h.2.1) (.int .i64 k3)
        have RE : Hid (Rd ((((w3.setCell ⟨w1.heap.size, 2, none⟩ (.int .i64 k3)).setCell ⟨w.heap.size, 0, none⟩ (.slice pu h.1.length qu)).setCell ⟨w.heap.size, 1, none⟩ (.int .i64 h.2.1)).setCell ⟨w.heap.size, 2, none⟩ (.int .i64 k3)) pu qu h.1) := Rd.own ((((ho.other hgs (fun k hk e => by have := hlo.out k hk; simp at e; omega)).set (a := ⟨w.heap.size, 0, none⟩) (Nat.lt_succ_self _) _).set (a := ⟨w.heap.size, 1, none⟩) (Nat.lt_succ_self _) _).set (a := ⟨w.heap.size, 2, none⟩) (Nat.lt_succ_self _) _)
        have c0 := (A1.cell 0).trans (show _ = some _ from rfl)
        have c1 := (A1.cell 1).trans (show _ = some _ from rfl)
        have c2 := (A1.cell 2).trans (show _ = some _ from rfl)
        have d0 := (A0.cell 0).trans (show _ = some _ from rfl)
        have d1 := (A0.cell 1).trans (show _ = some _ from rfl)
        have d2 := (A0.cell 2).trans (show _ = some _ from rfl)
        have fz := A1.frozen
        have fy := A0.frozen
        clear hgs hg hs3 ho hg3 hs2 A1 A0
        go_wp2_with fail
        exact bodyPost_ret (v := .agg #[.slice pu h.1.length qu, .int .i64 h.2.1, .int .i64 k3]) (by simp [results, Try.results50, go_sem, d0, d1, d2]) rfl ⟨pu, qu, (h.1, h.2.1, k3), t + 10 + 1 + 1, rfl, (show h.1.length ≤ 8 by have := H8.out; omega), RE.out, HLoc.out, by omega, by omega, hE.1, hE.2⟩
      · have e2 : (r == 2) = false := by simp [h2]
        have hE := bent_end3 hs2 hb0.out hg (.slice pu h.1.length qu) (.int .i64 h.2.1) (.int .i64 h.2.2)
        have RE : Hid (Rd (((w2.setCell ⟨w.heap.size, 0, none⟩ (.slice pu h.1.length qu)).setCell ⟨w.heap.size, 1, none⟩ (.int .i64 h.2.1)).setCell ⟨w.heap.size, 2, none⟩ (.int .i64 h.2.2)) pu qu h.1) := Rd.own (((ho.set (a := ⟨w.heap.size, 0, none⟩) (Nat.lt_succ_self _) _).set (a := ⟨w.heap.size, 1, none⟩) (Nat.lt_succ_self _) _).set (a := ⟨w.heap.size, 2, none⟩) (Nat.lt_succ_self _) _)
        have c0 := (A1.cell 0).trans (show _ = some _ from rfl)
        have c1 := (A1.cell 1).trans (show _ = some _ from rfl)
        have c2 := (A1.cell 2).trans (show _ = some _ from rfl)
        have d0 := (A0.cell 0).trans (show _ = some _ from rfl)
        have d1 := (A0.cell 1).trans (show _ = some _ from rfl)
        have d2 := (A0.cell 2).trans (show _ = some _ from rfl)
        have fz := A1.frozen
        have fy := A0.frozen
        clear hg ho hs2 A1 A0
        go_wp2_with fail
        exact bodyPost_ret (v := .agg #[.slice pu h.1.length qu, .int .i64 h.2.1, .int .i64 h.2.2]) (by simp [results, Try.results50, go_sem, d0, d1, d2]) rfl ⟨pu, qu, h, t + 10 + 1, rfl, (show h.1.length ≤ 8 by have := H8.out; omega), RE.out, HLoc.out, by omega, by omega, hE.1, hE.2⟩
end Go.Proofs.Ytpbkncliepkhaaa

