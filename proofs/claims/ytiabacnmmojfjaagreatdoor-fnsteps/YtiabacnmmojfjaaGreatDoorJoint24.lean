/- The draws of chapter 11 (begun): l11Draw: a side without a fault. What comes out owns its memory. -/
import Derived.Test.YtiabacnmmojfjaaGreatDoorJoint15
import Derived.Test.YtiabacnmmojfjaaGreatDoorJoint11
import Derived.Test.YtiabacnmmojfjaaGreatDoorJoint20
import Derived.Test.YtiabacnmmojfjaaGreatDoorJoint14
import Derived.Test.YtiabacnmmojfjaaGreatDoorJoint12
import Derived.Test.YtiabacnmmojfjaaGreatDoorJoint21
namespace Go.Proofs.YtiabacnmmojfjaaGreatDoor
open Go.ChangeShapes Go.WideShapes Go.ChangeAt Go.RowKit

theorem keySet {w : World} {B g : Nat} (h : Own w B (.slice (some ⟨g, 0, none⟩) 32 32) (zs 32)) (k : UInt8) : Own (w.setCell ⟨g, 0, none⟩ (u8v k)) B (.slice (some ⟨g, 0, none⟩) 32 32) ((zs 32).set 0 k) := by
  have hr : w.ownsRow B 5 1 (.slice (some ⟨g, 0, none⟩) 32 32) 32 ((zs 32).map u8v) := h
  have h2 := (World.ownsRow.stored hr 0 (u8v k)).1
  have e : ((zs 32).map u8v).set 0 (u8v k) = ((zs 32).set 0 k).map u8v := by rw [List.map_set]
  rw [e] at h2
  exact h2
theorem bent_end4 {w v : World} {b : Nat} {p : Option Addr} {q : Nat} {cs : List UInt8} {t : Int} (hs : Src v b p q cs t) (hb : b < w.heap.size) (hg : w.grownBy v (some b)) (x y z u : Value) :
    Src ((((v.setCell ⟨w.heap.size, 0, none⟩ x).setCell ⟨w.heap.size, 1, none⟩ y).setCell ⟨w.heap.size, 2, none⟩ z).setCell ⟨w.heap.size, 3, none⟩ u) b p q cs t ∧ w.grownBy ((((v.setCell ⟨w.heap.size, 0, none⟩ x).setCell ⟨w.heap.size, 1, none⟩ y).setCell ⟨w.heap.size, 2, none⟩ z).setCell ⟨w.heap.size, 3, none⟩ u) (some b) :=
  ⟨(bent_end3 hs hb hg x y z).1.other (grownBy_set _ _ _ _) (fun k hk => by simp at hk; omega), grownBy_setNew (bent_end3 hs hb hg x y z).2 (Nat.le_refl _)⟩
set_option maxRecDepth 4000 in
set_option maxHeartbeats 2000000 in
theorem l11Draw_c (b : Nat) (p : Option Addr) (q : Nat) (cs : List UInt8) (t : Int) (w : World) (hs : Src w b p q cs t) (ht : 0 ≤ t) (ht2 : t ≤ 800000000) :
    Calls Tryz.prog 78 #[.pointer (some ⟨b, 0, none⟩)] w fun e w' => ∃ (pu pv : Option Addr) (qu qv : Nat) (s : SideD), e = .returned (.agg #[.int .i64 s.1, .slice pu s.2.1.length qu, .int .i64 s.2.2.1, .slice pv s.2.2.2.length qv]) ∧ sfC s = 0 ∧ Own w' w.heap.size (.slice pu s.2.1.length qu) s.2.1 ∧ Own w' w.heap.size (.slice pv s.2.2.2.length qv) s.2.2.2 ∧ Src w' b p q cs (t + 10) ∧ w.grownBy w' (some b) := by
  have A0 := Arr.new w [.int .i64 0, .slice none 0 0, .int .i64 0, .slice none 0 0] 25
  have hb0 : Hid (b < w.heap.size) := hs.lt
  have hz0 : Hid ((w.alloc (.cells #[.int .i64 0, .slice none 0 0, .int .i64 0, .slice none 0 0] 25)).heap.size = w.heap.size + 1) := size_alloc _ _
  go_enter Tryz.func78, Tryz.ntmps78
  go_wp2_with fail
  refine (l1Next_c b p q cs t 65519 _ (hs.keep (alloc_below _ _)) (by omega) (by omega) (by omega) (by omega)).mono ?_
  rintro e v1 ⟨n, rfl, x1, y1, hs1, hg1⟩
  replace A0 := A0.other hg1 (fun e => by have := hb0.out; simp at e; omega)
  have hg : w.grownBy v1 (some b) := grownBy_trans (World.grownBy_alloc _ _ _) hg1
  clear hg1 hs
  have hv1 : Hid (w.heap.size + 1 ≤ v1.heap.size) := A0.lt
  go_wp2_with fail
  refine (l1Some_c b p q cs (t + 1) 8 _ hs1 (by omega) (by omega) (by omega) (by omega)).mono ?_
  rintro e v2 ⟨u, bs, rfl, hl, ho, hs2, hg2⟩
  replace A0 := A0.other hg2 (fun e => by have := hb0.out; simp at e; omega)
  replace hg := grownBy_trans hg hg2
  obtain ⟨pu, qu, rfl, -⟩ := ho.rd
  have HL : Hid (bs.length = 8) := hl
  replace ho := ho.lower hv1.out
  clear hg2 hs1 hl
  go_wp2_with fail
  refine (l1Pick_c b p q cs (t + 1 + 8) v2.heap.size [0, 0, 1, 1, 2] 5 _ (hs2.keep (alloc_below _ _)) (by omega) (by omega) rfl (by decide) (by decide) (by have := hs2.lt; omega) (new_ints _ _ _ [0, 0, 1, 1, 2] rfl)).mono ?_
  rintro e v3 ⟨k, hk, rfl, hs3, hg3⟩
  have hR : Hid (0 ≤ k ∧ k ≤ 2) := by
    show _ ∧ _
    simp only [List.mem_cons, List.not_mem_nil, or_false] at hk
    omega
  clear hk
  replace A0 := (A0.stay (alloc_below _ _)).other hg3 (fun e => by have := hb0.out; simp at e; omega)
  replace ho := (ho.stay (alloc_below _ _)).other hg3 (fun k hk e => by have := ho.ge k hk; have := hb0.out; simp at e; omega)
  replace hg := grownBy_trans hg (grownBy_trans (World.grownBy_alloc _ _ _) hg3)
  rw [show t + 1 + 8 + 1 = t + 10 by omega] at hs3
  clear hg3 hs2
  have HV3 : Hid (w.heap.size + 1 ≤ v3.heap.size) := A0.lt
  have A1 := A0.stay (alloc_below v3 (.cells #[.int .i64 (1 + n), .slice pu bs.length qu, .int .i64 k, .slice none 0 0] 25))
  have N := Arr.new v3 [.int .i64 (1 + n), .slice pu bs.length qu, .int .i64 k, .slice none 0 0] 25
  have ho1 := ho.stay (alloc_below v3 (.cells #[.int .i64 (1 + n), .slice pu bs.length qu, .int .i64 k, .slice none 0 0] 25))
  have hs4 := hs3.keep (alloc_below v3 (.cells #[.int .i64 (1 + n), .slice pu bs.length qu, .int .i64 k, .slice none 0 0] 25))
  have hg4 := grownBy_trans hg (World.grownBy_alloc v3 (.cells #[.int .i64 (1 + n), .slice pu bs.length qu, .int .i64 k, .slice none 0 0] 25) (some b))
  have HO3 : Hid (∀ j, (Value.slice pu bs.length qu).ownBlock = some j → j < v3.heap.size) := fun j hj => ho.lt j hj
  clear A0 ho hs3 hg
  by_cases hk0 : k = 0
  · have dk : (k != 0) = false := by rw [bne_eq_false_iff_eq]; exact hk0
    have hsf : Hid (sfC (1 + n, bs, k, []) = 0) := by
      show _ = _
      unfold sfC
      have h1 : inB (1 + n) 1 65519 = true := by simp [inB]; omega
      have h2 : inB k 0 9 = true := by have := hR.out; simp [inB]; omega
      simp only [h1, h2, Bool.and_self, if_true]
      rw [if_pos ⟨HL.out, by rw [keyW, if_pos hk0]; rfl⟩]
    have c0 := (A1.cell 0).trans (show _ = some _ from rfl)
    have c1 := (A1.cell 1).trans (show _ = some _ from rfl)
    have c2 := (A1.cell 2).trans (show _ = some _ from rfl)
    have c3 := (A1.cell 3).trans (show _ = some _ from rfl)
    have fz := A1.frozen
    have hE := bent_end4 hs4 hb0.out hg4 (.int .i64 (1 + n)) (.slice pu bs.length qu) (.int .i64 k) (.slice none 0 0)
    clear hk0 A1 N hs4 hg4
    go_wp2_with fail
    exact bodyPost_ret (v := .agg #[.int .i64 (1 + n), .slice pu bs.length qu, .int .i64 k, .slice none 0 0]) (by simp [results, Tryz.results78, go_sem, c0, c1, c2, c3]) rfl ⟨pu, none, qu, 0, (1 + n, bs, k, []), rfl, hsf.out, ((((ho1.set (a := ⟨w.heap.size, 0, none⟩) (Nat.lt_succ_self _) _).set (a := ⟨w.heap.size, 1, none⟩) (Nat.lt_succ_self _) _).set (a := ⟨w.heap.size, 2, none⟩) (Nat.lt_succ_self _) _).set (a := ⟨w.heap.size, 3, none⟩) (Nat.lt_succ_self _) _).lower (Nat.le_succ _), Own_nil _ _, hE.1, hE.2⟩
  · have dk : (k != 0) = true := by rw [bne_iff_ne]; exact hk0
    obtain ⟨kb, HKB⟩ : ∃ kb : UInt8, Hid ((kb.toNat : Int) = k) := ⟨UInt8.ofNat k.toNat, by show _ = _; have := hR.out; rw [UInt8.toNat_ofNat']; omega⟩
    have hk1 : 0 ≤ k := hR.out.1
    have hk2 : k ≤ 2 := hR.out.2
    have hsf : Hid (sfC (1 + n, bs, k, (zs 32).set 0 kb) = 0) := by
      show _ = _
      unfold sfC
      have h1 : inB (1 + n) 1 65519 = true := by simp [inB]; omega
      have h2 : inB k 0 9 = true := by have := hR.out; simp [inB]; omega
      simp only [h1, h2, Bool.and_self, if_true]
      rw [if_pos ⟨HL.out, by rw [keyW, if_neg hk0, List.length_set, zs_len]⟩]
    have n2 := (N.cell 2).trans (show _ = some _ from rfl)
    have n3 := (N.cell 3).trans (show _ = some _ from rfl)
    have fn := N.frozen
    obtain ⟨i0, hi, hz0', hz1, hz2⟩ := info_parts info8
    have hsz : (v3.alloc (.cells #[.int .i64 (1 + n), .slice pu bs.length qu, .int .i64 k, .slice none 0 0] 25)).heap.size = v3.heap.size + 1 := size_alloc _ _
    clear hk0
    go_wp2_with (at_make; refine wpList_make_full _ rfl (.const (.int .i64 32)) (.const (.int .i64 32)) 22 rfl (v3.heap.size + 1) 5 i0 (.int .u8 0) 1 Tryz.underlying22 hi hz0' hz1 .i64 .i64 _ _ 32 rfl rfl rfl rfl (by rw [hz2]; decide) (by unfold maxLen; decide) (by rw [hsz]; exact Nat.le_refl _) ?_; intro w5 hown hgrow; refine Hid.out ?_)
    unfold Hid
    have K5 := made_zeros hown
    have hb5 : Below (v3.alloc (.cells #[.int .i64 (1 + n), .slice pu bs.length qu, .int .i64 k, .slice none 0 0] 25)).heap.size (v3.alloc (.cells #[.int .i64 (1 + n), .slice pu bs.length qu, .int .i64 k, .slice none 0 0] 25)) w5 := ⟨hgrow.os, hgrow.tape, hgrow.output, hgrow.size, fun k hk => hgrow.block k hk (fun e => by cases e)⟩
    have hgb : (v3.alloc (.cells #[.int .i64 (1 + n), .slice pu bs.length qu, .int .i64 k, .slice none 0 0] 25)).grownBy w5 (some b) := ⟨hgrow.os, hgrow.tape, hgrow.output, hgrow.size, fun k hk _ => hgrow.block k hk (fun e => by cases e)⟩
    rw [hsz] at K5
    have HL5 : Hid (bs.length = 8) := HL.out
    have HR5 : Hid (w.heap.size < v3.heap.size) := HV3.out
    replace A1 := A1.stay hb5
    replace N := N.stay hb5
    replace ho1 := ho1.stay hb5
    have HLt : Hid (∀ j, (Value.slice pu bs.length qu).ownBlock = some j → j < v3.heap.size) := HO3.out
    replace hs4 := hs4.keep hb5
    replace hg4 := grownBy_trans hg4 hgb
    have HB3 : Hid (b < v3.heap.size) := by show _ < _; have := hb0.out; have := HV3.out; omega
    clear hown hgrow hb5 hgb n2 n3 fn
    have f5 := N.frozen
    have n3 := (N.cell 3).trans (show _ = some _ from rfl)
    have N6 := N.set 3 (.slice (some ⟨v3.heap.size + 1, 0, none⟩) 32 32)
    simp only [List.set_cons_zero, List.set_cons_succ] at N6
    have A6 := A1.setOther (a := ⟨v3.heap.size, 3, none⟩) (by have := HR5.out; show w.heap.size ≠ v3.heap.size; omega) (.slice (some ⟨v3.heap.size + 1, 0, none⟩) 32 32)
    have K6 := K5.set (a := ⟨v3.heap.size, 3, none⟩) (Nat.lt_succ_self _) (.slice (some ⟨v3.heap.size + 1, 0, none⟩) 32 32)
    have ho6 := ho1.other (grownBy_set w5 v3.heap.size 3 (.slice (some ⟨v3.heap.size + 1, 0, none⟩) 32 32)) (fun j hj e => by have := HLt.out j hj; simp at e; omega)
    have hs6 := hs4.other (grownBy_set w5 v3.heap.size 3 (.slice (some ⟨v3.heap.size + 1, 0, none⟩) 32 32)) (fun k hk => by have := HB3.out; simp at hk; omega)
    have hg6 := grownBy_setNew (o := 3) (u := .slice (some ⟨v3.heap.size + 1, 0, none⟩) 32 32) hg4 (show w.heap.size ≤ v3.heap.size by have := HR5.out; omega)
    generalize e6 : w5.setCell ⟨v3.heap.size, 3, none⟩ (.slice (some ⟨v3.heap.size + 1, 0, none⟩) 32 32) = W6 at *
    have f6 := (Own.arr K6 (by rw [zs_len])).frozen
    have k6 := ((Own.arr K6 (by rw [zs_len])).cell 0).trans (show _ = some (Value.int .u8 0) from rfl)
    have x2 := (N6.cell 2).trans (show _ = some _ from rfl)
    have x3 := (N6.cell 3).trans (show _ = some _ from rfl)
    have K7 := keySet K6 kb
    rw [show u8v kb = .int .u8 k by simp only [u8v]; rw [HKB.out]] at K7
    have N7 := N6.setOther (a := ⟨v3.heap.size + 1, 0, none⟩) (by show v3.heap.size ≠ v3.heap.size + 1; omega) (.int .u8 k)
    have A7 := A6.setOther (a := ⟨v3.heap.size + 1, 0, none⟩) (by have := HR5.out; show w.heap.size ≠ v3.heap.size + 1; omega) (.int .u8 k)
    have ho7 := ho6.other (grownBy_set W6 (v3.heap.size + 1) 0 (.int .u8 k)) (fun j hj e => by have := HLt.out j hj; simp at e; omega)
    have hs7 := hs6.other (grownBy_set W6 (v3.heap.size + 1) 0 (.int .u8 k)) (fun k hk => by have := HB3.out; simp at hk; omega)
    have hg7 := grownBy_setNew (o := 0) (u := .int .u8 k) hg6 (show w.heap.size ≤ v3.heap.size + 1 by have := HR5.out; omega)
    generalize e7 : W6.setCell ⟨v3.heap.size + 1, 0, none⟩ (.int .u8 k) = W7 at *
    have y0 := (N7.cell 0).trans (show _ = some _ from rfl)
    have y1' := (N7.cell 1).trans (show _ = some _ from rfl)
    have y2 := (N7.cell 2).trans (show _ = some _ from rfl)
    have y3 := (N7.cell 3).trans (show _ = some _ from rfl)
    have c0 := (A7.cell 0).trans (show _ = some _ from rfl)
    have c1 := (A7.cell 1).trans (show _ = some _ from rfl)
    have c2 := (A7.cell 2).trans (show _ = some _ from rfl)
    have c3 := (A7.cell 3).trans (show _ = some _ from rfl)
    have fz := A7.frozen
    have hE := bent_end4 hs7 hb0.out hg7 (.int .i64 (1 + n)) (.slice pu bs.length qu) (.int .i64 k) (.slice (some ⟨v3.heap.size + 1, 0, none⟩) 32 32)
    have K8 := K7.lower (show w.heap.size + 1 ≤ v3.heap.size + 1 by have := HR5.out; omega)
    clear A1 A6 A7 N N6 N7 K5 K6 K7 hs4 hs6 hs7 hg4 hg6 hg7 ho1 ho6
    go_wp2_with fail
    exact bodyPost_ret (v := .agg #[.int .i64 (1 + n), .slice pu bs.length qu, .int .i64 k, .slice (some ⟨v3.heap.size + 1, 0, none⟩) 32 32]) (by simp [results, Tryz.results78, go_sem, c0, c1, c2, c3]) rfl ⟨pu, some ⟨v3.heap.size + 1, 0, none⟩, qu, 32, (1 + n, bs, k, (zs 32).set 0 kb), by simp only [List.length_set, zs_len], hsf.out, ((((ho7.set (a := ⟨w.heap.size, 0, none⟩) (Nat.lt_succ_self _) _).set (a := ⟨w.heap.size, 1, none⟩) (Nat.lt_succ_self _) _).set (a := ⟨w.heap.size, 2, none⟩) (Nat.lt_succ_self _) _).set (a := ⟨w.heap.size, 3, none⟩) (Nat.lt_succ_self _) _).lower (Nat.le_succ _), by simp only [List.length_set, zs_len]; exact ((((K8.set (a := ⟨w.heap.size, 0, none⟩) (Nat.lt_succ_self _) _).set (a := ⟨w.heap.size, 1, none⟩) (Nat.lt_succ_self _) _).set (a := ⟨w.heap.size, 2, none⟩) (Nat.lt_succ_self _) _).set (a := ⟨w.heap.size, 3, none⟩) (Nat.lt_succ_self _) _).lower (Nat.le_succ _), hE.1, hE.2⟩
-- behind here: tools/draw_sh.py
set_option maxRecDepth 4000 in
set_option maxHeartbeats 2000000 in
theorem l11Bent_c (b : Nat) (p : Option Addr) (q : Nat) (cs : List UInt8) (t : Int) (w : World) (hs : Src w b p q cs t) (ht : 0 ≤ t) (ht2 : t ≤ 700000000) :
    Calls Tryz.prog 35 #[.pointer (some ⟨b, 0, none⟩)] w fun e w' => ∃ (pu pv : Option Addr) (qu qv : Nat) (s : SideD) (t' : Int), e = .returned (.agg #[.int .i64 s.1, .slice pu s.2.1.length qu, .int .i64 s.2.2.1, .slice pv s.2.2.2.length qv]) ∧ s.2.1.length ≤ 8 ∧ s.2.2.2.length ≤ 32 ∧ Rd w' pu qu s.2.1 ∧ Rd w' pv qv s.2.2.2 ∧ (∀ y, pu = some y → w.heap.size ≤ y.block) ∧ (∀ y, pv = some y → w.heap.size ≤ y.block) ∧ t ≤ t' ∧ t' ≤ t + 20 ∧ Src w' b p q cs t' ∧ w.grownBy w' (some b) := by
  have A0 := Arr.new w [.int .i64 0, .slice none 0 0, .int .i64 0, .slice none 0 0] 25
  have hb0 : Hid (b < w.heap.size) := hs.lt
  have hz0 : Hid ((w.alloc (.cells #[.int .i64 0, .slice none 0 0, .int .i64 0, .slice none 0 0] 25)).heap.size = w.heap.size + 1) := size_alloc _ _
  go_enter Tryz.func35, Tryz.ntmps35
  go_wp2_with fail
  refine (l11Draw_c b p q cs t _ (hs.keep (alloc_below _ _)) (by omega) (by omega)).mono ?_
  rintro e w1 ⟨pu, pv, qu, qv, s, rfl, hf, ho, hk, hs1, hg1⟩
  rw [hz0.out] at ho hk
  have hsp := sf_parts hf
  have H8 : Hid (s.2.1.length = 8) := hsp.2.2.2.2.1
  have H32 : Hid (s.2.2.2.length ≤ 32) := by show _ ≤ _; rw [hsp.2.2.2.2.2]; unfold keyW; split <;> decide
  replace A0 := A0.other hg1 (fun e => by have := hb0.out; simp at e; omega)
  replace hg1 := grownBy_trans (World.grownBy_alloc w _ _) hg1
  have hlo : Hid (∀ k, (Value.slice pu s.2.1.length qu).ownBlock = some k → k < w1.heap.size) := fun k hk => ho.lt k hk
  have hlv : Hid (∀ k, (Value.slice pv s.2.2.2.length qv).ownBlock = some k → k < w1.heap.size) := fun k h => hk.lt k h
  have HLoc : Hid (∀ y, pu = some y → w.heap.size ≤ y.block) := fun y hy => by subst hy; have := ho.ge y.block rfl; omega
  have HLocV : Hid (∀ y, pv = some y → w.heap.size ≤ y.block) := fun y hy => by subst hy; have := hk.ge y.block rfl; omega
  have A1 := Arr.new w1 [.int .i64 s.1, .slice pu s.2.1.length qu, .int .i64 s.2.2.1, .slice pv s.2.2.2.length qv] 25
  have hb1 : Hid (b < w1.heap.size) := hs1.lt
  have hw1 : Hid (w.heap.size < w1.heap.size) := A0.lt
  clear hf hsp
  go_wp2_with fail
  refine (l1Next_c b p q cs (t + 10) 16 _ (hs1.keep (alloc_below _ _)) (by omega) (by omega) (by omega) (by omega)).mono ?_
  rintro e w2 ⟨r, rfl, x0, y0, hs2, hg2⟩
  replace A1 := A1.other hg2 (fun e => by have := hb1.out; simp at e; omega)
  replace A0 := (A0.stay (alloc_below _ _)).other hg2 (fun e => by have := hb0.out; simp at e; omega)
  replace ho := (ho.stay (alloc_below _ _)).other hg2 (fun k hk2 e => by have := ho.ge k hk2; have := hb0.out; simp at e; omega)
  replace hk := (hk.stay (alloc_below _ _)).other hg2 (fun k hk2 e => by have := hk.ge k hk2; have := hb0.out; simp at e; omega)
  have hg : w.grownBy w2 (some b) := grownBy_trans hg1 (grownBy_trans (World.grownBy_alloc _ _ _) hg2)
  have hnw : w.heap.size ≠ w1.heap.size := by have := hw1.out; omega
  have hnw2 : w1.heap.size ≠ w.heap.size := by have := hw1.out; omega
  clear hg1 hg2 hs hs1
  by_cases h0 : r = 0
  · subst h0
    go_wp2_with fail
    refine (l1Pick_c b p q cs (t + 10 + 1) w2.heap.size [0, 65520] 2 _ (hs2.keep (alloc_below _ _)) (by omega) (by omega) rfl (by decide) (by decide) (by have := hs2.lt; omega) (new_ints _ _ _ [0, 65520] rfl)).mono ?_
    rintro e w3 ⟨k3, -, rfl, hs3, hg3⟩
    replace A1 := (A1.stay (alloc_below _ _)).other hg3 (fun e => by have := hb1.out; simp at e; omega)
    replace A0 := (A0.stay (alloc_below _ _)).other hg3 (fun e => by have := hb0.out; simp at e; omega)
    replace ho := (ho.stay (alloc_below _ _)).other hg3 (fun k hk2 e => by have := ho.ge k hk2; have := hb0.out; simp at e; omega)
    replace hk := (hk.stay (alloc_below _ _)).other hg3 (fun k hk2 e => by have := hk.ge k hk2; have := hb0.out; simp at e; omega)
    replace hg := grownBy_trans hg (grownBy_trans (World.grownBy_alloc _ _ _) hg3)
    have hgs := grownBy_set w3 w1.heap.size 0 (.int .i64 k3)
    have hE := bent_end4 (hs3.other hgs (fun k hk => by simp at hk; have := hb1.out; omega)) hb0.out (grownBy_setNew hg (Nat.le_of_lt hw1.out)) (.int .i64 k3) (.slice pu s.2.1.length qu) (.int .i64 s.2.2.1) (.slice pv s.2.2.2.length qv)
    have RE : Hid (Rd (((((w3.setCell ⟨w1.heap.size, 0, none⟩ (.int .i64 k3)).setCell ⟨w.heap.size, 0, none⟩ (.int .i64 k3)).setCell ⟨w.heap.size, 1, none⟩ (.slice pu s.2.1.length qu)).setCell ⟨w.heap.size, 2, none⟩ (.int .i64 s.2.2.1)).setCell ⟨w.heap.size, 3, none⟩ (.slice pv s.2.2.2.length qv)) pu qu s.2.1) := Rd.own (((((ho.other hgs (fun k hk2 e => by have := hlo.out k hk2; simp at e; omega)).set (a := ⟨w.heap.size, 0, none⟩) (Nat.lt_succ_self _) _).set (a := ⟨w.heap.size, 1, none⟩) (Nat.lt_succ_self _) _).set (a := ⟨w.heap.size, 2, none⟩) (Nat.lt_succ_self _) _).set (a := ⟨w.heap.size, 3, none⟩) (Nat.lt_succ_self _) _)
    have RV : Hid (Rd (((((w3.setCell ⟨w1.heap.size, 0, none⟩ (.int .i64 k3)).setCell ⟨w.heap.size, 0, none⟩ (.int .i64 k3)).setCell ⟨w.heap.size, 1, none⟩ (.slice pu s.2.1.length qu)).setCell ⟨w.heap.size, 2, none⟩ (.int .i64 s.2.2.1)).setCell ⟨w.heap.size, 3, none⟩ (.slice pv s.2.2.2.length qv)) pv qv s.2.2.2) := Rd.own (((((hk.other hgs (fun k hk2 e => by have := hlv.out k hk2; simp at e; omega)).set (a := ⟨w.heap.size, 0, none⟩) (Nat.lt_succ_self _) _).set (a := ⟨w.heap.size, 1, none⟩) (Nat.lt_succ_self _) _).set (a := ⟨w.heap.size, 2, none⟩) (Nat.lt_succ_self _) _).set (a := ⟨w.heap.size, 3, none⟩) (Nat.lt_succ_self _) _)
    have c0 := (A1.cell 0).trans (show _ = some _ from rfl)
    have c1 := (A1.cell 1).trans (show _ = some _ from rfl)
    have c2 := (A1.cell 2).trans (show _ = some _ from rfl)
    have c3 := (A1.cell 3).trans (show _ = some _ from rfl)
    have d0 := (A0.cell 0).trans (show _ = some _ from rfl)
    have d1 := (A0.cell 1).trans (show _ = some _ from rfl)
    have d2 := (A0.cell 2).trans (show _ = some _ from rfl)
    have d3 := (A0.cell 3).trans (show _ = some _ from rfl)
    have fz := A1.frozen
    have fy := A0.frozen
    clear hgs hg hs3 ho hk hg3 hs2 A1 A0
    go_wp2_with fail
    exact bodyPost_ret (v := .agg #[.int .i64 k3, .slice pu s.2.1.length qu, .int .i64 s.2.2.1, .slice pv s.2.2.2.length qv]) (by simp [results, Tryz.results35, go_sem, d0, d1, d2, d3]) rfl ⟨pu, pv, qu, qv, (k3, s.2.1, s.2.2.1, s.2.2.2), t + 10 + 1 + 1, rfl, (show s.2.1.length ≤ 8 by have := H8.out; omega), (show s.2.2.2.length ≤ 32 from H32.out), RE.out, RV.out, HLoc.out, HLocV.out, by omega, by omega, hE.1, hE.2⟩
  · have e0 : (r == 0) = false := by simp [h0]
    by_cases h1 : r = 1
    · subst h1
      obtain ⟨b3, o3, rfl, -⟩ := (Rd.own ho).2.2.2 (by have := H8.out; omega)
      have hq1 : 8 ≤ qu := by have h1 := (Rd.own ho).1; have := H8.out; omega
      have hq2 : qu ≤ 2 ^ 63 - 1 := (Rd.own ho).2.1
      have hq3 : ¬ qu = 1 := by omega
      have HD : Hid ((s.2.1.drop 1).length = 7) := by show _ = _; rw [List.length_drop, H8.out]
      have RD : Hid (Rd w2 (some ⟨b3, o3 + 1, none⟩) (qu - 1) (s.2.1.drop 1)) := by
        have hc := (Rd.own ho).cut 1 7 (qu - 1) (by have := H8.out; omega) (by omega) (by unfold maxLen; omega)
        rw [List.take_of_length_le (by have := HD.out; omega)] at hc
        exact hc
      have hb3 : Hid (b3 < w1.heap.size ∧ w.heap.size < b3) := ⟨hlo.out b3 rfl, by have h := ho.ge b3 rfl; omega⟩
      rw [H8.out] at A1 ⊢
      have c0 := (A1.cell 0).trans (show _ = some _ from rfl)
      have c1 := (A1.cell 1).trans (show _ = some _ from rfl)
      have c2 := (A1.cell 2).trans (show _ = some _ from rfl)
      have c3 := (A1.cell 3).trans (show _ = some _ from rfl)
      have d0 := (A0.cell 0).trans (show _ = some _ from rfl)
      have d1 := (A0.cell 1).trans (show _ = some _ from rfl)
      have d2 := (A0.cell 2).trans (show _ = some _ from rfl)
      have d3 := (A0.cell 3).trans (show _ = some _ from rfl)
      have fz := A1.frozen
      have fy := A0.frozen
      have hgs := grownBy_set w2 w1.heap.size 1 (.slice (some ⟨b3, o3 + 1, none⟩) 7 (qu - 1))
      have hE := bent_end4 (hs2.other hgs (fun k hk => by simp at hk; have := hb1.out; omega)) hb0.out (grownBy_setNew hg (Nat.le_of_lt hw1.out)) (.int .i64 s.1) (.slice (some ⟨b3, o3 + 1, none⟩) 7 (qu - 1)) (.int .i64 s.2.2.1) (.slice pv s.2.2.2.length qv)
      have RE : Hid (Rd (((((w2.setCell ⟨w1.heap.size, 1, none⟩ (.slice (some ⟨b3, o3 + 1, none⟩) 7 (qu - 1))).setCell ⟨w.heap.size, 0, none⟩ (.int .i64 s.1)).setCell ⟨w.heap.size, 1, none⟩ (.slice (some ⟨b3, o3 + 1, none⟩) 7 (qu - 1))).setCell ⟨w.heap.size, 2, none⟩ (.int .i64 s.2.2.1)).setCell ⟨w.heap.size, 3, none⟩ (.slice pv s.2.2.2.length qv)) (some ⟨b3, o3 + 1, none⟩) (qu - 1) (s.2.1.drop 1)) := by
        refine rd_set (rd_set (rd_set (rd_set (rd_set RD.out (fun k hk => ?_) _) (fun k hk => ?_) _) (fun k hk => ?_) _) (fun k hk => ?_) _) (fun k hk => ?_) _ <;> (cases hk; have := hb3.out; first | (show b3 ≠ w1.heap.size; omega) | (show b3 ≠ w.heap.size; omega))
      have RV : Hid (Rd (((((w2.setCell ⟨w1.heap.size, 1, none⟩ (.slice (some ⟨b3, o3 + 1, none⟩) 7 (qu - 1))).setCell ⟨w.heap.size, 0, none⟩ (.int .i64 s.1)).setCell ⟨w.heap.size, 1, none⟩ (.slice (some ⟨b3, o3 + 1, none⟩) 7 (qu - 1))).setCell ⟨w.heap.size, 2, none⟩ (.int .i64 s.2.2.1)).setCell ⟨w.heap.size, 3, none⟩ (.slice pv s.2.2.2.length qv)) pv qv s.2.2.2) := Rd.own (((((hk.other hgs (fun k hk2 e => by have := hlv.out k hk2; simp at e; omega)).set (a := ⟨w.heap.size, 0, none⟩) (Nat.lt_succ_self _) _).set (a := ⟨w.heap.size, 1, none⟩) (Nat.lt_succ_self _) _).set (a := ⟨w.heap.size, 2, none⟩) (Nat.lt_succ_self _) _).set (a := ⟨w.heap.size, 3, none⟩) (Nat.lt_succ_self _) _)
      clear hgs hg ho hk A1 A0
      go_wp2_with fail
      exact bodyPost_ret (v := .agg #[.int .i64 s.1, .slice (some ⟨b3, o3 + 1, none⟩) 7 (qu - 1), .int .i64 s.2.2.1, .slice pv s.2.2.2.length qv]) (by simp [results, Tryz.results35, go_sem, d0, d1, d2, d3]) rfl ⟨some ⟨b3, o3 + 1, none⟩, pv, qu - 1, qv, (s.1, s.2.1.drop 1, s.2.2.1, s.2.2.2), t + 10 + 1, (by show _ = Ending.returned (.agg #[_, .slice _ (s.2.1.drop 1).length _, _, _]); rw [HD.out]), (show (s.2.1.drop 1).length ≤ 8 by have := HD.out; omega), (show s.2.2.2.length ≤ 32 from H32.out), RE.out, RV.out, (fun y hy => by cases hy; show w.heap.size ≤ b3; have := hb3.out; omega), HLocV.out, by omega, by omega, hE.1, hE.2⟩
    · have e1 : (r == 1) = false := by simp [h1]
      by_cases h2 : r = 2
      · subst h2
        go_wp2_with fail
        refine (l1Pick_c b p q cs (t + 10 + 1) w2.heap.size [0, 3, 10] 3 _ (hs2.keep (alloc_below _ _)) (by omega) (by omega) rfl (by decide) (by decide) (by have := hs2.lt; omega) (new_ints _ _ _ [0, 3, 10] rfl)).mono ?_
        rintro e w3 ⟨k3, -, rfl, hs3, hg3⟩
        replace A1 := (A1.stay (alloc_below _ _)).other hg3 (fun e => by have := hb1.out; simp at e; omega)
        replace A0 := (A0.stay (alloc_below _ _)).other hg3 (fun e => by have := hb0.out; simp at e; omega)
        replace ho := (ho.stay (alloc_below _ _)).other hg3 (fun k hk2 e => by have := ho.ge k hk2; have := hb0.out; simp at e; omega)
        replace hk := (hk.stay (alloc_below _ _)).other hg3 (fun k hk2 e => by have := hk.ge k hk2; have := hb0.out; simp at e; omega)
        replace hg := grownBy_trans hg (grownBy_trans (World.grownBy_alloc _ _ _) hg3)
        have hgs := grownBy_set w3 w1.heap.size 2 (.int .i64 k3)
        have hE := bent_end4 (hs3.other hgs (fun k hk => by simp at hk; have := hb1.out; omega)) hb0.out (grownBy_setNew hg (Nat.le_of_lt hw1.out)) (.int .i64 s.1) (.slice pu s.2.1.length qu) (.int .i64 k3) (.slice pv s.2.2.2.length qv)
        have RE : Hid (Rd (((((w3.setCell ⟨w1.heap.size, 2, none⟩ (.int .i64 k3)).setCell ⟨w.heap.size, 0, none⟩ (.int .i64 s.1)).setCell ⟨w.heap.size, 1, none⟩ (.slice pu s.2.1.length qu)).setCell ⟨w.heap.size, 2, none⟩ (.int .i64 k3)).setCell ⟨w.heap.size, 3, none⟩ (.slice pv s.2.2.2.length qv)) pu qu s.2.1) := Rd.own (((((ho.other hgs (fun k hk2 e => by have := hlo.out k hk2; simp at e; omega)).set (a := ⟨w.heap.size, 0, none⟩) (Nat.lt_succ_self _) _).set (a := ⟨w.heap.size, 1, none⟩) (Nat.lt_succ_self _) _).set (a := ⟨w.heap.size, 2, none⟩) (Nat.lt_succ_self _) _).set (a := ⟨w.heap.size, 3, none⟩) (Nat.lt_succ_self _) _)
        have RV : Hid (Rd (((((w3.setCell ⟨w1.heap.size, 2, none⟩ (.int .i64 k3)).setCell ⟨w.heap.size, 0, none⟩ (.int .i64 s.1)).setCell ⟨w.heap.size, 1, none⟩ (.slice pu s.2.1.length qu)).setCell ⟨w.heap.size, 2, none⟩ (.int .i64 k3)).setCell ⟨w.heap.size, 3, none⟩ (.slice pv s.2.2.2.length qv)) pv qv s.2.2.2) := Rd.own (((((hk.other hgs (fun k hk2 e => by have := hlv.out k hk2; simp at e; omega)).set (a := ⟨w.heap.size, 0, none⟩) (Nat.lt_succ_self _) _).set (a := ⟨w.heap.size, 1, none⟩) (Nat.lt_succ_self _) _).set (a := ⟨w.heap.size, 2, none⟩) (Nat.lt_succ_self _) _).set (a := ⟨w.heap.size, 3, none⟩) (Nat.lt_succ_self _) _)
        have c0 := (A1.cell 0).trans (show _ = some _ from rfl)
        have c1 := (A1.cell 1).trans (show _ = some _ from rfl)
        have c2 := (A1.cell 2).trans (show _ = some _ from rfl)
        have c3 := (A1.cell 3).trans (show _ = some _ from rfl)
        have d0 := (A0.cell 0).trans (show _ = some _ from rfl)
        have d1 := (A0.cell 1).trans (show _ = some _ from rfl)
        have d2 := (A0.cell 2).trans (show _ = some _ from rfl)
        have d3 := (A0.cell 3).trans (show _ = some _ from rfl)
        have fz := A1.frozen
        have fy := A0.frozen
        clear hgs hg hs3 ho hk hg3 hs2 A1 A0
        go_wp2_with fail
        exact bodyPost_ret (v := .agg #[.int .i64 s.1, .slice pu s.2.1.length qu, .int .i64 k3, .slice pv s.2.2.2.length qv]) (by simp [results, Tryz.results35, go_sem, d0, d1, d2, d3]) rfl ⟨pu, pv, qu, qv, (s.1, s.2.1, k3, s.2.2.2), t + 10 + 1 + 1, rfl, (show s.2.1.length ≤ 8 by have := H8.out; omega), (show s.2.2.2.length ≤ 32 from H32.out), RE.out, RV.out, HLoc.out, HLocV.out, by omega, by omega, hE.1, hE.2⟩
      · have e2 : (r == 2) = false := by simp [h2]
        have hE := bent_end4 hs2 hb0.out hg (.int .i64 s.1) (.slice pu s.2.1.length qu) (.int .i64 s.2.2.1) (.slice pv s.2.2.2.length qv)
        have RE : Hid (Rd (((((w2).setCell ⟨w.heap.size, 0, none⟩ (.int .i64 s.1)).setCell ⟨w.heap.size, 1, none⟩ (.slice pu s.2.1.length qu)).setCell ⟨w.heap.size, 2, none⟩ (.int .i64 s.2.2.1)).setCell ⟨w.heap.size, 3, none⟩ (.slice pv s.2.2.2.length qv)) pu qu s.2.1) := Rd.own ((((ho.set (a := ⟨w.heap.size, 0, none⟩) (Nat.lt_succ_self _) _).set (a := ⟨w.heap.size, 1, none⟩) (Nat.lt_succ_self _) _).set (a := ⟨w.heap.size, 2, none⟩) (Nat.lt_succ_self _) _).set (a := ⟨w.heap.size, 3, none⟩) (Nat.lt_succ_self _) _)
        have RV : Hid (Rd (((((w2).setCell ⟨w.heap.size, 0, none⟩ (.int .i64 s.1)).setCell ⟨w.heap.size, 1, none⟩ (.slice pu s.2.1.length qu)).setCell ⟨w.heap.size, 2, none⟩ (.int .i64 s.2.2.1)).setCell ⟨w.heap.size, 3, none⟩ (.slice pv s.2.2.2.length qv)) pv qv s.2.2.2) := Rd.own ((((hk.set (a := ⟨w.heap.size, 0, none⟩) (Nat.lt_succ_self _) _).set (a := ⟨w.heap.size, 1, none⟩) (Nat.lt_succ_self _) _).set (a := ⟨w.heap.size, 2, none⟩) (Nat.lt_succ_self _) _).set (a := ⟨w.heap.size, 3, none⟩) (Nat.lt_succ_self _) _)
        have c0 := (A1.cell 0).trans (show _ = some _ from rfl)
        have c1 := (A1.cell 1).trans (show _ = some _ from rfl)
        have c2 := (A1.cell 2).trans (show _ = some _ from rfl)
        have c3 := (A1.cell 3).trans (show _ = some _ from rfl)
        have d0 := (A0.cell 0).trans (show _ = some _ from rfl)
        have d1 := (A0.cell 1).trans (show _ = some _ from rfl)
        have d2 := (A0.cell 2).trans (show _ = some _ from rfl)
        have d3 := (A0.cell 3).trans (show _ = some _ from rfl)
        have fz := A1.frozen
        have fy := A0.frozen
        clear hg ho hk hs2 A1 A0
        go_wp2_with fail
        exact bodyPost_ret (v := .agg #[.int .i64 s.1, .slice pu s.2.1.length qu, .int .i64 s.2.2.1, .slice pv s.2.2.2.length qv]) (by simp [results, Tryz.results35, go_sem, d0, d1, d2, d3]) rfl ⟨pu, pv, qu, qv, s, t + 10 + 1, rfl, (show s.2.1.length ≤ 8 by have := H8.out; omega), (show s.2.2.2.length ≤ 32 from H32.out), RE.out, RV.out, HLoc.out, HLocV.out, by omega, by omega, hE.1, hE.2⟩
set_option maxRecDepth 4000 in
set_option maxHeartbeats 2000000 in
theorem drawPA_c (p : Option Addr) (q : Nat) (cs : List UInt8) (w : World) (hr : Rd w p q cs) :
    Calls Tryz.prog 7 #[.slice p cs.length q] w fun e w' => ∃ (pu pv : Option Addr) (qu qv : Nat) (x : SideD) (ps pt : Option Addr) (qs qt : Nat) (y : SideD), e = .returned (.tuple #[.agg #[.int .i64 x.1, .slice pu x.2.1.length qu, .int .i64 x.2.2.1, .slice pv x.2.2.2.length qv], .agg #[.int .i64 y.1, .slice ps y.2.1.length qs, .int .i64 y.2.2.1, .slice pt y.2.2.2.length qt]]) ∧ x.2.1.length ≤ 8 ∧ x.2.2.2.length ≤ 32 ∧ y.2.1.length ≤ 8 ∧ y.2.2.2.length ≤ 32 ∧ Rd w' pu qu x.2.1 ∧ Rd w' pv qv x.2.2.2 ∧ Rd w' ps qs y.2.1 ∧ Rd w' pt qt y.2.2.2 ∧ Below w.heap.size w w' := by
  have A0 := (Arr.new w [.int .i64 0, .slice none 0 0, .int .i64 0, .slice none 0 0] 25).old _ (.cells #[.int .i64 0, .slice none 0 0, .int .i64 0, .slice none 0 0] 25)
  have A1 := Arr.new (w.alloc (.cells #[.int .i64 0, .slice none 0 0, .int .i64 0, .slice none 0 0] 25)) [.int .i64 0, .slice none 0 0, .int .i64 0, .slice none 0 0] 25
  rw [size_alloc] at A1
  have B0 := Below.mk (alloc_below w (.cells #[.int .i64 0, .slice none 0 0, .int .i64 0, .slice none 0 0] 25)) (.cells #[.int .i64 0, .slice none 0 0, .int .i64 0, .slice none 0 0] 25)
  replace hr := hr.keep B0
  generalize hW : (w.alloc (.cells #[.int .i64 0, .slice none 0 0, .int .i64 0, .slice none 0 0] 25)).alloc (.cells #[.int .i64 0, .slice none 0 0, .int .i64 0, .slice none 0 0] 25) = W at *
  have HW0 : Hid (W.heap.size = w.heap.size + 2) := by show _ = _; rw [← hW, size_alloc, size_alloc]
  go_enter Tryz.func7, Tryz.ntmps7
  go_wp2_with fail
  clear hW
  refine (l1Source_c p q cs W hr).mono ?_
  rintro e w0 ⟨rfl, hs0, BW, hz0⟩
  have z0 : Hid (W.heap.size < w0.heap.size) := hz0
  replace A0 := A0.stay BW
  replace A1 := A1.stay BW
  clear hz0 hr
  go_wp2_with fail
  refine (l11Bent_c _ p q cs 0 w0 hs0 (by omega) (by omega)).mono ?_
  rintro e w1 ⟨pu, pv, qu, qv, x, t1, rfl, x8, x32, ru, rv, lu, lv, k1, k2, hs1, hg1⟩
  replace A0 := A0.other hg1 (fun e => by have := HW0.out; simp at e; omega)
  replace A1 := A1.other hg1 (fun e => by have := HW0.out; simp at e; omega)
  replace BW := below_of_grown BW hg1
  have HU : Hid (∀ z, pu = some z → W.heap.size < z.block) := fun z hz => by have := lu z hz; have := z0.out; omega
  have HV : Hid (∀ z, pv = some z → W.heap.size < z.block) := fun z hz => by have := lv z hz; have := z0.out; omega
  have z1 : Hid (W.heap.size < w1.heap.size) := hs1.lt
  clear hg1 hs0 lu lv
  go_wp2_with fail
  refine (l11Bent_c _ p q cs t1 w1 hs1 (by omega) (by omega)).mono ?_
  rintro e w2 ⟨ps, pt, qs, qt, y, t2, rfl, y8, y32, rs, rt, ls, lt, k3, k4, hs2, hg2⟩
  replace A0 := A0.other hg2 (fun e => by have := HW0.out; simp at e; omega)
  replace A1 := A1.other hg2 (fun e => by have := HW0.out; simp at e; omega)
  replace BW := below_of_grown BW hg2
  replace ru := ru.other hg2 (fun _ z hz e => by have := HU.out z hz; simp at e; omega)
  replace rv := rv.other hg2 (fun _ z hz e => by have := HV.out z hz; simp at e; omega)
  have HS : Hid (∀ z, ps = some z → W.heap.size < z.block) := fun z hz => by have := ls z hz; have := z1.out; omega
  have HT : Hid (∀ z, pt = some z → W.heap.size < z.block) := fun z hz => by have := lt z hz; have := z1.out; omega
  have BWw : Below w.heap.size w w2 := B0.trans (BW.mono (by have := HW0.out; omega))
  have RU : Hid (Rd (((((((((w2.setCell ⟨w.heap.size, 0, none⟩ (.int .i64 x.1)).setCell ⟨w.heap.size, 1, none⟩ (.slice pu x.2.1.length qu)).setCell ⟨w.heap.size, 2, none⟩ (.int .i64 x.2.2.1)).setCell ⟨w.heap.size, 3, none⟩ (.slice pv x.2.2.2.length qv)).setCell ⟨w.heap.size + 1, 0, none⟩ (.int .i64 y.1)).setCell ⟨w.heap.size + 1, 1, none⟩ (.slice ps y.2.1.length qs)).setCell ⟨w.heap.size + 1, 2, none⟩ (.int .i64 y.2.2.1)).setCell ⟨w.heap.size + 1, 3, none⟩ (.slice pt y.2.2.2.length qt))) pu qu x.2.1) := by
    refine (rd_set (rd_set (rd_set (rd_set (rd_set (rd_set (rd_set (rd_set ru (fun z hz => ?_) _) (fun z hz => ?_) _) (fun z hz => ?_) _) (fun z hz => ?_) _) (fun z hz => ?_) _) (fun z hz => ?_) _) (fun z hz => ?_) _) (fun z hz => ?_) _) <;> (have := HU.out z hz; have := HW0.out; first | (show z.block ≠ w.heap.size; omega) | (show z.block ≠ w.heap.size + 1; omega))
  have RV : Hid (Rd (((((((((w2.setCell ⟨w.heap.size, 0, none⟩ (.int .i64 x.1)).setCell ⟨w.heap.size, 1, none⟩ (.slice pu x.2.1.length qu)).setCell ⟨w.heap.size, 2, none⟩ (.int .i64 x.2.2.1)).setCell ⟨w.heap.size, 3, none⟩ (.slice pv x.2.2.2.length qv)).setCell ⟨w.heap.size + 1, 0, none⟩ (.int .i64 y.1)).setCell ⟨w.heap.size + 1, 1, none⟩ (.slice ps y.2.1.length qs)).setCell ⟨w.heap.size + 1, 2, none⟩ (.int .i64 y.2.2.1)).setCell ⟨w.heap.size + 1, 3, none⟩ (.slice pt y.2.2.2.length qt))) pv qv x.2.2.2) := by
    refine (rd_set (rd_set (rd_set (rd_set (rd_set (rd_set (rd_set (rd_set rv (fun z hz => ?_) _) (fun z hz => ?_) _) (fun z hz => ?_) _) (fun z hz => ?_) _) (fun z hz => ?_) _) (fun z hz => ?_) _) (fun z hz => ?_) _) (fun z hz => ?_) _) <;> (have := HV.out z hz; have := HW0.out; first | (show z.block ≠ w.heap.size; omega) | (show z.block ≠ w.heap.size + 1; omega))
  have RS : Hid (Rd (((((((((w2.setCell ⟨w.heap.size, 0, none⟩ (.int .i64 x.1)).setCell ⟨w.heap.size, 1, none⟩ (.slice pu x.2.1.length qu)).setCell ⟨w.heap.size, 2, none⟩ (.int .i64 x.2.2.1)).setCell ⟨w.heap.size, 3, none⟩ (.slice pv x.2.2.2.length qv)).setCell ⟨w.heap.size + 1, 0, none⟩ (.int .i64 y.1)).setCell ⟨w.heap.size + 1, 1, none⟩ (.slice ps y.2.1.length qs)).setCell ⟨w.heap.size + 1, 2, none⟩ (.int .i64 y.2.2.1)).setCell ⟨w.heap.size + 1, 3, none⟩ (.slice pt y.2.2.2.length qt))) ps qs y.2.1) := by
    refine (rd_set (rd_set (rd_set (rd_set (rd_set (rd_set (rd_set (rd_set rs (fun z hz => ?_) _) (fun z hz => ?_) _) (fun z hz => ?_) _) (fun z hz => ?_) _) (fun z hz => ?_) _) (fun z hz => ?_) _) (fun z hz => ?_) _) (fun z hz => ?_) _) <;> (have := HS.out z hz; have := HW0.out; first | (show z.block ≠ w.heap.size; omega) | (show z.block ≠ w.heap.size + 1; omega))
  have RT : Hid (Rd (((((((((w2.setCell ⟨w.heap.size, 0, none⟩ (.int .i64 x.1)).setCell ⟨w.heap.size, 1, none⟩ (.slice pu x.2.1.length qu)).setCell ⟨w.heap.size, 2, none⟩ (.int .i64 x.2.2.1)).setCell ⟨w.heap.size, 3, none⟩ (.slice pv x.2.2.2.length qv)).setCell ⟨w.heap.size + 1, 0, none⟩ (.int .i64 y.1)).setCell ⟨w.heap.size + 1, 1, none⟩ (.slice ps y.2.1.length qs)).setCell ⟨w.heap.size + 1, 2, none⟩ (.int .i64 y.2.2.1)).setCell ⟨w.heap.size + 1, 3, none⟩ (.slice pt y.2.2.2.length qt))) pt qt y.2.2.2) := by
    refine (rd_set (rd_set (rd_set (rd_set (rd_set (rd_set (rd_set (rd_set rt (fun z hz => ?_) _) (fun z hz => ?_) _) (fun z hz => ?_) _) (fun z hz => ?_) _) (fun z hz => ?_) _) (fun z hz => ?_) _) (fun z hz => ?_) _) (fun z hz => ?_) _) <;> (have := HT.out z hz; have := HW0.out; first | (show z.block ≠ w.heap.size; omega) | (show z.block ≠ w.heap.size + 1; omega))
  have BE : Hid (Below w.heap.size w (((((((((w2.setCell ⟨w.heap.size, 0, none⟩ (.int .i64 x.1)).setCell ⟨w.heap.size, 1, none⟩ (.slice pu x.2.1.length qu)).setCell ⟨w.heap.size, 2, none⟩ (.int .i64 x.2.2.1)).setCell ⟨w.heap.size, 3, none⟩ (.slice pv x.2.2.2.length qv)).setCell ⟨w.heap.size + 1, 0, none⟩ (.int .i64 y.1)).setCell ⟨w.heap.size + 1, 1, none⟩ (.slice ps y.2.1.length qs)).setCell ⟨w.heap.size + 1, 2, none⟩ (.int .i64 y.2.2.1)).setCell ⟨w.heap.size + 1, 3, none⟩ (.slice pt y.2.2.2.length qt)))) := ((((((((BWw.setCell (show w.heap.size ≤ w.heap.size by omega) _).setCell (show w.heap.size ≤ w.heap.size by omega) _).setCell (show w.heap.size ≤ w.heap.size by omega) _).setCell (show w.heap.size ≤ w.heap.size by omega) _).setCell (show w.heap.size ≤ w.heap.size + 1 by omega) _).setCell (show w.heap.size ≤ w.heap.size + 1 by omega) _).setCell (show w.heap.size ≤ w.heap.size + 1 by omega) _).setCell (show w.heap.size ≤ w.heap.size + 1 by omega) _)
  have c0 := (A0.cell 0).trans (show _ = some _ from rfl)
  have c1 := (A0.cell 1).trans (show _ = some _ from rfl)
  have c2 := (A0.cell 2).trans (show _ = some _ from rfl)
  have c3 := (A0.cell 3).trans (show _ = some _ from rfl)
  have d0 := (A1.cell 0).trans (show _ = some _ from rfl)
  have d1 := (A1.cell 1).trans (show _ = some _ from rfl)
  have d2 := (A1.cell 2).trans (show _ = some _ from rfl)
  have d3 := (A1.cell 3).trans (show _ = some _ from rfl)
  have fz := A0.frozen
  have fy := A1.frozen
  clear A0 A1 ru rv rs rt hg2 hs1 hs2 BW BWw ls lt
  go_wp2_with fail
  exact bodyPost_ret (v := .tuple #[.agg #[.int .i64 x.1, .slice pu x.2.1.length qu, .int .i64 x.2.2.1, .slice pv x.2.2.2.length qv], .agg #[.int .i64 y.1, .slice ps y.2.1.length qs, .int .i64 y.2.2.1, .slice pt y.2.2.2.length qt]]) (by simp [results, Tryz.results7, go_sem, c0, c1, c2, c3, d0, d1, d2, d3]) rfl ⟨pu, pv, qu, qv, x, ps, pt, qs, qt, y, rfl, x8, x32, y8, y32, RU.out, RV.out, RS.out, RT.out, BE.out⟩
end Go.Proofs.YtiabacnmmojfjaaGreatDoor

/- How pairs of ends own their memory; the parts of an end's answer. No program in it. -/
namespace Go.Proofs.YtiabacnmmojfjaaGreatDoor
open Go.ChangeShapes Go.WideShapes Go.ChangeAt Go.RowKit

/-- The end and what is sent, out of an answer that owns its memory. -/
theorem endR_parts {w : World} {B : Nat} {r : EndResultD} {us : List Value} {v : Value} {fp : List Nat} (h : endResultC.own w B r ([.int .i64 r.1] ++ (us ++ [v])) fp) (hu : us.length = 12) :
    ∃ fe fd, endC.own w B r.2.1 us fe ∧ msgsC.own w B r.2.2 [v] fd ∧ ∀ k, k ∈ fe → k ∈ fp := by
  obtain ⟨us0, ts0, f, g, e1, hf, -, ⟨h1, hf0⟩, us1, ts1, f1, g1, e2, hg, -, hE, hM⟩ := h
  subst h1
  have e3 : us ++ [v] = ts0 := by simpa using e1
  have hl := endC.len (endC.toRep hE)
  have e4 : us ++ [v] = us1 ++ ts1 := e3.trans e2
  obtain ⟨rfl, rfl⟩ := List.append_inj e4 (by rw [hu]; exact hl.symm)
  exact ⟨f1, g1, hE, hM, fun k hk => by rw [hf, hg]; exact List.mem_append_right _ (List.mem_append_left _ hk)⟩
theorem pairR_of {w : World} {B : Nat} {r : PairResultD} {us vs : List Value} {fe fd : List Nat} (ke : endC.own w B r.2.1 us fe) (kd : endC.own w B r.2.2 vs fd) (hd : ∀ k, k ∈ fe → k ∉ fd) :
    pairResultC.own w B r ([.int .i64 r.1] ++ (us ++ vs)) ([] ++ (fe ++ fd)) :=
  own_apartK (a := r) (us := [.int .i64 r.1]) own_int (own_apartK (a := r.2) ke kd hd) (fun _ h => by cases h)
theorem badP_own (w : World) (B : Nat) (c : Int) : pairResultC.own w B (badP c) [.int .i64 c, .int .i64 0, .slice none 0 0, .int .i64 0, .slice none 0 0, .int .i64 0, .int .i64 0, .slice none 0 0, .slice none 0 0, .slice none 0 0, .slice none 0 0, .slice none 0 0, .slice none 0 0, .int .i64 0, .slice none 0 0, .int .i64 0, .slice none 0 0, .int .i64 0, .int .i64 0, .slice none 0 0, .slice none 0 0, .slice none 0 0, .slice none 0 0, .slice none 0 0, .slice none 0 0] [] :=
  pairR_of (r := badP c) (fe := []) (fd := []) (zeroE_own w B) (zeroE_own w B) (fun _ h => by cases h)
/-- The first message of a list that owns its memory. -/
theorem head_at {w : World} {B : Nat} {l : List MsgD} {v : Value} {fp : List Nat} (h : msgsC.own w B l [v] fp) (hl : 0 < l.length) :
    ∃ g o q pm qm, v = .slice (some ⟨g, o, none⟩) l.length q ∧ l.length ≤ q ∧ q ≤ 2 ^ 63 - 1 ∧ w.cell? ⟨g, o, none⟩ = some (.int .i64 (headM l).1) ∧ w.cell? ⟨g, o + 1, none⟩ = some (.slice pm (headM l).2.length qm) ∧ Rd w pm qm (headM l).2 := by
  obtain ⟨p, q, e, r⟩ := msgsC.toRep h
  cases e
  obtain ⟨g, o, rfl, hc⟩ := r.2.2.2 hl
  have h0 : l[0]? = some (headM l) := by
    cases l with
    | nil => simp at hl
    | cons a l => rfl
  obtain ⟨us, hr, hu⟩ := hc 0 _ h0
  obtain ⟨pm, qm, rfl, rm⟩ := msg_rep hr
  have c0 := hu 0 _ rfl
  have c1 := hu 1 _ rfl
  rw [Nat.zero_mul, Nat.add_zero] at c0 c1
  exact ⟨g, o, q, pm, qm, rfl, r.1, r.2.1, c0, c1, rm⟩
/-- What is sent where no code is told. -/
theorem stE_send {x : SideD} (h : (stE x).1 = 0) : (stE x).2.2.length = 1 := by
  rw [stE_code] at h
  rw [stE_ok h]
  rfl
theorem hvE_send {e : EndD} {l : List MsgD} (h : (hvE e l).1 = 0) : (hvE e l).2.2.length = 1 := by
  obtain ⟨a, b, c, -, -, -, -, -, h5⟩ := hvE_zero h
  rw [h5]
  rfl
/-- What can be read by the cells of an end. -/
theorem end_unmk {w : World} {e : EndD} {p1 : Option Addr} {q1 : Nat} {p2 : Option Addr} {q2 : Nat} {p3 : Option Addr} {q3 : Nat} {p4 : Option Addr} {q4 : Nat} {p5 : Option Addr} {q5 : Nat} {p6 : Option Addr} {q6 : Nat} {p7 : Option Addr} {q7 : Nat} {p8 : Option Addr} {q8 : Nat} (h : endC.rep w e [.int .i64 e.1.1, .slice p1 e.1.2.1.length q1, .int .i64 e.1.2.2.1, .slice p2 e.1.2.2.2.length q2, .int .i64 e.2.1, .int .i64 e.2.2.1, .slice p3 e.2.2.2.1.length q3, .slice p4 e.2.2.2.2.1.length q4, .slice p5 e.2.2.2.2.2.1.length q5, .slice p6 e.2.2.2.2.2.2.1.length q6, .slice p7 e.2.2.2.2.2.2.2.1.length q7, .slice p8 e.2.2.2.2.2.2.2.2.length q8]) : Rd w p1 q1 e.1.2.1 ∧ Rd w p2 q2 e.1.2.2.2 ∧ RdL msgC w p3 q3 e.2.2.2.1 ∧ Rd w p4 q4 e.2.2.2.2.1 ∧ Rd w p5 q5 e.2.2.2.2.2.1 ∧ Rd w p6 q6 e.2.2.2.2.2.2.1 ∧ Rd w p7 q7 e.2.2.2.2.2.2.2.1 ∧ Rd w p8 q8 e.2.2.2.2.2.2.2.2 := by
  obtain ⟨a1, b1, a2, b2, a3, b3, a4, b4, a5, b5, a6, b6, a7, b7, a8, b8, eq, r1, r2, r3, r4, r5, r6, r7, r8⟩ := end_rep h
  simp only [List.cons.injEq, Value.slice.injEq, true_and, and_true] at eq
  obtain ⟨⟨rfl, rfl⟩, ⟨rfl, rfl⟩, ⟨rfl, rfl⟩, ⟨rfl, rfl⟩, ⟨rfl, rfl⟩, ⟨rfl, rfl⟩, ⟨rfl, rfl⟩, rfl, rfl⟩ := eq
  exact ⟨r1, r2, r3, r4, r5, r6, r7, r8⟩
theorem pairR_reps {w : World} {r : PairResultD} {us vs : List Value} (h : pairResultC.rep w r ([.int .i64 r.1] ++ (us ++ vs))) (hu : us.length = 12) : endC.rep w r.2.1 us ∧ endC.rep w r.2.2 vs := by
  obtain ⟨us0, ts0, e1, h1, us1, ts1, e2, hE, hF⟩ := h
  have h1' : us0 = [.int .i64 r.1] := h1
  subst h1'
  have e3 : us ++ vs = ts0 := by simpa using e1
  have hl := endC.len hE
  obtain ⟨rfl, rfl⟩ := List.append_inj (e3.trans e2) (by rw [hu]; exact hl.symm)
  exact ⟨hE, hF⟩
end Go.Proofs.YtiabacnmmojfjaaGreatDoor

