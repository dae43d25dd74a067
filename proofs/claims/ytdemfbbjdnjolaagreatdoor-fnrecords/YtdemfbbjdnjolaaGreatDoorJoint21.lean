/- The contracts of chapter 9's functions in the program, gathered. -/
import Derived.Test.YtdemfbbjdnjolaaGreatDoorRecF
import Derived.Test.YtdemfbbjdnjolaaGreatDoorJoint18
import Derived.Test.YtdemfbbjdnjolaaGreatDoorRecSe
import Derived.Test.YtdemfbbjdnjolaaGreatDoorRecHe
import Derived.Test.YtdemfbbjdnjolaaGreatDoorRecU
import Derived.Test.YtdemfbbjdnjolaaGreatDoorRecD
import Derived.Test.YtdemfbbjdnjolaaGreatDoorJoint13
import Derived.Test.YtdemfbbjdnjolaaGreatDoorJoint5
import Derived.Test.YtdemfbbjdnjolaaGreatDoorJoint4
import Derived.Test.YtdemfbbjdnjolaaGreatDoorArr
import Derived.Test.YtdemfbbjdnjolaaGreatDoorStreamC


/- The contract of the draws of chapter 2: spec.l2Draw, spec.DrawDigestOf: some bytes, at most 601. -/
namespace Go.Proofs.YtdemfbbjdnjolaaGreatDoor
open Go.ChangeShapes Go.WideShapes Go.ChangeAt Go.RowKit


end Go.Proofs.YtdemfbbjdnjolaaGreatDoor

/- The contract of the laws' own draw of a number (lwAt): it is below the bound. -/
namespace Go.Proofs.YtdemfbbjdnjolaaGreatDoor
open Go.ChangeShapes Go.WideShapes Go.ChangeAt Go.RowKit

theorem emod_nat (v : Int) (n : Nat) (h : 0 < n) : ∃ m : Nat, v % (n : Int) = (m : Int) ∧ m < n := by
  have h1 := Int.emod_nonneg v (show (n : Int) ≠ 0 by omega)
  have h2 := Int.emod_lt_of_pos v (show (0 : Int) < (n : Int) by omega)
  exact ⟨(v % (n : Int)).toNat, by omega, by omega⟩

end Go.Proofs.YtdemfbbjdnjolaaGreatDoor

/- The contracts of the draws of chapter 3: keys, data, labels, contexts, numbers: within bounds, no more. -/
namespace Go.Proofs.YtdemfbbjdnjolaaGreatDoor
open Go.ChangeShapes Go.WideShapes Go.ChangeAt Go.RowKit



/-- A row that was drawn ahead of other draws. -/
theorem Own.draw {w w' : World} {B b : Nat} {v : Value} {bs : List UInt8} (h : Own w B v bs) (hg : w.grownBy w' (some b)) (hb : b < B) : Own w' B v bs :=
  h.other hg (fun k hk e => by have := h.ge k hk; simp at e; omega)




def labs : List (List UInt8) := [[100, 101, 114, 105, 118, 101, 100], [99, 32, 104, 115, 32, 116, 114, 97, 102, 102, 105, 99], [102, 105, 110, 105, 115, 104, 101, 100], [97], [], [120, 10], [97, 98, 99, 100, 101, 102, 103, 104, 105, 106, 107, 108, 109, 110, 111, 112, 113, 114, 115, 116, 117, 118, 119, 120, 121, 122, 97, 98, 99, 100, 101, 102, 103, 104, 105, 106, 107, 108, 109, 110, 111]]
def labsV : List Value := labs.map (fun l => .string (strB l))
theorem labsV_at {k : Nat} (h : k < 7) : ∃ l : List UInt8, labsV[k]? = some (.string (strB l)) ∧ l.length ≤ 41 := by
  have hl : k < labs.length := h
  refine ⟨labs[k], by simp [labsV, hl], ?_⟩
  have : ∀ x ∈ labs, x.length ≤ 41 := by unfold labs; decide
  exact this _ (List.getElem_mem hl)




end Go.Proofs.YtdemfbbjdnjolaaGreatDoor

/- The draws of chapter 9: streams, and what is sent: within bounds, no more (written by tools/draw_rec.py). -/
namespace Go.Proofs.YtdemfbbjdnjolaaGreatDoor
open Go.ChangeShapes Go.WideShapes Go.ChangeAt Go.RowKit

theorem draw_set {w v : World} {b q qs : Nat} {p ps : Option Addr} {cs bs : List UInt8} {t : Int} (h : Rd v ps qs bs ∧ Src v b p q cs t ∧ w.grownBy v (some b)) (n i : Nat) (u : Value) (hn : w.heap.size ≤ n) (hb : b < n) (hp : ∀ y, ps = some y → y.block ≠ n) :
    Rd (v.setCell ⟨n, i, none⟩ u) ps qs bs ∧ Src (v.setCell ⟨n, i, none⟩ u) b p q cs t ∧ w.grownBy (v.setCell ⟨n, i, none⟩ u) (some b) :=
  ⟨h.1.set (fun _ y hy => hp y hy) u, h.2.1.other (grownBy_set v n i u) (fun k hk => by simp at hk; omega), ⟨h.2.2.os, h.2.2.tape, h.2.2.output, by simpa using h.2.2.size, fun k hk hr => (heap_setCell_other v _ k u (by simp; omega)).trans (h.2.2.block k hk hr)⟩⟩

set_option maxRecDepth 4000 in
set_option maxHeartbeats 2000000 in
theorem l9Draw_c (b : Nat) (p : Option Addr) (q : Nat) (cs : List UInt8) (t : Int) (w : World) (hs : Src w b p q cs t) (ht : 0 ≤ t) (ht2 : t ≤ 800000000) :
    Calls Tryz.prog 26 #[.pointer (some ⟨b, 0, none⟩)] w fun e w' => ∃ (ps : Option Addr) (qs : Nat) (x : StreamD) (t' : Int), e = .returned (.agg #[.slice ps x.1.length qs, .int .i64 x.2.1, .int .i64 x.2.2]) ∧ x.1.length ≤ 32 ∧ Rd w' ps qs x.1 ∧ (∀ y, ps = some y → w.heap.size ≤ y.block) ∧ t ≤ t' ∧ t' ≤ t + 40 ∧ Src w' b p q cs t' ∧ w.grownBy w' (some b) := by
  have hb0 : Hid (b < w.heap.size) := hs.lt
  have A0 := Arr.new w [.slice none 0 0, .int .i64 0, .int .i64 0] 25
  have HG := World.grownBy_alloc w (.cells #[.slice none 0 0, .int .i64 0, .int .i64 0] 25) (some b)
  replace hs := hs.keep (alloc_below w (.cells #[.slice none 0 0, .int .i64 0, .int .i64 0] 25))
  have hbA : Hid (b < w.heap.size + 1) := Nat.lt_succ_of_lt hb0.out
  go_enter Tryz.func26, Tryz.ntmps26
  go_wp2_with fail
  refine (l1Some_c b p q cs (t) 32 _ hs (by omega) (by omega) (by omega) (by omega)).mono ?_
  rintro e w1 ⟨u1, bs, rfl, hbl, ho, hs1, hgx⟩
  replace A0 := A0.other hgx (fun e => by have := hb0.out; simp at e; omega)
  replace HG := grownBy_trans HG (hgx)
  clear hgx hs
  rw [size_alloc] at ho
  obtain ⟨pu, qu, rfl, -⟩ := ho.rd
  have HBL : Hid (bs.length = 32) := hbl
  clear hbl
  have hq1 : bs.length ≤ qu := (Rd.own ho).1
  have hq2 : qu ≤ 2 ^ 63 - 1 := (Rd.own ho).2.1
  go_wp2_with fail
  refine (l1Next_c b p q cs (t + 32) 9 _ hs1 (by omega) (by omega) (by omega) (by omega)).mono ?_
  rintro e w2 ⟨r, rfl, r0, r1, hs2, hgx⟩
  replace A0 := A0.other hgx (fun e => by have := hb0.out; simp at e; omega)
  replace ho := ho.draw hgx hbA.out
  replace HG := grownBy_trans HG (hgx)
  clear hgx hs1
  go_wp2_with fail
  refine (l1Pick_c b p q cs (t + 32 + 1) w2.heap.size [r, 0, 199] 3 _ (hs2.keep (alloc_below _ _)) (by omega) (by omega) rfl (by decide) (by decide) (by have := hs2.lt; omega) (new_ints _ _ _ [r, 0, 199] rfl)).mono ?_
  rintro e w3 ⟨sq, hsq, rfl, hs3, hgx⟩
  replace A0 := (A0.stay (alloc_below _ _)).other hgx (fun e => by have := hb0.out; simp at e; omega)
  replace ho := (ho.stay (alloc_below _ _)).draw hgx hbA.out
  replace HG := grownBy_trans HG (grownBy_trans (World.grownBy_alloc _ _ _) hgx)
  clear hgx hs2
  go_wp2_with fail
  refine (l1Next_c b p q cs (t + 32 + 1 + 1) 4 _ hs3 (by omega) (by omega) (by omega) (by omega)).mono ?_
  rintro e w4 ⟨ep, rfl, ep0, ep1, hs4, hgx⟩
  replace A0 := A0.other hgx (fun e => by have := hb0.out; simp at e; omega)
  replace ho := ho.draw hgx hbA.out
  replace HG := grownBy_trans HG (hgx)
  clear hgx hs3
  have hl4 : Hid (∀ k, (Value.slice pu bs.length qu).ownBlock = some k → k < w4.heap.size) := ho.lt
  have hb4 : Hid (b < w4.heap.size) := hs4.lt
  have hw4 : Hid (w.heap.size < w4.heap.size) := A0.lt
  have A1 := Arr.new w4 [.slice pu bs.length qu, .int .i64 sq, .int .i64 ep] 25
  go_wp2_with fail
  refine (l1Next_c b p q cs (t + 32 + 1 + 1 + 1) 14 _ (hs4.keep (alloc_below _ _)) (by omega) (by omega) (by omega) (by omega)).mono ?_
  rintro e w5 ⟨z, rfl, z0, z1, hs5, hgx⟩
  replace A1 := A1.other hgx (fun e => by have := hb4.out; simp at e; omega)
  replace A0 := (A0.stay (alloc_below _ _)).other hgx (fun e => by have := hb0.out; simp at e; omega)
  replace ho := (ho.stay (alloc_below _ _)).draw hgx hbA.out
  replace HG := grownBy_trans HG (grownBy_trans (World.grownBy_alloc _ _ _) hgx)
  clear hgx hs4
  have hnw : w.heap.size ≠ w4.heap.size := by have := hw4.out; omega
  have hnw2 : w4.heap.size ≠ w.heap.size := by have := hw4.out; omega
  have hlo : Hid (∀ k, (Value.slice pu bs.length qu).ownBlock = some k → w.heap.size + 1 ≤ k) := ho.ge
  have c0 := (A1.cell 0).trans (show _ = some _ from rfl)
  have c1 := (A1.cell 1).trans (show _ = some _ from rfl)
  have c2 := (A1.cell 2).trans (show _ = some _ from rfl)
  have fc := A1.frozen
  have d0 := (A0.cell 0).trans (show _ = some _ from rfl)
  have d1 := (A0.cell 1).trans (show _ = some _ from rfl)
  have d2 := (A0.cell 2).trans (show _ = some _ from rfl)
  have fd := A0.frozen
  by_cases h0 : z = 0
  · subst h0
    have hrd := Rd.own ho
    obtain ⟨bb, bo, e1, -⟩ := hrd.2.2.2 (by have := HBL.out; omega)
    subst e1
    have h31 : 32 ≤ bs.length := by have := HBL.out; omega
    have hcut : Hid (Rd w5 (some ⟨bb, bo + 1, none⟩) (qu - 1) (bs.drop 1)) := by
      have h := hrd.cut 1 (bs.length - 1) (qu - 1) (by omega) (by omega) (by unfold maxLen; omega)
      rw [List.take_of_length_le (by rw [List.length_drop]; omega)] at h
      exact h
    have hbb : Hid (w.heap.size + 1 ≤ bb) := hlo.out bb rfl
    have hbl4 : Hid (bb < w4.heap.size) := hl4.out bb rfl
    have HDl : Hid ((bs.drop 1).length = bs.length - 1) := List.length_drop
    clear hrd
    go_wp2_with fail
    refine bodyPost_ret (v := .agg #[.slice (some ⟨bb, bo + 1, none⟩) (bs.length - 1) (qu - 1), .int .i64 sq, .int .i64 ep]) (by simp [results, Tryz.results26, go_sem, d0, d1, d2]) rfl ?_
    have HF := (draw_set (draw_set (draw_set (draw_set (⟨hcut.out, hs5, HG⟩ : _ ∧ _ ∧ _) w4.heap.size 0 (.slice (some ⟨bb, bo + 1, none⟩) (bs.length - 1) (qu - 1)) (Nat.le_of_lt hw4.out) hb4.out (fun y hy => by simp at hy; subst hy; have := hbb.out; have := hbl4.out; have := hw4.out; have := hb4.out; simp; omega)) w.heap.size 0 (.slice (some ⟨bb, bo + 1, none⟩) (bs.length - 1) (qu - 1)) (Nat.le_refl _) hb0.out (fun y hy => by simp at hy; subst hy; have := hbb.out; have := hbl4.out; have := hw4.out; have := hb4.out; simp; omega)) w.heap.size 1 (.int .i64 sq) (Nat.le_refl _) hb0.out (fun y hy => by simp at hy; subst hy; have := hbb.out; have := hbl4.out; have := hw4.out; have := hb4.out; simp; omega)) w.heap.size 2 (.int .i64 ep) (Nat.le_refl _) hb0.out (fun y hy => by simp at hy; subst hy; have := hbb.out; have := hbl4.out; have := hw4.out; have := hb4.out; simp; omega))
    exact ⟨some ⟨bb, bo + 1, none⟩, qu - 1, (bs.drop 1, sq, ep), _, by rw [HDl.out], by rw [HDl.out]; have := HBL.out; omega, HF.1, fun y hy => by simp at hy; subst hy; have := hbb.out; have := hbl4.out; have := hw4.out; have := hb4.out; simp; omega, by omega, by omega, HF.2.1, HF.2.2⟩
  · by_cases h1 : z = 1
    · subst h1
      go_wp2_with fail
      refine (l1Pick_c b p q cs (t + 32 + 1 + 1 + 1 + 1) w5.heap.size [200, 201, -1] 3 _ (hs5.keep (alloc_below _ _)) (by omega) (by omega) rfl (by decide) (by decide) (by have := hs5.lt; omega) (new_ints _ _ _ [200, 201, -1] rfl)).mono ?_
      rintro e w6 ⟨k, -, rfl, hs6, hgx⟩
      replace A1 := (A1.stay (alloc_below _ _)).other hgx (fun e => by have := hb4.out; simp at e; omega)
      replace A0 := (A0.stay (alloc_below _ _)).other hgx (fun e => by have := hb0.out; simp at e; omega)
      replace ho := (ho.stay (alloc_below _ _)).draw hgx hbA.out
      replace HG := grownBy_trans HG (grownBy_trans (World.grownBy_alloc _ _ _) hgx)
      clear hgx
      have c0 := (A1.cell 0).trans (show _ = some _ from rfl)
      have c1 := (A1.cell 1).trans (show _ = some _ from rfl)
      have c2 := (A1.cell 2).trans (show _ = some _ from rfl)
      have fc := A1.frozen
      have d0 := (A0.cell 0).trans (show _ = some _ from rfl)
      have d1 := (A0.cell 1).trans (show _ = some _ from rfl)
      have d2 := (A0.cell 2).trans (show _ = some _ from rfl)
      have fd := A0.frozen
      go_wp2_with fail
      refine bodyPost_ret (v := .agg #[.slice pu bs.length qu, .int .i64 k, .int .i64 ep]) (by simp [results, Tryz.results26, go_sem, d0, d1, d2]) rfl ?_
      have HF := (draw_set (draw_set (draw_set (draw_set (⟨Rd.own ho, hs6, HG⟩ : _ ∧ _ ∧ _) w4.heap.size 1 (.int .i64 k) (Nat.le_of_lt hw4.out) hb4.out (fun y hy => by have := hlo.out y.block (by rw [hy]; rfl); have := hl4.out y.block (by rw [hy]; rfl); have := hw4.out; have := hb4.out; (try simp); omega)) w.heap.size 0 (.slice pu bs.length qu) (Nat.le_refl _) hb0.out (fun y hy => by have := hlo.out y.block (by rw [hy]; rfl); have := hl4.out y.block (by rw [hy]; rfl); have := hw4.out; have := hb4.out; (try simp); omega)) w.heap.size 1 (.int .i64 k) (Nat.le_refl _) hb0.out (fun y hy => by have := hlo.out y.block (by rw [hy]; rfl); have := hl4.out y.block (by rw [hy]; rfl); have := hw4.out; have := hb4.out; (try simp); omega)) w.heap.size 2 (.int .i64 ep) (Nat.le_refl _) hb0.out (fun y hy => by have := hlo.out y.block (by rw [hy]; rfl); have := hl4.out y.block (by rw [hy]; rfl); have := hw4.out; have := hb4.out; (try simp); omega))
      exact ⟨pu, qu, (bs, k, ep), _, rfl, by show bs.length ≤ 32; have := HBL.out; omega, HF.1, fun y hy => by have := hlo.out y.block (by rw [hy]; rfl); have := hl4.out y.block (by rw [hy]; rfl); have := hw4.out; have := hb4.out; (try simp); omega, by omega, by omega, HF.2.1, HF.2.2⟩
    · by_cases h2 : z = 2
      · subst h2
        go_wp2_with fail
        refine (l1Pick_c b p q cs (t + 32 + 1 + 1 + 1 + 1) w5.heap.size [99, 100, -1] 3 _ (hs5.keep (alloc_below _ _)) (by omega) (by omega) rfl (by decide) (by decide) (by have := hs5.lt; omega) (new_ints _ _ _ [99, 100, -1] rfl)).mono ?_
        rintro e w6 ⟨k, -, rfl, hs6, hgx⟩
        replace A1 := (A1.stay (alloc_below _ _)).other hgx (fun e => by have := hb4.out; simp at e; omega)
        replace A0 := (A0.stay (alloc_below _ _)).other hgx (fun e => by have := hb0.out; simp at e; omega)
        replace ho := (ho.stay (alloc_below _ _)).draw hgx hbA.out
        replace HG := grownBy_trans HG (grownBy_trans (World.grownBy_alloc _ _ _) hgx)
        clear hgx
        have c0 := (A1.cell 0).trans (show _ = some _ from rfl)
        have c1 := (A1.cell 1).trans (show _ = some _ from rfl)
        have c2 := (A1.cell 2).trans (show _ = some _ from rfl)
        have fc := A1.frozen
        have d0 := (A0.cell 0).trans (show _ = some _ from rfl)
        have d1 := (A0.cell 1).trans (show _ = some _ from rfl)
        have d2 := (A0.cell 2).trans (show _ = some _ from rfl)
        have fd := A0.frozen
        go_wp2_with fail
        refine bodyPost_ret (v := .agg #[.slice pu bs.length qu, .int .i64 sq, .int .i64 k]) (by simp [results, Tryz.results26, go_sem, d0, d1, d2]) rfl ?_
        have HF := (draw_set (draw_set (draw_set (draw_set (⟨Rd.own ho, hs6, HG⟩ : _ ∧ _ ∧ _) w4.heap.size 2 (.int .i64 k) (Nat.le_of_lt hw4.out) hb4.out (fun y hy => by have := hlo.out y.block (by rw [hy]; rfl); have := hl4.out y.block (by rw [hy]; rfl); have := hw4.out; have := hb4.out; (try simp); omega)) w.heap.size 0 (.slice pu bs.length qu) (Nat.le_refl _) hb0.out (fun y hy => by have := hlo.out y.block (by rw [hy]; rfl); have := hl4.out y.block (by rw [hy]; rfl); have := hw4.out; have := hb4.out; (try simp); omega)) w.heap.size 1 (.int .i64 sq) (Nat.le_refl _) hb0.out (fun y hy => by have := hlo.out y.block (by rw [hy]; rfl); have := hl4.out y.block (by rw [hy]; rfl); have := hw4.out; have := hb4.out; (try simp); omega)) w.heap.size 2 (.int .i64 k) (Nat.le_refl _) hb0.out (fun y hy => by have := hlo.out y.block (by rw [hy]; rfl); have := hl4.out y.block (by rw [hy]; rfl); have := hw4.out; have := hb4.out; (try simp); omega))
        exact ⟨pu, qu, (bs, sq, k), _, rfl, by show bs.length ≤ 32; have := HBL.out; omega, HF.1, fun y hy => by have := hlo.out y.block (by rw [hy]; rfl); have := hl4.out y.block (by rw [hy]; rfl); have := hw4.out; have := hb4.out; (try simp); omega, by omega, by omega, HF.2.1, HF.2.2⟩
      · have z0I : (z == 0) = false := by rw [beq_eq_false_iff_ne]; exact h0
        have z1I : (z == 1) = false := by rw [beq_eq_false_iff_ne]; exact h1
        have z2I : (z == 2) = false := by rw [beq_eq_false_iff_ne]; exact h2
        go_wp2_with fail
        refine bodyPost_ret (v := .agg #[.slice pu bs.length qu, .int .i64 sq, .int .i64 ep]) (by simp [results, Tryz.results26, go_sem, d0, d1, d2]) rfl ?_
        have HF := (draw_set (draw_set (draw_set (⟨Rd.own ho, hs5, HG⟩ : _ ∧ _ ∧ _) w.heap.size 0 (.slice pu bs.length qu) (Nat.le_refl _) hb0.out (fun y hy => by have := hlo.out y.block (by rw [hy]; rfl); have := hl4.out y.block (by rw [hy]; rfl); have := hw4.out; have := hb4.out; (try simp); omega)) w.heap.size 1 (.int .i64 sq) (Nat.le_refl _) hb0.out (fun y hy => by have := hlo.out y.block (by rw [hy]; rfl); have := hl4.out y.block (by rw [hy]; rfl); have := hw4.out; have := hb4.out; (try simp); omega)) w.heap.size 2 (.int .i64 ep) (Nat.le_refl _) hb0.out (fun y hy => by have := hlo.out y.block (by rw [hy]; rfl); have := hl4.out y.block (by rw [hy]; rfl); have := hw4.out; have := hb4.out; (try simp); omega))
        exact ⟨pu, qu, (bs, sq, ep), _, rfl, by show bs.length ≤ 32; have := HBL.out; omega, HF.1, fun y hy => by have := hlo.out y.block (by rw [hy]; rfl); have := hl4.out y.block (by rw [hy]; rfl); have := hw4.out; have := hb4.out; (try simp); omega, by omega, by omega, HF.2.1, HF.2.2⟩
set_option maxRecDepth 4000 in
set_option maxHeartbeats 2000000 in
theorem drawSend_c (p : Option Addr) (q : Nat) (cs : List UInt8) (w : World) (hr : Rd w p q cs) :
    Calls Tryz.prog 6 #[.slice p cs.length q] w fun e w' => ∃ (ps pp : Option Addr) (qs qp : Nat) (x : StreamD) (kind : Int) (plain : List UInt8) (pad : Int), e = .returned (.tuple #[.agg #[.slice ps x.1.length qs, .int .i64 x.2.1, .int .i64 x.2.2], .int .i64 kind, .slice pp plain.length qp, .int .i64 pad]) ∧ x.1.length ≤ 32 ∧ plain.length ≤ 201 ∧ -1 ≤ pad ∧ pad ≤ 17 ∧ Rd w' ps qs x.1 ∧ Rd w' pp qp plain ∧ Below w.heap.size w w' := by
  have A0 := Arr.new w [.slice none 0 0, .int .i64 0, .int .i64 0] 25
  have B0 := alloc_below w (.cells #[.slice none 0 0, .int .i64 0, .int .i64 0] 25)
  replace hr := hr.keep B0
  generalize hW : w.alloc (.cells #[.slice none 0 0, .int .i64 0, .int .i64 0] 25) = W at *
  have hWs : W.heap.size = w.heap.size + 1 := by rw [← hW, size_alloc]
  have HW0 : Hid (W.heap.size = w.heap.size + 1) := hWs
  clear hWs
  go_enter Tryz.func6, Tryz.ntmps6
  go_wp2_with fail
  clear hW
  refine (l1Source_c p q cs W hr).mono ?_
  rintro e w0 ⟨rfl, hs0, BW, hz0⟩
  have z0 : Hid (W.heap.size < w0.heap.size) := hz0
  clear hz0 hr
  go_wp2_with fail
  refine (l9Draw_c _ p q cs (0) w0 hs0 (by omega) (by omega)).mono ?_
  rintro e w1 ⟨ps, qs, x, t1, rfl, hxl, rx, hloc, ha1, hb1, hs1, hgx⟩
  replace BW := below_of_grown BW hgx
  clear hgx
  clear hs0
  have HLoc : Hid (∀ y, ps = some y → w0.heap.size ≤ y.block) := hloc
  clear hloc
  go_wp2_with fail
  refine (l1Pick_c _ p q cs (t1) w1.heap.size [23, 23, 22, 21, 20, 24] 6 _ (hs1.keep (alloc_below _ _)) (by omega) (by omega) rfl (by decide) (by decide) (by have := hs1.lt; omega) (new_ints _ _ _ [23, 23, 22, 21, 20, 24] rfl)).mono ?_
  rintro e w2 ⟨kind, hkind, rfl, hs2, hgx⟩
  replace rx := (rx.keep (alloc_below _ _)).other hgx (fun _ y hy e => by have := HLoc.out y hy; have := z0.out; simp at e; omega)
  replace BW := below_of_grown (Below.mk BW _) hgx
  clear hgx
  clear hs1
  go_wp2_with fail
  refine (l1Next_c _ p q cs (t1 + 1) 20 _ hs2 (by omega) (by omega) (by omega) (by omega)).mono ?_
  rintro e w3 ⟨r, rfl, r0, r1, hs3, hgx⟩
  replace rx := rx.other hgx (fun _ y hy e => by have := HLoc.out y hy; have := z0.out; simp at e; omega)
  replace BW := below_of_grown BW hgx
  clear hgx
  clear hs2
  go_wp2_with fail
  refine (l1Next_c _ p q cs (t1 + 1 + 1) 60 _ hs3 (by omega) (by omega) (by omega) (by omega)).mono ?_
  rintro e w4 ⟨s, rfl, s0, s1, hs4, hgx⟩
  replace rx := rx.other hgx (fun _ y hy e => by have := HLoc.out y hy; have := z0.out; simp at e; omega)
  replace BW := below_of_grown BW hgx
  clear hgx
  clear hs3
  go_wp2_with fail
  refine (l1Pick_c _ p q cs (t1 + 1 + 1 + 1) w4.heap.size [r, s, 0, 200, 201] 5 _ (hs4.keep (alloc_below _ _)) (by omega) (by omega) rfl (by decide) (by decide) (by have := hs4.lt; omega) (new_ints _ _ _ [r, s, 0, 200, 201] rfl)).mono ?_
  rintro e w5 ⟨m, hm, rfl, hs5, hgx⟩
  replace rx := (rx.keep (alloc_below _ _)).other hgx (fun _ y hy e => by have := HLoc.out y hy; have := z0.out; simp at e; omega)
  replace BW := below_of_grown (Below.mk BW _) hgx
  clear hgx
  clear hs4
  have hR : Hid (0 ≤ m ∧ m ≤ 201) := by
    show _ ∧ _
    simp only [List.mem_cons, List.not_mem_nil, or_false] at hm
    omega
  clear hm
  have zP : Hid (W.heap.size < w5.heap.size) := hs5.lt
  go_wp2_with fail
  refine (l1Some_c _ p q cs (t1 + 1 + 1 + 1 + 1) m _ hs5 (by omega) (by omega) hR.out.1 (by have := hR.out.2; omega)).mono ?_
  rintro e w6 ⟨u, plain, rfl, hpl, op, hs6, hgx⟩
  replace rx := rx.other hgx (fun _ y hy e => by have := HLoc.out y hy; have := z0.out; simp at e; omega)
  replace BW := below_of_grown BW hgx
  clear hgx
  clear hs5
  have hm0 := hR.out.1
  have hm1 := hR.out.2
  obtain ⟨pp, qp, rfl, -⟩ := op.rd
  have HPL : Hid (plain.length = m.toNat) := hpl
  clear hpl
  go_wp2_with fail
  refine (l1Next_c _ p q cs (t1 + 1 + 1 + 1 + 1 + m) 17 _ hs6 (by omega) (by omega) (by omega) (by omega)).mono ?_
  rintro e w7 ⟨v, rfl, v0, v1, hs7, hgx⟩
  replace op := op.draw hgx zP.out
  replace rx := rx.other hgx (fun _ y hy e => by have := HLoc.out y hy; have := z0.out; simp at e; omega)
  replace BW := below_of_grown BW hgx
  clear hgx
  clear hs6
  go_wp2_with fail
  refine (l1Pick_c _ p q cs (t1 + 1 + 1 + 1 + 1 + m + 1) w7.heap.size [0, 0, v, 17, -1] 5 _ (hs7.keep (alloc_below _ _)) (by omega) (by omega) rfl (by decide) (by decide) (by have := hs7.lt; omega) (new_ints _ _ _ [0, 0, v, 17, -1] rfl)).mono ?_
  rintro e w8 ⟨pad, hpad, rfl, hs8, hgx⟩
  replace op := (op.stay (alloc_below _ _)).draw hgx zP.out
  replace rx := (rx.keep (alloc_below _ _)).other hgx (fun _ y hy e => by have := HLoc.out y hy; have := z0.out; simp at e; omega)
  replace BW := below_of_grown (Below.mk BW _) hgx
  clear hgx
  clear hs7
  have hP : Hid (-1 ≤ pad ∧ pad ≤ 17) := by
    show _ ∧ _
    simp only [List.mem_cons, List.not_mem_nil, or_false] at hpad
    omega
  clear hpad
  replace A0 := A0.stay BW
  have d0 := (A0.cell 0).trans (show _ = some _ from rfl)
  have d1 := (A0.cell 1).trans (show _ = some _ from rfl)
  have d2 := (A0.cell 2).trans (show _ = some _ from rfl)
  have fd := A0.frozen
  have BB := Below.step B0 BW
  have hne : ∀ y, ps = some y → y.block ≠ w.heap.size := fun y hy => by have := HLoc.out y hy; have := z0.out; have := HW0.out; omega
  have hPl : plain.length ≤ 201 := by have := HPL.out; omega
  have hlw : w.heap.size < w5.heap.size := by have := zP.out; have := HW0.out; omega
  clear A0 HPL
  go_wp2_with fail
  exact bodyPost_ret (v := .tuple #[.agg #[.slice ps x.1.length qs, .int .i64 x.2.1, .int .i64 x.2.2], .int .i64 kind, .slice pp plain.length qp, .int .i64 pad]) (by simp [results, Tryz.results6, go_sem, d0, d1, d2]) rfl ⟨ps, pp, qs, qp, x, kind, plain, pad, rfl, hxl, hPl, hP.out.1, hP.out.2, ((rx.set (fun _ y hy => hne y hy) _).set (fun _ y hy => hne y hy) _).set (fun _ y hy => hne y hy) _, Rd.own (((op.set hlw _).set hlw _).set hlw _), ((BB.setCell (Nat.le_refl _) _).setCell (Nat.le_refl _) _).setCell (Nat.le_refl _) _⟩
end Go.Proofs.YtdemfbbjdnjolaaGreatDoor

