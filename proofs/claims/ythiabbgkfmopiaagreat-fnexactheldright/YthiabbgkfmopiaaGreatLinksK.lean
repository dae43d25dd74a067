/- Lists of Link as data (Cod), and the contracts of the laws' helpers on them (written by tools/listx.py). -/
import Derived.Test.YthiabbgkfmopiaaGreatLinkC
import Derived.Test.YthiabbgkfmopiaaGreatJoint6
namespace Go.Proofs.YthiabbgkfmopiaaGreat
open Go.ChangeShapes Go.WideShapes Go.ChangeAt Go.RowKit

abbrev linksC : Cod (List LinkD) := listC 57 linkC
theorem infoLink : (Tryz.prog.info? 57).map (fun i => (i.zero, i.size, i.bytes)) = some (some (.agg #[.int .i64 0, .int .i64 0, .slice none 0 0, .int .i64 0, .slice none 0 0, .slice none 0 0, .slice none 0 0, .slice none 0 0, .int .i64 0, .slice none 0 0, .slice none 0 0, .slice none 0 0]), 12, 224) := by kernel_rfl
def sumLink (l : List LinkD) : Nat := (l.map linkN).sum
def sizeLink (l : List LinkD) : Nat := sumLink l + l.length
theorem sumLink_at {l : List LinkD} {i : Nat} {a : LinkD} (h : l[i]? = some a) : linkN a ≤ sumLink l := by
  have hm := List.mem_of_getElem? h
  have h2 : ∀ l : List LinkD, a ∈ l → linkN a ≤ sumLink l := by
    intro l
    induction l with
    | nil => intro h; cases h
    | cons b l ih =>
      intro h
      rcases List.mem_cons.1 h with rfl | h
      · simp [sumLink]
      · have := ih h; simp [sumLink] at this ⊢; omega
  exact h2 l hm
theorem sumLink_take {l : List LinkD} {k : Nat} {a : LinkD} (h : l[k]? = some a) : sumLink (l.take (k + 1)) = sumLink (l.take k) + linkN a := by
  rw [List.take_add_one, h]; simp [sumLink]
theorem sumLink_le (l : List LinkD) (k : Nat) : sumLink (l.take k) ≤ sumLink l := by
  conv => rhs; rw [← List.take_append_drop k l]
  unfold sumLink
  rw [List.map_append, List.sum_append]; omega

set_option maxRecDepth 4000 in
set_option maxHeartbeats 2000000 in
theorem toLinkS_c (l : List LinkD) (p : Option Addr) (q : Nat) (w : World) (hr : RdL linkC w p q l) (hl : sizeLink l ≤ 1048576) :
    Calls Tryz.prog 21 #[.slice p l.length q] w fun e w' => ∃ v xs fp, e = .returned v ∧ OwnL 57 linkC w' w.heap.size v l xs fp ∧ Below w.heap.size w w' := by
  obtain ⟨i0, hi, hz0, hz1, hz2⟩ := info_parts infoLink
  have HR : Hid (RdL linkC w p q l) := hr
  have HL : Hid (sumLink l ≤ 1048576) := by show _ ≤ _; unfold sizeLink at hl; omega
  have hll : l.length ≤ 1048576 := by unfold sizeLink at hl; omega
  clear hr hl
  go_enter Tryz.func21, Tryz.ntmps21
  go_wp2_with (at_make; refine wpList_make_full _ rfl (.tmp 6) (.tmp 6) 34 rfl w.heap.size 57 i0 (.agg #[.int .i64 0, .int .i64 0, .slice none 0 0, .int .i64 0, .slice none 0 0, .slice none 0 0, .slice none 0 0, .slice none 0 0, .int .i64 0, .slice none 0 0, .slice none 0 0, .slice none 0 0]) 12 Tryz.underlying34 hi hz0 hz1 .i64 .i64 _ _ l.length rfl rfl rfl rfl (by rw [hz2]; omega) (by unfold maxLen; omega) (Nat.le_refl _) ?_; intro w1 hown hgrow)
  have hb1 : Below w.heap.size w w1 := (Below.refl _ _).grown hgrow (Nat.le_refl _) (fun k hk => by simp at hk)
  obtain ⟨M, HM⟩ : ∃ M, Hid (M = (madeCells (Value.agg #[.int .i64 0, .int .i64 0, .slice none 0 0, .int .i64 0, .slice none 0 0, .slice none 0 0, .slice none 0 0, .slice none 0 0, .int .i64 0, .slice none 0 0, .slice none 0 0, .slice none 0 0]).cells (l.length * 12)).toList) := ⟨_, rfl⟩
  rw [← HM.out] at hown
  have hML : Hid (M.length = l.length * 12) := hown.1
  clear hgrow hi hz0 hz1 hz2 HM
  go_loopw [4] (fun i wr => ∃ (k : Nat) (xs : List Value) (fp : List Nat), k ≤ l.length ∧ i = .int .i64 k ∧ wr.ownsRow w.heap.size 57 12 (.slice (some ⟨w.heap.size, 0, none⟩) l.length l.length) l.length (xs ++ M.drop (k * 12)) ∧ OwnAll linkC wr (w.heap.size + 1) (l.take k) xs fp ∧ fp.Nodup ∧ Below w.heap.size w wr)
    (fun i _ => l.length - (intOf i).toNat)
  case atStart => exact ⟨0, [], [], Nat.zero_le _, rfl, by simpa using hown, by rw [List.take_zero]; exact ⟨rfl, rfl⟩, List.nodup_nil, hb1⟩
  case round =>
    clear hown hb1
    obtain ⟨k, xs, fp, hk, rfl, hown, hall, hnd, BW⟩ := hrel
    have HX : Hid (xs.length = k * 12) := by show _ = _; have h := hall.len; rw [List.length_take, Nat.min_eq_left hk] at h; exact h
    by_cases hlt : k < l.length
    · have hkI : (k : Int) < (l.length : Int) := by omega
      obtain ⟨b, o, e1, hc⟩ := (HR.out.keep BW).2.2.2 (by omega)
      subst e1
      obtain ⟨a, ha⟩ : ∃ a, l[k]? = some a := ⟨l[k], by simp [hlt]⟩
      obtain ⟨us, hrep, hcell⟩ := hc k a ha
      obtain ⟨pa3_1, qa3_1, pa3_3, qa3_3, pa3_4, qa3_4, pa3_5, qa3_5, pa4_1, qa4_1, pa4_3, qa4_3, pa4_4, qa4_4, pa4_5, qa4_5, rfl, ra3_1, ra3_3, ra3_4, ra3_5, ra4_1, ra4_3, ra4_4, ra4_5⟩ := link_rep hrep
      have c0 := hcell 0 _ rfl
      have c1 := hcell 1 _ rfl
      have c2 := hcell 2 _ rfl
      have c3 := hcell 3 _ rfl
      have c4 := hcell 4 _ rfl
      have c5 := hcell 5 _ rfl
      have c6 := hcell 6 _ rfl
      have c7 := hcell 7 _ rfl
      have c8 := hcell 8 _ rfl
      have c9 := hcell 9 _ rfl
      have c10 := hcell 10 _ rfl
      have c11 := hcell 11 _ rfl
      rw [show linkC.n = 12 from rfl] at c0 c1 c2 c3 c4 c5 c6 c7 c8 c9 c10 c11
      rw [Nat.add_zero] at c0
      obtain ⟨y0, hy0⟩ := row_at HX.out hML.out hlt (show 0 < 12 by decide)
      obtain ⟨y1, hy1⟩ := row_at HX.out hML.out hlt (show 1 < 12 by decide)
      obtain ⟨y2, hy2⟩ := row_at HX.out hML.out hlt (show 2 < 12 by decide)
      obtain ⟨y3, hy3⟩ := row_at HX.out hML.out hlt (show 3 < 12 by decide)
      obtain ⟨y4, hy4⟩ := row_at HX.out hML.out hlt (show 4 < 12 by decide)
      obtain ⟨y5, hy5⟩ := row_at HX.out hML.out hlt (show 5 < 12 by decide)
      obtain ⟨y6, hy6⟩ := row_at HX.out hML.out hlt (show 6 < 12 by decide)
      obtain ⟨y7, hy7⟩ := row_at HX.out hML.out hlt (show 7 < 12 by decide)
      obtain ⟨y8, hy8⟩ := row_at HX.out hML.out hlt (show 8 < 12 by decide)
      obtain ⟨y9, hy9⟩ := row_at HX.out hML.out hlt (show 9 < 12 by decide)
      obtain ⟨y10, hy10⟩ := row_at HX.out hML.out hlt (show 10 < 12 by decide)
      obtain ⟨y11, hy11⟩ := row_at HX.out hML.out hlt (show 11 < 12 by decide)
      have d0 := (World.ownsRow.cellAt hown (k * 12 + 0) (by omega)).trans hy0
      have d1 := (World.ownsRow.cellAt hown (k * 12 + 1) (by omega)).trans hy1
      have d2 := (World.ownsRow.cellAt hown (k * 12 + 2) (by omega)).trans hy2
      have d3 := (World.ownsRow.cellAt hown (k * 12 + 3) (by omega)).trans hy3
      have d4 := (World.ownsRow.cellAt hown (k * 12 + 4) (by omega)).trans hy4
      have d5 := (World.ownsRow.cellAt hown (k * 12 + 5) (by omega)).trans hy5
      have d6 := (World.ownsRow.cellAt hown (k * 12 + 6) (by omega)).trans hy6
      have d7 := (World.ownsRow.cellAt hown (k * 12 + 7) (by omega)).trans hy7
      have d8 := (World.ownsRow.cellAt hown (k * 12 + 8) (by omega)).trans hy8
      have d9 := (World.ownsRow.cellAt hown (k * 12 + 9) (by omega)).trans hy9
      have d10 := (World.ownsRow.cellAt hown (k * 12 + 10) (by omega)).trans hy10
      have d11 := (World.ownsRow.cellAt hown (k * 12 + 11) (by omega)).trans hy11
      rw [Nat.add_zero] at d0
      have fz := World.ownsRow.frozenAt hown
      have hba := sumLink_at ha
      have hsz : Hid (w.heap.size < wr.heap.size) := (World.ownsRow.lt hown w.heap.size rfl).2
      go_wp2_with fail
      refine (toLink_k a _ wr (link_mk ra3_1 ra3_3 ra3_4 ra3_5 ra4_1 ra4_3 ra4_4 ra4_5) (by have := HL.out; omega)).mono ?_
      rintro e w2 ⟨vs2, fp2, rfl, hoA, hb2⟩
      obtain ⟨pv3_1, qv3_1, pv3_3, qv3_3, pv3_4, qv3_4, pv3_5, qv3_5, pv4_1, qv4_1, pv4_3, qv4_3, pv4_4, qv4_4, pv4_5, qv4_5, e2, -, -, -, -, -, -, -, -⟩ := link_rep (linkC.toRep hoA)
      subst e2
      have hown2 := ownsRow_fr (w' := w2) hown (fun j hj => by simp [Value.ownBlock] at hj; subst hj; exact hb2.block _ hsz.out)
      have hall2 := hall.fr (w' := w2) (fun j hj => hb2.block j (hall.ins j hj).2)
      have hlow : Hid (∀ j, j ∈ fp2 → wr.heap.size ≤ j) := fun j hj => (linkC.ins hoA j hj).1
      have hins : Hid (∀ j, j ∈ fp → w.heap.size + 1 ≤ j ∧ j < wr.heap.size) := fun j hj => hall.ins j hj
      have hndA : Hid fp2.Nodup := linkC.nd hoA
      have BW2 := Below.step BW hb2
      have d0' := (World.ownsRow.cellAt hown2 (k * 12 + 0) (by omega)).trans hy0
      have d1' := (World.ownsRow.cellAt hown2 (k * 12 + 1) (by omega)).trans hy1
      have d2' := (World.ownsRow.cellAt hown2 (k * 12 + 2) (by omega)).trans hy2
      have d3' := (World.ownsRow.cellAt hown2 (k * 12 + 3) (by omega)).trans hy3
      have d4' := (World.ownsRow.cellAt hown2 (k * 12 + 4) (by omega)).trans hy4
      have d5' := (World.ownsRow.cellAt hown2 (k * 12 + 5) (by omega)).trans hy5
      have d6' := (World.ownsRow.cellAt hown2 (k * 12 + 6) (by omega)).trans hy6
      have d7' := (World.ownsRow.cellAt hown2 (k * 12 + 7) (by omega)).trans hy7
      have d8' := (World.ownsRow.cellAt hown2 (k * 12 + 8) (by omega)).trans hy8
      have d9' := (World.ownsRow.cellAt hown2 (k * 12 + 9) (by omega)).trans hy9
      have d10' := (World.ownsRow.cellAt hown2 (k * 12 + 10) (by omega)).trans hy10
      have d11' := (World.ownsRow.cellAt hown2 (k * 12 + 11) (by omega)).trans hy11
      rw [Nat.add_zero] at d0'
      have fz' := World.ownsRow.frozenAt hown2
      have R1 := World.ownsRow.stored hown2 (k * 12) (.int .i64 a.1)
      have R2 := World.ownsRow.stored R1.1 (k * 12 + 1) (.int .i64 a.2.1)
      have R3 := World.ownsRow.stored R2.1 (k * 12 + 2) (.slice pv3_1 a.2.2.1.1.length qv3_1)
      have R4 := World.ownsRow.stored R3.1 (k * 12 + 3) (.int .i64 a.2.2.1.2.1)
      have R5 := World.ownsRow.stored R4.1 (k * 12 + 4) (.slice pv3_3 a.2.2.1.2.2.1.length qv3_3)
      have R6 := World.ownsRow.stored R5.1 (k * 12 + 5) (.slice pv3_4 a.2.2.1.2.2.2.1.length qv3_4)
      have R7 := World.ownsRow.stored R6.1 (k * 12 + 6) (.slice pv3_5 a.2.2.1.2.2.2.2.length qv3_5)
      have R8 := World.ownsRow.stored R7.1 (k * 12 + 7) (.slice pv4_1 a.2.2.2.1.length qv4_1)
      have R9 := World.ownsRow.stored R8.1 (k * 12 + 8) (.int .i64 a.2.2.2.2.1)
      have R10 := World.ownsRow.stored R9.1 (k * 12 + 9) (.slice pv4_3 a.2.2.2.2.2.1.length qv4_3)
      have R11 := World.ownsRow.stored R10.1 (k * 12 + 10) (.slice pv4_4 a.2.2.2.2.2.2.1.length qv4_4)
      have R12 := World.ownsRow.stored R11.1 (k * 12 + 11) (.slice pv4_5 a.2.2.2.2.2.2.2.length qv4_5)
      have HPut := row_put (us := [.int .i64 a.1, .int .i64 a.2.1, .slice pv3_1 a.2.2.1.1.length qv3_1, .int .i64 a.2.2.1.2.1, .slice pv3_3 a.2.2.1.2.2.1.length qv3_3, .slice pv3_4 a.2.2.1.2.2.2.1.length qv3_4, .slice pv3_5 a.2.2.1.2.2.2.2.length qv3_5, .slice pv4_1 a.2.2.2.1.length qv4_1, .int .i64 a.2.2.2.2.1, .slice pv4_3 a.2.2.2.2.2.1.length qv4_3, .slice pv4_4 a.2.2.2.2.2.2.1.length qv4_4, .slice pv4_5 a.2.2.2.2.2.2.2.length qv4_5]) HX.out hML.out hlt rfl
      rw [show (((((((((((((xs ++ M.drop (k * 12)).set (k * 12) (.int .i64 a.1)).set (k * 12 + 1) (.int .i64 a.2.1)).set (k * 12 + 2) (.slice pv3_1 a.2.2.1.1.length qv3_1)).set (k * 12 + 3) (.int .i64 a.2.2.1.2.1)).set (k * 12 + 4) (.slice pv3_3 a.2.2.1.2.2.1.length qv3_3)).set (k * 12 + 5) (.slice pv3_4 a.2.2.1.2.2.2.1.length qv3_4)).set (k * 12 + 6) (.slice pv3_5 a.2.2.1.2.2.2.2.length qv3_5)).set (k * 12 + 7) (.slice pv4_1 a.2.2.2.1.length qv4_1)).set (k * 12 + 8) (.int .i64 a.2.2.2.2.1)).set (k * 12 + 9) (.slice pv4_3 a.2.2.2.2.2.1.length qv4_3)).set (k * 12 + 10) (.slice pv4_4 a.2.2.2.2.2.2.1.length qv4_4)).set (k * 12 + 11) (.slice pv4_5 a.2.2.2.2.2.2.2.length qv4_5)) = setList (xs ++ M.drop (k * 12)) (k * 12) [.int .i64 a.1, .int .i64 a.2.1, .slice pv3_1 a.2.2.1.1.length qv3_1, .int .i64 a.2.2.1.2.1, .slice pv3_3 a.2.2.1.2.2.1.length qv3_3, .slice pv3_4 a.2.2.1.2.2.2.1.length qv3_4, .slice pv3_5 a.2.2.1.2.2.2.2.length qv3_5, .slice pv4_1 a.2.2.2.1.length qv4_1, .int .i64 a.2.2.2.2.1, .slice pv4_3 a.2.2.2.2.2.1.length qv4_3, .slice pv4_4 a.2.2.2.2.2.2.1.length qv4_4, .slice pv4_5 a.2.2.2.2.2.2.2.length qv4_5] from rfl, HPut] at R12
      have RB := ((((((((((((BW2.setCell (p := ⟨w.heap.size, k * 12, none⟩) (Nat.le_refl _) (.int .i64 a.1)).setCell (p := ⟨w.heap.size, k * 12 + 1, none⟩) (Nat.le_refl _) (.int .i64 a.2.1)).setCell (p := ⟨w.heap.size, k * 12 + 2, none⟩) (Nat.le_refl _) (.slice pv3_1 a.2.2.1.1.length qv3_1)).setCell (p := ⟨w.heap.size, k * 12 + 3, none⟩) (Nat.le_refl _) (.int .i64 a.2.2.1.2.1)).setCell (p := ⟨w.heap.size, k * 12 + 4, none⟩) (Nat.le_refl _) (.slice pv3_3 a.2.2.1.2.2.1.length qv3_3)).setCell (p := ⟨w.heap.size, k * 12 + 5, none⟩) (Nat.le_refl _) (.slice pv3_4 a.2.2.1.2.2.2.1.length qv3_4)).setCell (p := ⟨w.heap.size, k * 12 + 6, none⟩) (Nat.le_refl _) (.slice pv3_5 a.2.2.1.2.2.2.2.length qv3_5)).setCell (p := ⟨w.heap.size, k * 12 + 7, none⟩) (Nat.le_refl _) (.slice pv4_1 a.2.2.2.1.length qv4_1)).setCell (p := ⟨w.heap.size, k * 12 + 8, none⟩) (Nat.le_refl _) (.int .i64 a.2.2.2.2.1)).setCell (p := ⟨w.heap.size, k * 12 + 9, none⟩) (Nat.le_refl _) (.slice pv4_3 a.2.2.2.2.2.1.length qv4_3)).setCell (p := ⟨w.heap.size, k * 12 + 10, none⟩) (Nat.le_refl _) (.slice pv4_4 a.2.2.2.2.2.2.1.length qv4_4)).setCell (p := ⟨w.heap.size, k * 12 + 11, none⟩) (Nat.le_refl _) (.slice pv4_5 a.2.2.2.2.2.2.2.length qv4_5))
      have RA := hall2.fr (w' := ((((((((((((w2.setCell ⟨w.heap.size, k * 12, none⟩ (.int .i64 a.1)).setCell ⟨w.heap.size, k * 12 + 1, none⟩ (.int .i64 a.2.1)).setCell ⟨w.heap.size, k * 12 + 2, none⟩ (.slice pv3_1 a.2.2.1.1.length qv3_1)).setCell ⟨w.heap.size, k * 12 + 3, none⟩ (.int .i64 a.2.2.1.2.1)).setCell ⟨w.heap.size, k * 12 + 4, none⟩ (.slice pv3_3 a.2.2.1.2.2.1.length qv3_3)).setCell ⟨w.heap.size, k * 12 + 5, none⟩ (.slice pv3_4 a.2.2.1.2.2.2.1.length qv3_4)).setCell ⟨w.heap.size, k * 12 + 6, none⟩ (.slice pv3_5 a.2.2.1.2.2.2.2.length qv3_5)).setCell ⟨w.heap.size, k * 12 + 7, none⟩ (.slice pv4_1 a.2.2.2.1.length qv4_1)).setCell ⟨w.heap.size, k * 12 + 8, none⟩ (.int .i64 a.2.2.2.2.1)).setCell ⟨w.heap.size, k * 12 + 9, none⟩ (.slice pv4_3 a.2.2.2.2.2.1.length qv4_3)).setCell ⟨w.heap.size, k * 12 + 10, none⟩ (.slice pv4_4 a.2.2.2.2.2.2.1.length qv4_4)).setCell ⟨w.heap.size, k * 12 + 11, none⟩ (.slice pv4_5 a.2.2.2.2.2.2.2.length qv4_5))) (fun j hj => by
        have h1 := (hins.out j hj).1
        rw [heap_setCell_other _ _ j _ (by show j ≠ w.heap.size; omega), heap_setCell_other _ _ j _ (by show j ≠ w.heap.size; omega), heap_setCell_other _ _ j _ (by show j ≠ w.heap.size; omega), heap_setCell_other _ _ j _ (by show j ≠ w.heap.size; omega), heap_setCell_other _ _ j _ (by show j ≠ w.heap.size; omega), heap_setCell_other _ _ j _ (by show j ≠ w.heap.size; omega), heap_setCell_other _ _ j _ (by show j ≠ w.heap.size; omega), heap_setCell_other _ _ j _ (by show j ≠ w.heap.size; omega), heap_setCell_other _ _ j _ (by show j ≠ w.heap.size; omega), heap_setCell_other _ _ j _ (by show j ≠ w.heap.size; omega), heap_setCell_other _ _ j _ (by show j ≠ w.heap.size; omega), heap_setCell_other _ _ j _ (by show j ≠ w.heap.size; omega)])
      have RO := linkC.low (linkC.fr (w' := ((((((((((((w2.setCell ⟨w.heap.size, k * 12, none⟩ (.int .i64 a.1)).setCell ⟨w.heap.size, k * 12 + 1, none⟩ (.int .i64 a.2.1)).setCell ⟨w.heap.size, k * 12 + 2, none⟩ (.slice pv3_1 a.2.2.1.1.length qv3_1)).setCell ⟨w.heap.size, k * 12 + 3, none⟩ (.int .i64 a.2.2.1.2.1)).setCell ⟨w.heap.size, k * 12 + 4, none⟩ (.slice pv3_3 a.2.2.1.2.2.1.length qv3_3)).setCell ⟨w.heap.size, k * 12 + 5, none⟩ (.slice pv3_4 a.2.2.1.2.2.2.1.length qv3_4)).setCell ⟨w.heap.size, k * 12 + 6, none⟩ (.slice pv3_5 a.2.2.1.2.2.2.2.length qv3_5)).setCell ⟨w.heap.size, k * 12 + 7, none⟩ (.slice pv4_1 a.2.2.2.1.length qv4_1)).setCell ⟨w.heap.size, k * 12 + 8, none⟩ (.int .i64 a.2.2.2.2.1)).setCell ⟨w.heap.size, k * 12 + 9, none⟩ (.slice pv4_3 a.2.2.2.2.2.1.length qv4_3)).setCell ⟨w.heap.size, k * 12 + 10, none⟩ (.slice pv4_4 a.2.2.2.2.2.2.1.length qv4_4)).setCell ⟨w.heap.size, k * 12 + 11, none⟩ (.slice pv4_5 a.2.2.2.2.2.2.2.length qv4_5))) hoA (fun j hj => by
        have h1 := hlow.out j hj
        have h2 := hsz.out
        rw [heap_setCell_other _ _ j _ (by show j ≠ w.heap.size; omega), heap_setCell_other _ _ j _ (by show j ≠ w.heap.size; omega), heap_setCell_other _ _ j _ (by show j ≠ w.heap.size; omega), heap_setCell_other _ _ j _ (by show j ≠ w.heap.size; omega), heap_setCell_other _ _ j _ (by show j ≠ w.heap.size; omega), heap_setCell_other _ _ j _ (by show j ≠ w.heap.size; omega), heap_setCell_other _ _ j _ (by show j ≠ w.heap.size; omega), heap_setCell_other _ _ j _ (by show j ≠ w.heap.size; omega), heap_setCell_other _ _ j _ (by show j ≠ w.heap.size; omega), heap_setCell_other _ _ j _ (by show j ≠ w.heap.size; omega), heap_setCell_other _ _ j _ (by show j ≠ w.heap.size; omega), heap_setCell_other _ _ j _ (by show j ≠ w.heap.size; omega)])) (show w.heap.size + 1 ≤ wr.heap.size from hsz.out)
      have RS := RA.snoc RO
      have hnd2 : Hid ((fp ++ fp2).Nodup) := by
        refine List.nodup_append.2 ⟨hnd, hndA.out, fun x hx y hy e => ?_⟩
        subst e
        have h1 := (hins.out x hx).2
        have h2 := hlow.out x hy
        omega
      have hT : Hid (l.take k ++ [a] = l.take (k + 1)) := by show _ = _; rw [List.take_add_one, ha]; rfl
      rw [hT.out] at RS
      clear hown hown2 hall hall2 RA RO hoA R1 R2 R3 R4 R5 R6 R7 R8 R9 R10 R11 d0 d1 d2 d3 d4 d5 d6 d7 d8 d9 d10 d11 fz hb2 BW BW2 hc hcell hrep c0 c1 c2 c3 c4 c5 c6 c7 c8 c9 c10 c11 HPut hy0 hy1 hy2 hy3 hy4 hy5 hy6 hy7 hy8 hy9 hy10 hy11
      go_wp2_with fail
      go_roundw
      case rel => exact ⟨k + 1, _, _, by omega, by go_num, R12.1, RS, hnd2.out, RB⟩
      case measure => simp [intOf]; omega
    · have e : k = l.length := by omega
      subst e
      rw [List.take_length] at hall
      rw [show M.drop (l.length * 12) = [] from List.drop_eq_nil_of_le (by rw [hML.out]; exact Nat.le_refl _), List.append_nil] at hown
      have hins := hall.ins
      have hO : OwnL 57 linkC wr w.heap.size (.slice (some ⟨w.heap.size, 0, none⟩) l.length l.length) l xs fp := ⟨hown, hall.low (by omega), by
        refine List.nodup_append.2 ⟨nodup_opt _, hnd, fun x hx y hy e => ?_⟩
        subst e
        have h1 := mem_opt.1 hx
        simp [Value.ownBlock] at h1
        have h2 := (hins x hy).1
        omega⟩
      clear hown hall hins hnd
      go_wp2_with fail
      go_ret
      exact ⟨_, _, _, rfl, hO, BW⟩
set_option maxRecDepth 4000 in
set_option maxHeartbeats 2000000 in
theorem eqLinkS_c (l : List LinkD) (p p2 : Option Addr) (q q2 : Nat) (w : World) (h1 : RdL linkC w p q l) (h2 : RdL linkC w p2 q2 l) :
    Calls Tryz.prog 32 #[.slice p l.length q, .slice p2 l.length q2] w fun e w' => e = .returned (.bool true) ∧ Below w.heap.size w w' := by
  have HR : Hid (RdL linkC w p q l) := h1
  have HR2 : Hid (RdL linkC w p2 q2 l) := h2
  have hq1 : l.length ≤ q := h1.1
  have hq2 : q ≤ 2 ^ 63 - 1 := h1.2.1
  clear h1 h2
  go_enter Tryz.func32, Tryz.ntmps32
  go_wp2_with fail
  go_loopw [5] (fun i wr => ∃ k : Nat, k ≤ l.length ∧ i = .int .i64 k ∧ Below w.heap.size w wr)
    (fun i _ => l.length - (intOf i).toNat)
  case atStart => exact ⟨0, Nat.zero_le _, rfl, Below.refl _ _⟩
  case round =>
    obtain ⟨k, hk, rfl, BW⟩ := hrel
    by_cases hlt : k < l.length
    · have hkI : (k : Int) < (l.length : Int) := by omega
      obtain ⟨b, o, e1, hc⟩ := (HR.out.keep BW).2.2.2 (by omega)
      subst e1
      obtain ⟨b2, o2, e2, hc2⟩ := (HR2.out.keep BW).2.2.2 (by omega)
      subst e2
      obtain ⟨a, ha⟩ : ∃ a, l[k]? = some a := ⟨l[k], by simp [hlt]⟩
      obtain ⟨us, hrep, hcell⟩ := hc k a ha
      obtain ⟨pa3_1, qa3_1, pa3_3, qa3_3, pa3_4, qa3_4, pa3_5, qa3_5, pa4_1, qa4_1, pa4_3, qa4_3, pa4_4, qa4_4, pa4_5, qa4_5, rfl, ra3_1, ra3_3, ra3_4, ra3_5, ra4_1, ra4_3, ra4_4, ra4_5⟩ := link_rep hrep
      obtain ⟨us2, hrep2, hcell2⟩ := hc2 k a ha
      obtain ⟨pb3_1, qb3_1, pb3_3, qb3_3, pb3_4, qb3_4, pb3_5, qb3_5, pb4_1, qb4_1, pb4_3, qb4_3, pb4_4, qb4_4, pb4_5, qb4_5, rfl, rb3_1, rb3_3, rb3_4, rb3_5, rb4_1, rb4_3, rb4_4, rb4_5⟩ := link_rep hrep2
      have c0 := hcell 0 _ rfl
      have c1 := hcell 1 _ rfl
      have c2 := hcell 2 _ rfl
      have c3 := hcell 3 _ rfl
      have c4 := hcell 4 _ rfl
      have c5 := hcell 5 _ rfl
      have c6 := hcell 6 _ rfl
      have c7 := hcell 7 _ rfl
      have c8 := hcell 8 _ rfl
      have c9 := hcell 9 _ rfl
      have c10 := hcell 10 _ rfl
      have c11 := hcell 11 _ rfl
      have d0 := hcell2 0 _ rfl
      have d1 := hcell2 1 _ rfl
      have d2 := hcell2 2 _ rfl
      have d3 := hcell2 3 _ rfl
      have d4 := hcell2 4 _ rfl
      have d5 := hcell2 5 _ rfl
      have d6 := hcell2 6 _ rfl
      have d7 := hcell2 7 _ rfl
      have d8 := hcell2 8 _ rfl
      have d9 := hcell2 9 _ rfl
      have d10 := hcell2 10 _ rfl
      have d11 := hcell2 11 _ rfl
      rw [show linkC.n = 12 from rfl] at c0 c1 c2 c3 c4 c5 c6 c7 c8 c9 c10 c11 d0 d1 d2 d3 d4 d5 d6 d7 d8 d9 d10 d11
      rw [Nat.add_zero] at c0 d0
      clear hc hcell hrep hc2 hcell2 hrep2
      go_wp2_with fail
      replace c0 := HW.at c0
      replace c1 := HW.at c1
      replace c2 := HW.at c2
      replace c3 := HW.at c3
      replace c4 := HW.at c4
      replace c5 := HW.at c5
      replace c6 := HW.at c6
      replace c7 := HW.at c7
      replace c8 := HW.at c8
      replace c9 := HW.at c9
      replace c10 := HW.at c10
      replace c11 := HW.at c11
      replace d0 := HW.at d0
      replace d1 := HW.at d1
      replace d2 := HW.at d2
      replace d3 := HW.at d3
      replace d4 := HW.at d4
      replace d5 := HW.at d5
      replace d6 := HW.at d6
      replace d7 := HW.at d7
      replace d8 := HW.at d8
      replace d9 := HW.at d9
      replace d10 := HW.at d10
      replace d11 := HW.at d11
      have hne := HW.some wr
      refine wp_region_class rfl (by kernel_rfl) ?_
      repeat (go_big_quiet_step ((go_at_call 61; exact Calls.stay (eqLink_k a _ _ _ (link_mk (ra3_1.keep (HW.h _)) (ra3_3.keep (HW.h _)) (ra3_4.keep (HW.h _)) (ra3_5.keep (HW.h _)) (ra4_1.keep (HW.h _)) (ra4_3.keep (HW.h _)) (ra4_4.keep (HW.h _)) (ra4_5.keep (HW.h _))) (link_mk (rb3_1.keep (HW.h _)) (rb3_3.keep (HW.h _)) (rb3_4.keep (HW.h _)) (rb3_5.keep (HW.h _)) (rb4_1.keep (HW.h _)) (rb4_3.keep (HW.h _)) (rb4_4.keep (HW.h _)) (rb4_5.keep (HW.h _)))))))
      refine wpQuiet_nil ?_
      intro w' hw'
      have BW2 := Below.step BW (HW.out hw')
      clear c0 c1 c2 c3 c4 c5 c6 c7 c8 c9 c10 c11 d0 d1 d2 d3 d4 d5 d6 d7 d8 d9 d10 d11 hne hw' BW
      go_wp2_with fail
      go_roundw
      case rel => exact ⟨k + 1, by omega, by go_num, BW2⟩
      case measure => simp [intOf]; omega
    · go_wp2_with fail
      go_ret
      exact ⟨rfl, BW⟩
set_option maxRecDepth 4000 in
set_option maxHeartbeats 2000000 in
theorem szLinkS_c (l : List LinkD) (p : Option Addr) (q : Nat) (left : Int) (w : World) (hr : RdL linkC w p q l) (h0 : 0 ≤ left) (h1 : left ≤ 1048576) :
    Calls Tryz.prog 12 #[.slice p l.length q, .int .i64 left] w fun e w' => e = .returned (.int .i64 (szR (sizeLink l) left)) ∧ Below w.heap.size w w' := by
  have HR : Hid (RdL linkC w p q l) := hr
  have hq1 : l.length ≤ q := hr.1
  have hq2 : q ≤ 2 ^ 63 - 1 := hr.2.1
  have hw : wrap64 (left - (l.length : Int)) = left - l.length := by unfold wrap64; omega
  have HB : Hid (sizeLink l = sumLink l + l.length) := rfl
  clear hr
  by_cases h : (l.length : Int) ≤ left
  case neg =>
    have he : Hid (szR (sizeLink l) left = -1) := by show _ = _; rw [szR, if_neg (by have := HB.out; omega)]
    have h2 : left - (l.length : Int) < 0 := by omega
    go_enter Tryz.func12, Tryz.ntmps12
    go_wp2
    go_ret
    exact ⟨by rw [he.out]; rfl, Below.refl _ _⟩
  case pos =>
    have h2 : ¬ (left - (l.length : Int) < 0) := by omega
    go_enter Tryz.func12, Tryz.ntmps12
    go_wp2
    go_loopw [1, 5] (fun r i wr => ∃ k : Nat, k ≤ l.length ∧ i = .int .i64 k ∧ r = .int .i64 (left - (l.length : Int) - (sumLink (l.take k) : Nat)) ∧ 0 ≤ left - (l.length : Int) - (sumLink (l.take k) : Nat) ∧ Below w.heap.size w wr)
      (fun _ i _ => l.length - (intOf i).toNat)
    case atStart => exact ⟨0, Nat.zero_le _, rfl, by simp [sumLink], by simpa [sumLink] using h2, Below.refl _ _⟩
    case round =>
      obtain ⟨k, hk, rfl, rfl, hnn, BW⟩ := hrel
      by_cases hlt : k < l.length
      · have hkI : (k : Int) < (l.length : Int) := by omega
        obtain ⟨b, o, e1, hc⟩ := (HR.out.keep BW).2.2.2 (by omega)
        subst e1
        obtain ⟨a, ha⟩ : ∃ a, l[k]? = some a := ⟨l[k], by simp [hlt]⟩
        obtain ⟨us, hrep, hcell⟩ := hc k a ha
        obtain ⟨pa3_1, qa3_1, pa3_3, qa3_3, pa3_4, qa3_4, pa3_5, qa3_5, pa4_1, qa4_1, pa4_3, qa4_3, pa4_4, qa4_4, pa4_5, qa4_5, rfl, ra3_1, ra3_3, ra3_4, ra3_5, ra4_1, ra4_3, ra4_4, ra4_5⟩ := link_rep hrep
        have c0 := hcell 0 _ rfl
        have c1 := hcell 1 _ rfl
        have c2 := hcell 2 _ rfl
        have c3 := hcell 3 _ rfl
        have c4 := hcell 4 _ rfl
        have c5 := hcell 5 _ rfl
        have c6 := hcell 6 _ rfl
        have c7 := hcell 7 _ rfl
        have c8 := hcell 8 _ rfl
        have c9 := hcell 9 _ rfl
        have c10 := hcell 10 _ rfl
        have c11 := hcell 11 _ rfl
        rw [show linkC.n = 12 from rfl] at c0 c1 c2 c3 c4 c5 c6 c7 c8 c9 c10 c11
        rw [Nat.add_zero] at c0
        have hT := sumLink_take ha
        have hLe := sumLink_le l (k + 1)
        have hR : Hid (left - (l.length : Int) - (sumLink (l.take k) : Nat) ≤ 1048576) := by show _ ≤ _; omega
        have HS : Hid (sumLink (l.take (k + 1)) ≤ sumLink l) := hLe
        rw [hT] at HS
        clear hLe hc hcell hrep
        generalize hLf : left - (l.length : Int) - (sumLink (l.take k) : Nat) = r at *
        have HLf : Hid (left - (l.length : Int) - (sumLink (l.take k) : Nat) = r) := hLf
        clear hLf
        go_wp2_with fail
        refine (szLink_k a _ r wr (link_mk ra3_1 ra3_3 ra3_4 ra3_5 ra4_1 ra4_3 ra4_4 ra4_5) hnn hR.out).mono ?_
        rintro e w2 ⟨rfl, hb2⟩
        have BW2 := Below.step BW hb2
        generalize hna : linkN a = na at *
        by_cases hs : (na : Int) ≤ r
        · have e1 : szR na r = r - na := by rw [szR, if_pos hs]
          have hn2 : 0 ≤ r - (na : Int) := by omega
          have hE : Hid (r - (na : Int) = left - (l.length : Int) - (sumLink (l.take (k + 1)) : Nat)) := by show _ = _; have := HLf.out; rw [hT]; omega
          rw [e1]
          clear hT HS HLf c0 c1 c2 c3 c4 c5 c6 c7 c8 c9 c10 c11 hb2 BW
          go_wp2_with fail
          go_roundw
          case rel => exact ⟨k + 1, by omega, by go_num, by rw [hE.out], by rw [← hE.out]; exact hn2, BW2⟩
          case measure => simp [intOf]; omega
        · have e1 : szR na r = -1 := by rw [szR, if_neg hs]
          have he : Hid (szR (sizeLink l) left = -1) := by show _ = _; rw [szR, if_neg (by have := HB.out; have := HS.out; have := HLf.out; omega)]
          rw [e1]
          clear hT HS HLf c0 c1 c2 c3 c4 c5 c6 c7 c8 c9 c10 c11 hb2 BW
          go_wp2_with fail
          go_ret
          exact ⟨by rw [he.out]; rfl, BW2⟩
      · have e : k = l.length := by omega
        subst e
        rw [List.take_length] at hnn ⊢
        have he : Hid (szR (sizeLink l) left = left - (l.length : Int) - (sumLink l : Nat)) := by show _ = _; rw [szR, if_pos (by have := HB.out; omega)]; have := HB.out; omega
        go_wp2_with fail
        go_ret
        exact ⟨by rw [he.out]; rfl, BW⟩
end Go.Proofs.YthiabbgkfmopiaaGreat

