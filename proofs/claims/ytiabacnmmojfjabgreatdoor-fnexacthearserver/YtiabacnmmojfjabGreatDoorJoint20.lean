/- UnpackHello of the specification, at every argument. What was there stays. -/
import Derived.Test.YtiabacnmmojfjabGreatDoorJoint19
import Derived.Test.YtiabacnmmojfjabGreatDoorJoint4
import Derived.Test.YtiabacnmmojfjabGreatDoorJoint11
import Derived.Test.YtiabacnmmojfjabGreatDoorJoint15
namespace Go.Proofs.YtiabacnmmojfjabGreatDoor
open Go.ChangeShapes Go.WideShapes Go.ChangeAt Go.RowKit

theorem hello_own {w : World} {B : Nat} {h : HelloD} {u : Value} (k : Own w B u h.1) : helloC.own w B h [u, .int .i64 h.2.1, .int .i64 h.2.2] (u.ownBlock.toList ++ ([] ++ [])) :=
  own_pair (c := bytC) (d := prodC (intC .i64) (intC .i64)) (a := h) (us := [u]) w.heap.size ⟨u, rfl, k, rfl⟩ (own_pair 0 own_int own_int lt_nil (fun _ _ => Nat.zero_le _)) (fun j hj => k.lt j (mem_opt.1 hj)) (ge_app ge_nil ge_nil)
theorem own3 {w : World} {B : Nat} {e : TypeId} {v : Value} {a b c : List UInt8} {xs : List Value} {fp : List Nat} (h : OwnL e bytC w B v [a, b, c] xs fp) :
    ∃ g cap pa qa pb qb pc qc, v = .slice (some ⟨g, 0, none⟩) 3 cap ∧ 3 ≤ cap ∧ cap ≤ 2 ^ 63 - 1 ∧ B ≤ g ∧ w.cell? ⟨g, 0, none⟩ = some (.slice pa a.length qa) ∧ w.cell? ⟨g, 1, none⟩ = some (.slice pb b.length qb) ∧ w.cell? ⟨g, 2, none⟩ = some (.slice pc c.length qc) ∧ Own w B (.slice pa a.length qa) a ∧ Rd w pb qb b ∧ Rd w pc qc c := by
  obtain ⟨us, ys, f, g, hx, hf, ⟨va, e1, oa, -⟩, us2, ys2, f2, g2, hx2, hf2, ⟨vb, e2, ob, -⟩, us3, ys3, f3, g3, hx3, hf3, ⟨vc, e3, oc, -⟩, hz⟩ := h.all
  obtain ⟨pa, qa, rfl, -⟩ := oa.rd
  obtain ⟨pb, qb, rfl, rb⟩ := ob.rd
  obtain ⟨pc, qc, rfl, rc⟩ := oc.rd
  have hxs : xs = [.slice pa a.length qa, .slice pb b.length qb, .slice pc c.length qc] := by rw [hx, e1, hx2, e2, hx3, e3, hz.1]; rfl
  have h0 := h.row
  rcases h.row.2 with ⟨rfl, hn⟩ | ⟨gg, cap, cur, rfl, hb, hg, hle, hm, hs, ht⟩
  · simp at hn
  · have c0 := World.ownsRow.cellAt h0 0 (by show 0 < 3 * 1; decide)
    have c1 := World.ownsRow.cellAt h0 1 (by show 1 < 3 * 1; decide)
    have c2 := World.ownsRow.cellAt h0 2 (by show 2 < 3 * 1; decide)
    rw [hxs] at c0 c1 c2
    exact ⟨gg, cap, pa, qa, pb, qb, pc, qc, rfl, hle, hm, hb, c0, c1, c2, oa, rb, rc⟩
theorem grownS (W : World) (b o : Nat) (v : Value) : W.grownBy (W.setCell ⟨b, o, none⟩ v) (some b) :=
  ⟨rfl, rfl, rfl, by rw [World.size_setCell]; exact Nat.le_refl _, fun k _ hk => Below.heap_setCell _ _ _ k (fun e => hk (by rw [e]))⟩
set_option maxRecDepth 4000 in
set_option maxHeartbeats 2000000 in
theorem l10Unpack_c (p : Option Addr) (q : Nat) (body : List UInt8) (w : World) (hr : Rd w p q body) (hl : body.length ≤ 1000) :
    Calls Tryz.prog 80 #[.slice p body.length q] w fun e w' => ∃ u s k, e = .returned (.tuple #[.agg #[u, .int .i64 s, .int .i64 k], .bool (huR body).isSome]) ∧ ((huR body).isSome = true → Own w' w.heap.size u ((huR body).getD zeroH).1 ∧ s = ((huR body).getD zeroH).2.1 ∧ k = ((huR body).getD zeroH).2.2) ∧ (∃ pu nu qu, u = .slice pu nu qu) ∧ Below w.heap.size w w' := by
  have BW := alloc_below w (.cells #[.slice none 0 0, .int .i64 0, .int .i64 0] 74)
  have R := Arr.new w [.slice none 0 0, .int .i64 0, .int .i64 0] 74
  have hz0 : Hid ((w.alloc (.cells #[.slice none 0 0, .int .i64 0, .int .i64 0] 74)).heap.size = w.heap.size + 1) := size_alloc _ _
  have KS := l6Split_c body p q _ (hr.keep BW) hl
  clear hr
  suffices H : ∀ Q : Ending → World → Prop, Hid (∀ e w', (∃ u s k, e = .returned (.tuple #[.agg #[u, .int .i64 s, .int .i64 k], .bool (huR body).isSome]) ∧ ((huR body).isSome = true → Own w' w.heap.size u ((huR body).getD zeroH).1 ∧ s = ((huR body).getD zeroH).2.1 ∧ k = ((huR body).getD zeroH).2.2) ∧ (∃ pu nu qu, u = .slice pu nu qu) ∧ Below w.heap.size w w') → Q e w') → Calls Tryz.prog 80 #[.slice p body.length q] w Q from H _ (show Hid _ from fun _ _ h => h)
  intro Q HQ
  have HU : Hid (huR body = (splitR body 0 []).bind h3) := rfl
  cases hs : splitR body 0 [] with
  | none =>
    rw [hs] at KS HU
    have HN : Hid (huR body = none) := HU.out
    clear hs HU
    go_enter Tryz.func80, Tryz.ntmps80
    go_wp2_with fail
    refine KS.mono ?_
    rintro e w1 ⟨v, rfl, -, hb1⟩
    replace R := R.stay hb1
    replace BW := Below.step BW hb1
    have c0 := (R.cell 0).trans (show _ = some _ from rfl)
    have c1 := (R.cell 1).trans (show _ = some _ from rfl)
    have c2 := (R.cell 2).trans (show _ = some _ from rfl)
    have fz := R.frozen
    clear R hb1
    go_wp2_with fail
    exact bodyPost_ret (v := .tuple #[.agg #[.slice none 0 0, .int .i64 0, .int .i64 0], .bool false]) (by simp [results, Tryz.results80, go_sem, c0, c1, c2]) rfl (HQ.out _ _ ⟨_, _, _, by rw [HN.out]; rfl, (fun h => by rw [HN.out] at h; cases h), ⟨_, _, _, rfl⟩, (((BW.setCell (Nat.le_refl _) _).setCell (Nat.le_refl _) _).setCell (Nat.le_refl _) _)⟩)
  | some bl =>
    rw [hs] at KS HU
    replace HU : Hid (huR body = h3 bl) := HU.out
    clear hs
    by_cases hl3 : bl.length = 3
    · match bl, hl3 with
      | [a, b, c], _ =>
        go_enter Tryz.func80, Tryz.ntmps80
        go_wp2_with fail
        refine KS.mono ?_
        rintro e w1 ⟨v, rfl, ⟨xs, fp, ho⟩, hb1⟩
        rw [hz0.out] at ho
        obtain ⟨g, cap, pa, qa, pb, qb, pc, qc, rfl, hcap, hcap2, hBg, l0, l1, l2, oa, rb, rc⟩ := own3 ho
        replace R := R.stay hb1
        replace BW := Below.step BW hb1
        have hz1 : Hid (w.heap.size + 1 ≤ w1.heap.size) := by have h := hb1.size; rw [hz0.out] at h; exact h
        have hqb1 : b.length ≤ qb := rb.1
        have hqb2 : qb ≤ 2 ^ 63 - 1 := rb.2.1
        have hqc1 : c.length ≤ qc := rc.1
        have hqc2 : qc ≤ 2 ^ 63 - 1 := rc.2.1
        have c0 := (R.cell 0).trans (show _ = some _ from rfl)
        have c1 := (R.cell 1).trans (show _ = some _ from rfl)
        have c2 := (R.cell 2).trans (show _ = some _ from rfl)
        have fz := R.frozen
        clear hb1 KS
        have HOA : Hid (Own w1 (w.heap.size + 1) (.slice pa a.length qa) a) := oa
        have HRB : Hid (Rd w1 pb qb b) := rb
        have HRC : Hid (Rd w1 pc qc c) := rc
        clear oa rb rc ho
        by_cases hb2 : b.length = 2
        · have db : ((b.length : Int) != 2) = false := by rw [bne_eq_false_iff_eq]; omega
          by_cases hc1 : c.length = 1
          · have dc : ((c.length : Int) != 1) = false := by rw [bne_eq_false_iff_eq]; omega
            have HB2 : Hid (b.length = 2) := hb2
            have HC1 : Hid (c.length = 1) := hc1
            obtain ⟨bc, oc, rfl, hcc⟩ := HRC.out.2.2.2 (by omega)
            have lc := hcc 0 (by omega)
            rw [Nat.add_zero] at lc
            have la := at8_lo c 0
            have ua := at8_hi c 0
            rw [hb2] at l1 hqb1
            rw [hc1] at l2 hqc1
            clear hcc hb2 hc1 db dc
            go_wp2_with fail
            apply share
            case h =>
              intro JN
              have hne := HW.some w1
              have g0 := HW.at l0
              have g1 := HW.at l1
              have g2 := HW.at l2
              have g3 := HW.at lc
              refine wp_region_pick [0, 1, 2, 3, 4, 5, 7, 8, 9, 10, 11, 12] 15 3 1 rfl rfl rfl (by kernel_rfl) (by kernel_rfl) (by kernel_rfl) (by kernel_rfl) ?_
              simp only [opsAt, List.getElem?_toArray, List.getElem?_cons_zero, List.getElem?_cons_succ]
              repeat (go_big_quiet_step (fail))
              refine wpQuiet_nil ?_
              clear g0 g1 g2 g3
              refine wpM_two (i := 6) (j := 14) (by kernel_rfl) ?_ ?_
              · refine mOp_call rfl (by go_simp) 126 _ #[.slice pb 2 qb] (fun w => by go_simp) rfl ?_
                rintro _ ⟨s0, rfl⟩
                refine (l1Get_n pb qb 2 b _ (HRB.out.keep s0.h) HB2.out (by decide)).mono ?_
                rintro e w3 ⟨rfl, hw3⟩
                subst w3
                refine ⟨_, rfl, ⟨⟨_, Below.refl _ _⟩, rfl⟩, ?_⟩
                have hB0 := s0.h
                have hne0 := HW.some (s0.w)
                refine wpM_two (i := 13) (j := 14) (by kernel_rfl) ?_ ?_
                · refine mOp_make rfl (by go_simp) ?_
                  rintro _ ⟨s1, rfl⟩
                  refine ⟨.agg #[.slice pa a.length qa, .int .i64 ((getB b : Nat) : Int), .int .i64 (at8 c 0)], s1.w, by go_simp, ⟨⟨_, Below.refl _ _⟩, rfl⟩, ?_⟩
                  have hB1 := (Below.step hB0 s1.h)
                  have hne1 := HW.some (s1.w)
                  refine wpM_only (i := 14) (by kernel_rfl) ?_
                  refine mOp_make rfl (by go_simp) ?_
                  rintro _ ⟨s2, rfl⟩
                  refine ⟨.pointer (some ⟨s2.w.heap.size, 0, none⟩), s2.w.alloc (.cells #[.slice none 0 0, .int .i64 0, .int .i64 0] 74), by go_simp, ⟨⟨_, alloc_below _ _⟩, rfl⟩, ?_⟩
                  have AA := Arr.new s2.w [.slice none 0 0, .int .i64 0, .int .i64 0] 74
                  have hB2 := Below.step (Below.step hB1 s2.h) (alloc_below s2.w (.cells #[.slice none 0 0, .int .i64 0, .int .i64 0] 74))
                  have GG : w1.heap.size ≤ s2.w.heap.size := Nat.le_trans hB1.size s2.h.size
                  generalize s2.w.heap.size = gg at *
                  generalize s2.w.alloc (.cells #[.slice none 0 0, .int .i64 0, .int .i64 0] 74) = wa at *
                  have hne2 := HW.some (wa)
                  refine wpM_end (by kernel_rfl) rfl (by kernel_rfl) (by decide) ?_
                  rintro _ ⟨sz, rfl⟩
                  simp only [List.drop_succ_cons, List.drop_zero]
                  go_simp
                  replace AA := AA.stay sz.h
                  have BB := Below.step hB2 sz.h
                  generalize sz.w = W at *
                  revert GG
                  revert AA
                  revert BB
                  revert gg
                  revert W
                  exact JN.out
                · refine mOp_make rfl (by go_simp) ?_
                  rintro _ ⟨s1, rfl⟩
                  refine ⟨.pointer (some ⟨s1.w.heap.size, 0, none⟩), s1.w.alloc (.cells #[.slice none 0 0, .int .i64 0, .int .i64 0] 74), by go_simp, ⟨⟨_, alloc_below _ _⟩, rfl⟩, ?_⟩
                  have AA := Arr.new s1.w [.slice none 0 0, .int .i64 0, .int .i64 0] 74
                  have hB1 := Below.step (Below.step hB0 s1.h) (alloc_below s1.w (.cells #[.slice none 0 0, .int .i64 0, .int .i64 0] 74))
                  have GG : w1.heap.size ≤ s1.w.heap.size := Nat.le_trans hB0.size s1.h.size
                  generalize s1.w.heap.size = gg at *
                  generalize s1.w.alloc (.cells #[.slice none 0 0, .int .i64 0, .int .i64 0] 74) = wa at *
                  have hne1 := HW.some (wa)
                  refine wpM_only (i := 13) (by kernel_rfl) ?_
                  refine mOp_make rfl (by go_simp) ?_
                  rintro _ ⟨s2, rfl⟩
                  refine ⟨.agg #[.slice pa a.length qa, .int .i64 ((getB b : Nat) : Int), .int .i64 (at8 c 0)], s2.w, by go_simp, ⟨⟨_, Below.refl _ _⟩, rfl⟩, ?_⟩
                  have hB2 := (Below.step hB1 s2.h)
                  replace AA := AA.stay s2.h
                  have hne2 := HW.some (s2.w)
                  refine wpM_end (by kernel_rfl) rfl (by kernel_rfl) (by decide) ?_
                  rintro _ ⟨sz, rfl⟩
                  simp only [List.drop_succ_cons, List.drop_zero]
                  go_simp
                  replace AA := AA.stay sz.h
                  have BB := Below.step hB2 sz.h
                  generalize sz.w = W at *
                  revert GG
                  revert AA
                  revert BB
                  revert gg
                  revert W
                  exact JN.out
              · refine mOp_make rfl (by go_simp) ?_
                rintro _ ⟨s0, rfl⟩
                refine ⟨.pointer (some ⟨s0.w.heap.size, 0, none⟩), s0.w.alloc (.cells #[.slice none 0 0, .int .i64 0, .int .i64 0] 74), by go_simp, ⟨⟨_, alloc_below _ _⟩, rfl⟩, ?_⟩
                have AA := Arr.new s0.w [.slice none 0 0, .int .i64 0, .int .i64 0] 74
                have hB0 := Below.step s0.h (alloc_below s0.w (.cells #[.slice none 0 0, .int .i64 0, .int .i64 0] 74))
                have GG : w1.heap.size ≤ s0.w.heap.size := s0.h.size
                generalize s0.w.heap.size = gg at *
                generalize s0.w.alloc (.cells #[.slice none 0 0, .int .i64 0, .int .i64 0] 74) = wa at *
                have hne0 := HW.some (wa)
                refine wpM_only (i := 6) (by kernel_rfl) ?_
                refine mOp_call rfl (by go_simp) 126 _ #[.slice pb 2 qb] (fun w => by go_simp) rfl ?_
                rintro _ ⟨s1, rfl⟩
                refine (l1Get_n pb qb 2 b _ (HRB.out.keep (Below.step hB0 s1.h)) HB2.out (by decide)).mono ?_
                rintro e w3 ⟨rfl, hw3⟩
                subst w3
                refine ⟨_, rfl, ⟨⟨_, Below.refl _ _⟩, rfl⟩, ?_⟩
                have hB1 := (Below.step hB0 s1.h)
                replace AA := AA.stay s1.h
                have hne1 := HW.some (s1.w)
                refine wpM_only (i := 13) (by kernel_rfl) ?_
                refine mOp_make rfl (by go_simp) ?_
                rintro _ ⟨s2, rfl⟩
                refine ⟨.agg #[.slice pa a.length qa, .int .i64 ((getB b : Nat) : Int), .int .i64 (at8 c 0)], s2.w, by go_simp, ⟨⟨_, Below.refl _ _⟩, rfl⟩, ?_⟩
                have hB2 := (Below.step hB1 s2.h)
                replace AA := AA.stay s2.h
                have hne2 := HW.some (s2.w)
                refine wpM_end (by kernel_rfl) rfl (by kernel_rfl) (by decide) ?_
                rintro _ ⟨sz, rfl⟩
                simp only [List.drop_succ_cons, List.drop_zero]
                go_simp
                replace AA := AA.stay sz.h
                have BB := Below.step hB2 sz.h
                generalize sz.w = W at *
                revert GG
                revert AA
                revert BB
                revert gg
                revert W
                exact JN.out
            intro W gg BB AA GG
            replace R := R.stay BB
            replace BW := Below.step BW BB
            have HOA2 := HOA.out.stay BB
            have a0 := (AA.cell 0).trans (show _ = some _ from rfl)
            have a1 := (AA.cell 1).trans (show _ = some _ from rfl)
            have a2 := (AA.cell 2).trans (show _ = some _ from rfl)
            have fa := AA.frozen
            have hgg : Hid (w.heap.size + 1 ≤ gg) := Nat.le_trans hz1.out GG
            have L2 := ((AA.set 0 (.slice pa a.length qa)).set 1 (.int .i64 ((getB b : Nat) : Int))).set 2 (.int .i64 (at8 c 0))
            have R2 := ((R.setOther (a := ⟨gg, 0, none⟩) (by have := hgg.out; show w.heap.size ≠ gg; omega) (.slice pa a.length qa)).setOther (a := ⟨gg, 1, none⟩) (by have := hgg.out; show w.heap.size ≠ gg; omega) (.int .i64 ((getB b : Nat) : Int))).setOther (a := ⟨gg, 2, none⟩) (by have := hgg.out; show w.heap.size ≠ gg; omega) (.int .i64 (at8 c 0))
            have hng : ∀ k, (Value.slice pa a.length qa).ownBlock = some k → some gg ≠ some k := fun k hk e => by cases e; have := HOA.out.lt gg hk; omega
            have K2 : Own (((W.setCell ⟨gg, 0, none⟩ (.slice pa a.length qa)).setCell ⟨gg, 1, none⟩ (.int .i64 ((getB b : Nat) : Int))).setCell ⟨gg, 2, none⟩ (.int .i64 (at8 c 0))) (w.heap.size + 1) (.slice pa a.length qa) a := ((HOA2.other (grownS W gg 0 _) hng).other (grownS _ gg 1 _) hng).other (grownS _ gg 2 _) hng
            have B2 := ((BW.setCell (p := ⟨gg, 0, none⟩) (by have := hgg.out; show w.heap.size ≤ gg; omega) (.slice pa a.length qa)).setCell (p := ⟨gg, 1, none⟩) (by have := hgg.out; show w.heap.size ≤ gg; omega) (.int .i64 ((getB b : Nat) : Int))).setCell (p := ⟨gg, 2, none⟩) (by have := hgg.out; show w.heap.size ≤ gg; omega) (.int .i64 (at8 c 0))
            clear R BW HOA2 AA BB c0 c1 c2 fz l0 l1 l2 lc
            generalize e2 : ((W.setCell ⟨gg, 0, none⟩ (.slice pa a.length qa)).setCell ⟨gg, 1, none⟩ (.int .i64 ((getB b : Nat) : Int))).setCell ⟨gg, 2, none⟩ (.int .i64 (at8 c 0)) = W2 at *
            have HH3 : Hid (h3 [a, b, c] = if hfC (a, ((getB b : Nat) : Int), at8 c 0) = 0 then some (a, ((getB b : Nat) : Int), at8 c 0) else none) := by
              show (if b.length = 2 ∧ c.length = 1 ∧ hfC (a, ((getB b : Nat) : Int), at8 c 0) = 0 then some (a, ((getB b : Nat) : Int), at8 c 0) else none) = _
              by_cases hf : hfC (a, ((getB b : Nat) : Int), at8 c 0) = 0
              · rw [if_pos ⟨HB2.out, HC1.out, hf⟩, if_pos hf]
              · rw [if_neg (fun h => hf h.2.2), if_neg hf]
            have KF : Hid (∀ V, Below W2.heap.size W2 V → Calls Tryz.prog 127 #[.pointer (some ⟨gg, 0, none⟩)] V fun e w' => e = .returned (.int .i64 (hfC (a, ((getB b : Nat) : Int), at8 c 0))) ∧ w' = V) := fun V hV => l10Fault_c gg (a, ((getB b : Nat) : Int), at8 c 0) pa qa V (fun i u hu => ((L2.stay hV).cell i).trans hu)
            have HL2 : Hid (Arr W2 gg 74 [.slice pa a.length qa, .int .i64 ((getB b : Nat) : Int), .int .i64 (at8 c 0)]) := L2
            have HK2 : Hid (Own W2 (w.heap.size + 1) (.slice pa a.length qa) a) := K2
            have HBW2 : Hid (Below w.heap.size w W2) := B2
            have HR2 : Hid (Arr W2 w.heap.size 74 [.slice none 0 0, .int .i64 0, .int .i64 0]) := R2
            clear L2 K2 B2 R2
            go_wp2_with fail
            clear e2 a0 a1 a2 fa
            have m0 := (HL2.out.cell 0).trans (show _ = some _ from rfl)
            have m1 := (HL2.out.cell 1).trans (show _ = some _ from rfl)
            have m2 := (HL2.out.cell 2).trans (show _ = some _ from rfl)
            have c0 := (HR2.out.cell 0).trans (show _ = some _ from rfl)
            have c1 := (HR2.out.cell 1).trans (show _ = some _ from rfl)
            have c2 := (HR2.out.cell 2).trans (show _ = some _ from rfl)
            have fz := HR2.out.frozen
            by_cases hf : hfC (a, ((getB b : Nat) : Int), at8 c 0) = 0
            · have HS : Hid (huR body = some (a, ((getB b : Nat) : Int), at8 c 0)) := by show _ = _; rw [HU.out, HH3.out, if_pos hf]
              have df : (hfC (a, ((getB b : Nat) : Int), at8 c 0) == 0) = true := by rw [beq_iff_eq]; exact hf
              clear hf
              go_region_with (go_at_call 127; refine (KF.out _ (by first | exact (Below.refl _ _).drew | exact Below.refl _ _)).mono ?_; rintro e w3 ⟨rfl, hw3⟩; subst w3)
              all_goals go_wp2_with fail
              all_goals exact bodyPost_ret (v := .tuple #[.agg #[.slice pa a.length qa, .int .i64 ((getB b : Nat) : Int), .int .i64 (at8 c 0)], .bool true]) (by simp [results, Tryz.results80, go_sem, c0, c1, c2]) rfl (HQ.out _ _ ⟨_, _, _, by rw [HS.out]; rfl, (fun _ => by rw [HS.out]; exact ⟨((((HK2.out.stay (Below.refl _ _).drew).set (Nat.lt_succ_self _) _).set (Nat.lt_succ_self _) _).set (Nat.lt_succ_self _) _).lower (Nat.le_succ _), rfl, rfl⟩), ⟨_, _, _, rfl⟩, ((((Below.step HBW2.out (Below.refl _ _).drew).setCell (Nat.le_refl _) _).setCell (Nat.le_refl _) _).setCell (Nat.le_refl _) _)⟩)
            · have HN : Hid (huR body = none) := by show _ = _; rw [HU.out, HH3.out, if_neg hf]
              have df : (hfC (a, ((getB b : Nat) : Int), at8 c 0) == 0) = false := by rw [beq_eq_false_iff_ne]; exact hf
              clear hf
              go_region_with (go_at_call 127; refine (KF.out _ (by first | exact (Below.refl _ _).drew | exact Below.refl _ _)).mono ?_; rintro e w3 ⟨rfl, hw3⟩; subst w3)
              all_goals go_wp2_with fail
              all_goals exact bodyPost_ret (v := .tuple #[.agg #[.slice pa a.length qa, .int .i64 ((getB b : Nat) : Int), .int .i64 (at8 c 0)], .bool false]) (by simp [results, Tryz.results80, go_sem, c0, c1, c2]) rfl (HQ.out _ _ ⟨_, _, _, by rw [HN.out]; rfl, (fun h => by rw [HN.out] at h; cases h), ⟨_, _, _, rfl⟩, ((((Below.step HBW2.out (Below.refl _ _).drew).setCell (Nat.le_refl _) _).setCell (Nat.le_refl _) _).setCell (Nat.le_refl _) _)⟩)
          · have dc : ((c.length : Int) != 1) = true := by rw [bne_iff_ne]; omega
            have HN : Hid (huR body = none) := by show _ = _; rw [HU.out, h3]; exact if_neg (fun h => hc1 h.2.1)
            clear hb2 hc1 R
            go_wp2_with fail
            exact bodyPost_ret (v := .tuple #[.agg #[.slice none 0 0, .int .i64 0, .int .i64 0], .bool false]) (by simp [results, Tryz.results80, go_sem, c0, c1, c2]) rfl (HQ.out _ _ ⟨_, _, _, by rw [HN.out]; rfl, (fun h => by rw [HN.out] at h; cases h), ⟨_, _, _, rfl⟩, (((BW.setCell (Nat.le_refl _) _).setCell (Nat.le_refl _) _).setCell (Nat.le_refl _) _)⟩)
        · have db : ((b.length : Int) != 2) = true := by rw [bne_iff_ne]; omega
          have HN : Hid (huR body = none) := by show _ = _; rw [HU.out, h3]; exact if_neg (fun h => hb2 h.1)
          clear hb2 R
          go_wp2_with fail
          exact bodyPost_ret (v := .tuple #[.agg #[.slice none 0 0, .int .i64 0, .int .i64 0], .bool false]) (by simp [results, Tryz.results80, go_sem, c0, c1, c2]) rfl (HQ.out _ _ ⟨_, _, _, by rw [HN.out]; rfl, (fun h => by rw [HN.out] at h; cases h), ⟨_, _, _, rfl⟩, (((BW.setCell (Nat.le_refl _) _).setCell (Nat.le_refl _) _).setCell (Nat.le_refl _) _)⟩)
    · have HN : Hid (huR body = none) := by
        show _ = _
        rw [HU.out]
        match bl, hl3 with
        | [], _ => rfl
        | [_], _ => rfl
        | [_, _], _ => rfl
        | [_, _, _], h => exact absurd rfl h
        | _ :: _ :: _ :: _ :: _, _ => rfl
      have d3 : ((bl.length : Int) != 3) = true := by rw [bne_iff_ne]; omega
      clear hl3 HU
      go_enter Tryz.func80, Tryz.ntmps80
      go_wp2_with fail
      refine KS.mono ?_
      rintro e w1 ⟨v, rfl, ⟨xs, fp, ho⟩, hb1⟩
      obtain ⟨pv, qv, rfl, -⟩ := ho.rd
      replace R := R.stay hb1
      replace BW := Below.step BW hb1
      have c0 := (R.cell 0).trans (show _ = some _ from rfl)
      have c1 := (R.cell 1).trans (show _ = some _ from rfl)
      have c2 := (R.cell 2).trans (show _ = some _ from rfl)
      have fz := R.frozen
      clear R hb1 ho
      go_wp2_with fail
      exact bodyPost_ret (v := .tuple #[.agg #[.slice none 0 0, .int .i64 0, .int .i64 0], .bool false]) (by simp [results, Tryz.results80, go_sem, c0, c1, c2]) rfl (HQ.out _ _ ⟨_, _, _, by rw [HN.out]; rfl, (fun h => by rw [HN.out] at h; cases h), ⟨_, _, _, rfl⟩, (((BW.setCell (Nat.le_refl _) _).setCell (Nat.le_refl _) _).setCell (Nat.le_refl _) _)⟩)
end Go.Proofs.YtiabacnmmojfjabGreatDoor

/- UnpackHello of the specification, at every argument. What was there stays. -/
namespace Go.Proofs.YtiabacnmmojfjabGreatDoor
open Go.ChangeShapes Go.WideShapes Go.ChangeAt Go.RowKit

theorem helloR_own {w : World} {B : Nat} {c : Int} {h : HelloD} {u : Value} (k : Own w B u h.1) : helloResultC.own w B (c, h) [.int .i64 c, u, .int .i64 h.2.1, .int .i64 h.2.2] ([] ++ (u.ownBlock.toList ++ ([] ++ []))) :=
  own_pair 0 own_int (hello_own k) lt_nil (fun _ _ => Nat.zero_le _)
set_option maxRecDepth 4000 in
set_option maxHeartbeats 1000000 in
theorem specUh_k (k : Int) (m : MsgD) (us : List Value) (w : World) (r : msgC.rep w m us) :
    Calls Tryz.prog 38 #[.int .i64 k, .agg us.toArray] w fun e w' => ∃ us fp, e = .returned (.agg us.toArray) ∧ helloResultC.own w' w.heap.size (uhD k m) us fp ∧ Below w.heap.size w w' := by
  obtain ⟨p, q, rfl, rr⟩ := msg_rep r
  have HR : Hid (Rd w p q m.2) := rr
  have hq1 : m.2.length ≤ q := rr.1
  have hq2 : q ≤ 2 ^ 63 - 1 := rr.2.1
  have BW := Below.mk (alloc_below w (.cells #[.int .i64 m.1, .slice p m.2.length q] 53)) (.cells #[.int .i64 0, .slice none 0 0, .int .i64 0, .int .i64 0] 76)
  have A := (Arr.new w [.int .i64 m.1, .slice p m.2.length q] 53).old _ (.cells #[.int .i64 0, .slice none 0 0, .int .i64 0, .int .i64 0] 76)
  have R := Arr.new (w.alloc (.cells #[.int .i64 m.1, .slice p m.2.length q] 53)) [.int .i64 0, .slice none 0 0, .int .i64 0, .int .i64 0] 76
  rw [size_alloc] at R
  clear r rr
  have KF := l6Fault_c w.heap.size 0 m.2.length q p m.1 _ ((A.cell 0).trans (show _ = some _ from rfl)) ((A.cell 1).trans (show _ = some _ from rfl))
  cases hk : hkB k
  · have HE : Hid (uhD k m = (3, zeroH)) := by show _ = _; unfold uhD uhC; simp [hk]
    go_enter Tryz.func38, Tryz.ntmps38
    go_wp2_with fail
    refine (l10Kind_c k _).mono ?_
    rintro e w1 ⟨rfl, hw⟩
    subst w1
    rw [hk]
    clear R A
    go_wp2_with fail
    exact bodyPost_ret (v := .agg #[.int .i64 3, .slice none 0 0, .int .i64 0, .int .i64 0]) (by simp [results, Tryz.results38, go_sem]) rfl ⟨[.int .i64 3, .slice none 0 0, .int .i64 0, .int .i64 0], _, rfl, by rw [HE.out]; exact helloR_own (h := zeroH) (Own_nil _ _), Below.mk (alloc_below _ _) _⟩
  · by_cases hc : faultW m.1 m.2.length = 0
    · rw [hc] at KF
      have hm160 := (faultW_zero hc).2
      by_cases hmk : m.1 = k
      · have dk : (m.1 != k) = false := by rw [bne_eq_false_iff_eq]; exact hmk
        have KU := l10Unpack_c p q m.2 _ (HR.out.keep BW) (by omega)
        have hz : Hid (((w.alloc (.cells #[.int .i64 m.1, .slice p m.2.length q] 53)).alloc (.cells #[.int .i64 0, .slice none 0 0, .int .i64 0, .int .i64 0] 76)).heap.size = w.heap.size + 2) := by show _ = _; rw [size_alloc, size_alloc]
        rw [hz.out] at KU
        have a0 := (A.cell 0).trans (show _ = some _ from rfl)
        have a1 := (A.cell 1).trans (show _ = some _ from rfl)
        have HEN : Hid ((huR m.2).isSome = false → uhD k m = (5, zeroH)) := fun h => by have e : uhC k m = 5 := (by unfold uhC; rw [hk, if_pos rfl, if_pos hc, if_pos hmk, h]; rfl); unfold uhD; rw [e]; rfl
        have HES : Hid ((huR m.2).isSome = true → uhD k m = (0, (huR m.2).getD zeroH)) := fun h => by have e : uhC k m = 0 := (by unfold uhC; rw [hk, if_pos rfl, if_pos hc, if_pos hmk, h]; rfl); unfold uhD; rw [e]; rfl
        clear hc hmk
        go_enter Tryz.func38, Tryz.ntmps38
        go_wp2_with fail
        refine (l10Kind_c k _).mono ?_
        rintro e w1 ⟨rfl, hw⟩
        subst w1
        rw [hk]
        go_wp2_with fail
        refine KF.mono ?_
        rintro e w1 ⟨rfl, hw⟩
        subst w1
        go_wp2_with fail
        refine KU.mono ?_
        rintro e w2 ⟨u2, s2, k2, rfl, hO, ⟨pu, nu, qu, rfl⟩, hb2⟩
        rw [← hz.out] at hb2
        replace R := R.stay hb2
        replace BW := Below.step BW hb2
        have hz2 : Hid (w.heap.size + 2 ≤ w2.heap.size) := by have h := hb2.size; rw [hz.out] at h; exact h
        have L := alloc_below w2 (.cells #[.slice pu nu qu, .int .i64 s2, .int .i64 k2] 74)
        replace R := R.stay L
        replace BW := Below.step BW L
        cases hs : (huR m.2).isSome
        · have HE : Hid (uhD k m = (5, zeroH)) := HEN.out hs
          rw [hs] at *
          clear hO hb2 HEN HES KU KF a0 a1
          have c0 := (R.cell 0).trans (show _ = some _ from rfl)
          have c1 := (R.cell 1).trans (show _ = some _ from rfl)
          have c2 := (R.cell 2).trans (show _ = some _ from rfl)
          have c3 := (R.cell 3).trans (show _ = some _ from rfl)
          have fc := R.frozen
          clear R A
          go_wp2_with fail
          exact bodyPost_ret (v := .agg #[.int .i64 5, .slice none 0 0, .int .i64 0, .int .i64 0]) (by simp [results, Tryz.results38, go_sem, c0, c1, c2, c3]) rfl ⟨[.int .i64 5, .slice none 0 0, .int .i64 0, .int .i64 0], _, rfl, by rw [HE.out]; exact helloR_own (h := zeroH) (Own_nil _ _), ((((BW.setCell (Nat.le_succ _) _).setCell (Nat.le_succ _) _).setCell (Nat.le_succ _) _).setCell (Nat.le_succ _) _)⟩
        · have HE : Hid (uhD k m = (0, (huR m.2).getD zeroH)) := HES.out hs
          obtain ⟨hO1, rfl, rfl⟩ := hO hs
          rw [hs] at *
          have HO : Hid (Own _ (w.heap.size + 2) (.slice pu nu qu) ((huR m.2).getD zeroH).1) := hO1.stay L
          clear hb2 HEN HES KU KF a0 a1 hO1 hO L
          have c0 := (R.cell 0).trans (show _ = some _ from rfl)
          have c1 := (R.cell 1).trans (show _ = some _ from rfl)
          have c2 := (R.cell 2).trans (show _ = some _ from rfl)
          have c3 := (R.cell 3).trans (show _ = some _ from rfl)
          have fc := R.frozen
          clear R A
          go_wp2_with fail
          exact bodyPost_ret (v := .agg #[.int .i64 0, .slice pu nu qu, .int .i64 ((huR m.2).getD zeroH).2.1, .int .i64 ((huR m.2).getD zeroH).2.2]) (by simp [results, Tryz.results38, go_sem, c0, c1, c2, c3]) rfl ⟨[.int .i64 0, .slice pu nu qu, .int .i64 ((huR m.2).getD zeroH).2.1, .int .i64 ((huR m.2).getD zeroH).2.2], _, rfl, by rw [HE.out]; exact helloR_own (((((HO.out.set (Nat.lt_succ_self _) _).set (Nat.lt_succ_self _) _).set (Nat.lt_succ_self _) _).set (Nat.lt_succ_self _) _).lower (Nat.le_add_right _ 2)), ((((BW.setCell (Nat.le_succ _) _).setCell (Nat.le_succ _) _).setCell (Nat.le_succ _) _).setCell (Nat.le_succ _) _)⟩
      · have dk : (m.1 != k) = true := by rw [bne_iff_ne]; exact hmk
        have HE : Hid (uhD k m = (1, zeroH)) := by show _ = _; unfold uhD uhC; simp [hk, hc, hmk]
        have a0 := (A.cell 0).trans (show _ = some _ from rfl)
        clear hc hmk
        go_enter Tryz.func38, Tryz.ntmps38
        go_wp2_with fail
        refine (l10Kind_c k _).mono ?_
        rintro e w1 ⟨rfl, hw⟩
        subst w1
        rw [hk]
        go_wp2_with fail
        refine KF.mono ?_
        rintro e w1 ⟨rfl, hw⟩
        subst w1
        clear R A
        go_wp2_with fail
        exact bodyPost_ret (v := .agg #[.int .i64 1, .slice none 0 0, .int .i64 0, .int .i64 0]) (by simp [results, Tryz.results38, go_sem]) rfl ⟨[.int .i64 1, .slice none 0 0, .int .i64 0, .int .i64 0], _, rfl, by rw [HE.out]; exact helloR_own (h := zeroH) (Own_nil _ _), Below.mk (alloc_below _ _) _⟩
    · have HE : Hid (uhD k m = (faultW m.1 m.2.length, zeroH)) := by show _ = _; unfold uhD uhC; simp [hk, hc]
      have hne : (faultW m.1 m.2.length != 0) = true := by rw [bne_iff_ne]; exact hc
      clear hc
      generalize faultW m.1 m.2.length = ac at *
      go_enter Tryz.func38, Tryz.ntmps38
      go_wp2_with fail
      refine (l10Kind_c k _).mono ?_
      rintro e w1 ⟨rfl, hw⟩
      subst w1
      rw [hk]
      go_wp2_with fail
      refine KF.mono ?_
      rintro e w1 ⟨rfl, hw⟩
      subst w1
      clear R A
      go_wp2_with fail
      exact bodyPost_ret (v := .agg #[.int .i64 ac, .slice none 0 0, .int .i64 0, .int .i64 0]) (by simp [results, Tryz.results38, go_sem]) rfl ⟨[.int .i64 ac, .slice none 0 0, .int .i64 0, .int .i64 0], _, rfl, by rw [HE.out]; exact helloR_own (h := zeroH) (Own_nil _ _), Below.mk (alloc_below _ _) _⟩
end Go.Proofs.YtiabacnmmojfjabGreatDoor

/- The contract of UnpackBlocks in the program (PackBlocks': WireP.lean): code and blocks, at every argument. What was there stays. -/
namespace Go.Proofs.YtiabacnmmojfjabGreatDoor
open Go.ChangeShapes Go.WideShapes Go.ChangeAt Go.RowKit

theorem numAt_drop (data : List UInt8) (k : Nat) : numAt (data.drop k) 0 = numAt data k := by simp [numAt, List.getD_eq_getElem?_getD]
theorem blkAt_drop (data : List UInt8) (k : Nat) : blkAt (data.drop k) 0 = blkAt data k := by unfold blkAt; rw [numAt_drop, List.drop_drop, Nat.zero_add]
set_option maxRecDepth 4000 in
set_option maxHeartbeats 2000000 in
theorem implUB_c (data : List UInt8) (p : Option Addr) (q : Nat) (w : World) (hr : Rd w p q data) :
    Calls Tryz.prog 191 #[.slice p data.length q] w fun e w' => ∃ v, e = .returned (.agg #[.int .i64 (ubC data), v]) ∧ (∃ xs fp, OwnL 22 bytC w' w.heap.size v (ubL data) xs fp) ∧ Below w.heap.size w w' := by
  have A0 := Arr.new w [.int .i64 0, .slice none 0 0] 204
  have B0 := alloc_below w (.cells #[.int .i64 0, .slice none 0 0] 204)
  by_cases hd : data.length ≤ 160
  · have hdI : ¬ (160 < (data.length : Int)) := by omega
    have HR : Hid (Rd w p q data) := hr
    have hq1 : data.length ≤ q := hr.1
    have hq2 : q ≤ 2 ^ 63 - 1 := hr.2.1
    obtain ⟨fin, HF⟩ : ∃ fin, Hid (fin = splitR data 0 []) := ⟨_, rfl⟩
    have HZ : Hid ((fin = none → ubC data = 5 ∧ ubL data = []) ∧ ∀ r, fin = some r → ubC data = 0 ∧ ubL data = r) :=
      ⟨fun e => ubC_none hd (by rw [← HF.out, e]), fun r e => ubC_some hd (by rw [← HF.out, e])⟩
    clear hr
    go_enter Tryz.func191, Tryz.ntmps191
    go_wp2_with fail
    go_loopw [3, 4] (fun v i wr => ∃ (at_ : Nat) (out : List BlkD) (xs : List Value) (fp : List Nat), at_ ≤ data.length ∧ i = .int .i64 at_ ∧ OwnL 22 bytC wr (w.heap.size + 1) v out xs fp ∧ out.length ≤ 8 ∧ fin = splitR data at_ out ∧ Arr wr w.heap.size 204 [.int .i64 0, .slice none 0 0] ∧ Below w.heap.size w wr)
      (fun _ i _ => data.length - (intOf i).toNat)
    case atStart => exact ⟨0, [], [], [], Nat.zero_le _, rfl, nil_ownB _ _, by decide, HF.out, A0, B0⟩
    case round =>
      clear A0 B0 HF
      obtain ⟨at_, out, xs, fp, hat, rfl, ho, hol, hfin, A, BW⟩ := hrel
      have HFN : Hid (fin = splitR data at_ out) := hfin
      clear hfin
      obtain ⟨po, qo, rfl, hord⟩ := ho.rd
      have hqo1 : out.length ≤ qo := hord.1
      have hqo2 : qo ≤ 2 ^ 63 - 1 := hord.2.1
      by_cases hlt : at_ < data.length
      · have hI : (at_ : Int) < (data.length : Int) := by omega
        obtain ⟨b, o, e1, -⟩ := (HR.out.keep BW).2.2.2 (by omega)
        have HPE : Hid (p = some ⟨b, o, none⟩) := e1
        rw [HPE.out]
        have hqa : ¬ (q = at_) := by omega
        have hdl : Hid ((data.drop at_).length = data.length - at_) := List.length_drop
        have HD : Hid (Rd wr (some ⟨b, o + at_, none⟩) (q - at_) (data.drop at_)) := by
          have h := HR.out.keep BW
          rw [HPE.out] at h
          have hcut := h.cut at_ (data.length - at_) (q - at_) (by omega) (by omega) (by have := HR.out.2.1; omega)
          rw [List.take_of_length_le (by rw [hdl.out]; omega)] at hcut
          exact hcut
        clear hord e1
        by_cases h2 : 120 < numAt data at_ ∨ data.length - at_ - 1 < numAt data at_
        · have HE : Hid (fin = none) := by show _ = _; rw [HFN.out, splitR_none hlt (by omega)]
          have K : Hid (Calls Tryz.prog 207 #[.slice (some ⟨b, o + at_, none⟩) (data.length - at_) (q - at_)] wr fun e w' => e = .returned (.tuple #[.slice none 0 0, .bool false]) ∧ Below wr.heap.size wr w') := by
            have h := firstBlock_no b (o + at_) (q - at_) (data.drop at_) wr HD.out (by rw [hdl.out]; omega) (by rw [numAt_drop, hdl.out]; exact h2)
            rw [hdl.out] at h
            exact h
          clear HD HFN hdl h2
          go_wp2_with fail
          refine K.out.mono ?_
          rintro e w2 ⟨rfl, hb⟩
          have A2 := A.stay hb
          have B2 := Below.step BW hb
          have c0 := A2.cell 0
          have c1 := A2.cell 1
          have fz := A2.frozen
          simp at c0 c1
          clear A A2 BW K hb ho
          go_wp2_with fail
          exact bodyPost_ret (v := .agg #[.int .i64 5, .slice none 0 0]) (by simp [results, Tryz.results191, go_sem, c0, c1]) rfl ⟨_, by rw [(HZ.out.1 HE.out).1], ⟨_, _, by rw [(HZ.out.1 HE.out).2]; exact nil_ownB _ _⟩, (B2.setCell (Nat.le_refl _) _).setCell (Nat.le_refl _) _⟩
        · have K : Hid (Calls Tryz.prog 207 #[.slice (some ⟨b, o + at_, none⟩) (data.length - at_) (q - at_)] wr fun e w' => ∃ u, e = .returned (.tuple #[u, .bool true]) ∧ Own w' wr.heap.size u (blkAt data at_) ∧ Below wr.heap.size wr w') := by
            have h := firstBlock_ok b (o + at_) (q - at_) (data.drop at_) wr HD.out (by rw [hdl.out]; omega) (by rw [numAt_drop, hdl.out]; exact h2)
            rw [hdl.out, blkAt_drop] at h
            exact h
          have HBL : Hid ((blkAt data at_).length = numAt data at_) := by show _ = _; unfold blkAt; rw [List.length_take, List.length_drop]; omega
          have HNX : Hid (at_ + 1 + numAt data at_ ≤ data.length) := by show _ ≤ _; omega
          have hnI : ((numAt data at_ : Nat) : Int) ≤ 160 := by omega
          by_cases h8 : out.length = 8
          · have h8I : ((out.length : Int) == 8) = true := by rw [beq_iff_eq]; omega
            have HE : Hid (fin = none) := by show _ = _; rw [HFN.out, splitR_none hlt (by omega)]
            clear HD HFN hdl h2 h8
            generalize blkAt data at_ = body at *
            generalize numAt data at_ = n at *
            go_wp2_with fail
            refine K.out.mono ?_
            rintro e w2 ⟨u2, rfl, -, hb⟩
            have A2 := A.stay hb
            have B2 := Below.step BW hb
            have c0 := A2.cell 0
            have c1 := A2.cell 1
            have fz := A2.frozen
            simp at c0 c1
            clear A A2 BW K hb ho
            go_wp2_with fail
            exact bodyPost_ret (v := .agg #[.int .i64 5, .slice none 0 0]) (by simp [results, Tryz.results191, go_sem, c0, c1]) rfl ⟨_, by rw [(HZ.out.1 HE.out).1], ⟨_, _, by rw [(HZ.out.1 HE.out).2]; exact nil_ownB _ _⟩, (B2.setCell (Nat.le_refl _) _).setCell (Nat.le_refl _) _⟩
          · have h8I : ((out.length : Int) == 8) = false := by rw [beq_eq_false_iff_ne]; omega
            have HN : Hid (fin = splitR data (at_ + 1 + numAt data at_) (out ++ [blkAt data at_])) := by show _ = _; rw [HFN.out, splitR_next hlt (by omega)]
            have HOL : Hid ((out ++ [blkAt data at_]).length ≤ 8) := by show _ ≤ _; rw [List.length_append, List.length_singleton]; omega
            clear HD HFN hdl h2 h8
            generalize blkAt data at_ = body at *
            generalize numAt data at_ = n at *
            go_wp2_with fail
            refine K.out.mono ?_
            rintro e w2 ⟨u2, rfl, k2, hb2⟩
            obtain ⟨pv, qv, rfl, -⟩ := k2.rd
            rw [HBL.out] at k2 ⊢
            have hw2 : Hid (wr.heap.size ≤ w2.heap.size) := hb2.size
            have hnew : ∀ j u, [Value.slice pv n qv][j]? = some u → (w2.alloc (.cells #[.slice pv n qv] 22)).cell? ((⟨w2.heap.size, 0, none⟩ : Addr).add j) = some u := fun j u hj => (Arr.new w2 [.slice pv n qv] 22).cells j u hj
            have hb4 := alloc_below w2 (.cells #[.slice pv n qv] 22)
            have k5 := k2.stay hb4
            have hb5 := Below.step hb2 hb4
            have ho5 := ho.stay hb5
            have A5 := A.stay hb5
            have BW5 := Below.step BW hb5
            have hrow5 : Hid ((w2.alloc (.cells #[.slice pv n qv] 22)).ownsRow (w.heap.size + 1) 22 1 (.slice po out.length qo) out.length xs) := ho5.row
            have hlow : Hid (∀ j, (Value.slice pv n qv).ownBlock = some j → wr.heap.size ≤ j) := fun j hj => k5.ge j hj
            have hinsO : Hid (∀ j, j ∈ (Value.slice po out.length qo).ownBlock.toList ++ fp → w.heap.size + 1 ≤ j ∧ j < wr.heap.size) := fun j hj => ho.ins j hj
            have hzA : Hid (w.heap.size < wr.heap.size) := A.lt
            have hz5 : Hid (w.heap.size + 1 ≤ (w2.alloc (.cells #[.slice pv n qv] 22)).heap.size) := by have := A5.lt; show _ ≤ _; omega
            obtain ⟨i0, hi, hz0, hz1, hz2⟩ := info_parts infoBlk
            go_wp2_with (at_builtin; go_loud (refine wpList_append_lies _ rfl (.tmp 30) (.tmp 32) 144 rfl (w.heap.size + 1) 22 i0 (.slice none 0 0) 1 24 Tryz.underlying144 hi hz0 hz1 hz2 rfl (by decide) (.slice po out.length qo) out.length xs rfl hrow5.out ⟨w2.heap.size, 0, none⟩ 1 1 [.slice pv n qv] rfl rfl hnew (by intro u hu; simp at hu; subst hu; rfl) (by decide) (by unfold maxLen; omega) (by omega) hz5.out _ rfl ?_); intro g6 c6 w6 hown6 hgrow6 hat6 hlt6)
            have ka := blk_own_mk (a := body) (k5.lower (B' := w.heap.size + 1) hzA.out)
            have OP := ho5.push ka (fun j hj hj2 => by
              have h1 := hlow.out j (mem_opt.1 hj)
              have h2 := (hinsO.out j hj2).2
              omega) (k := out.length + 1) (v' := .slice (some ⟨g6, 0, none⟩) (out.length + 1) c6) (g := g6) hown6 (by simp) hgrow6 rfl hat6
            have BW6 := BW5.grown hgrow6 BW5.size (fun k hk => by have h := (hinsO.out k (List.mem_append_left _ (mem_opt.2 hk))).1; omega)
            have A6 := A5.other hgrow6 (fun e => by have h := (hinsO.out _ (List.mem_append_left _ (mem_opt.2 e))).1; omega)
            clear ho ho5 k2 k5 hown6 hgrow6 hat6 hnew hrow5 ka BW5 BW hb2 hb4 hb5 A A5 K
            go_roundw
            case rel => exact ⟨at_ + 1 + n, out ++ [body], _, _, HNX.out, by go_num, OP, HOL.out, HN.out, A6, BW6⟩
            case measure => have := HNX.out; simp [intOf]; omega
      · have e : at_ = data.length := by omega
        subst e
        have HE : Hid (fin = some out) := by show _ = _; rw [HFN.out, splitR_end (by omega)]
        have c0 := A.cell 0
        have c1 := A.cell 1
        have fz := A.frozen
        simp at c0 c1
        clear A hord
        go_wp2_with fail
        refine bodyPost_ret (v := .agg #[.int .i64 0, .slice po out.length qo]) (by simp [results, Tryz.results191, go_sem, c0, c1]) rfl ⟨_, by rw [(HZ.out.2 _ HE.out).1], ⟨xs, fp, ?_⟩, (BW.setCell (Nat.le_refl _) _).setCell (Nat.le_refl _) _⟩
        rw [(HZ.out.2 _ HE.out).2]
        refine (ho.fr fun k hk => ?_).low (Nat.le_succ _)
        have h1 := (ho.ins k hk).1
        rw [heap_setCell_other _ _ k _ (by show k ≠ w.heap.size; omega), heap_setCell_other _ _ k _ (by show k ≠ w.heap.size; omega)]
  · have hI : 160 < (data.length : Int) := by omega
    rw [(ubC_many hd).1, (ubC_many hd).2]
    go_enter Tryz.func191, Tryz.ntmps191
    go_wp2
    exact bodyPost_ret (v := .agg #[.int .i64 2, .slice none 0 0]) (by simp [results, Tryz.results191, go_sem]) rfl ⟨_, rfl, ⟨_, _, nil_ownB _ _⟩, alloc_below _ _⟩
end Go.Proofs.YtiabacnmmojfjabGreatDoor

