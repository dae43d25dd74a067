/- Lists of Sign as data (Cod), and the contracts of the laws' helpers on them (written by tools/listgen.py). -/
import Derived.Test.YthiabbgkfmopiaaGreatJoint9
import Derived.Test.YthiabbgkfmopiaaGreatJoint6
import Derived.Test.YthiabbgkfmopiaaGreatJoint11
namespace Go.Proofs.YthiabbgkfmopiaaGreat
open Go.ChangeShapes Go.WideShapes Go.ChangeAt Go.RowKit

abbrev signsC : Cod (List SignD) := listC 106 signC
theorem infoSign : (Tryz.prog.info? 106).map (fun i => (i.zero, i.size, i.bytes)) = some (some (.agg #[.int .i64 0, .int .i64 0, .slice none 0 0]), 3, 40) := by kernel_rfl
def sumSign (l : List SignD) : Nat := (l.map (fun a => a.2.2.length)).sum
def sizeSign (l : List SignD) : Nat := sumSign l + l.length
def bulkSign (l : List SignD) : Nat := sumSign l + 2 * l.length
theorem bulkSign_le8 (l : List SignD) : bulkSign l ≤ 8 * sizeSign l := by unfold bulkSign sizeSign; omega
theorem sumSign_at {l : List SignD} {i : Nat} {a : SignD} (h : l[i]? = some a) : a.2.2.length ≤ sumSign l := by
  have hm := List.mem_of_getElem? h
  have h2 : ∀ l : List SignD, a ∈ l → a.2.2.length ≤ (l.map (fun a : SignD => a.2.2.length)).sum := fun l => by
    induction l with
    | nil => intro h; cases h
    | cons b l ih =>
      intro h
      rw [List.map_cons, List.sum_cons]
      rcases List.mem_cons.1 h with rfl | h
      · omega
      · have := ih h; omega
  exact h2 l hm
theorem sumSign_take {l : List SignD} {k : Nat} {a : SignD} (h : l[k]? = some a) : sumSign (l.take (k + 1)) = sumSign (l.take k) + a.2.2.length := by
  rw [List.take_add_one, h]; simp [sumSign]
theorem sumSign_le (l : List SignD) (k : Nat) : sumSign (l.take k) ≤ sumSign l := by
  conv => rhs; rw [← List.take_append_drop k l]
  unfold sumSign
  rw [List.map_append, List.sum_append]; omega
theorem sign_own {w : World} {B : Nat} {a : SignD} {vs : List Value} {fp : List Nat} (h : signC.own w B a vs fp) : ∃ v, vs = [.int .i64 a.1, .int .i64 a.2.1, v] ∧ Own w B v a.2.2 ∧ fp = v.ownBlock.toList := by
  obtain ⟨us0, ts0, f0, g0, rfl, rfl, _, ⟨rfl, rfl⟩, us1, ts1, f1, g1, rfl, rfl, _, ⟨rfl, rfl⟩, v, rfl, o, rfl⟩ := h
  exact ⟨v, rfl, o, rfl⟩
theorem sign_own_mk {w : World} {B : Nat} {a : SignD} {v : Value} (o : Own w B v a.2.2) : signC.own w B a [.int .i64 a.1, .int .i64 a.2.1, v] v.ownBlock.toList :=
  ⟨[_], _, [], _, rfl, rfl, nodup_opt _, ⟨rfl, rfl⟩, [_], _, [], _, rfl, rfl, nodup_opt _, ⟨rfl, rfl⟩, v, rfl, o, rfl⟩
set_option maxRecDepth 4000 in
set_option maxHeartbeats 1000000 in
theorem toSignS_c (l : List SignD) (p : Option Addr) (q : Nat) (w : World) (hr : RdL signC w p q l) (hl : sizeSign l ≤ 1048576) :
    Calls Tryz.prog 20 #[.slice p l.length q] w fun e w' => ∃ v xs fp, e = .returned v ∧ OwnL 106 signC w' w.heap.size v l xs fp ∧ Below w.heap.size w w' := by
  obtain ⟨i0, hi, hz0, hz1, hz2⟩ := info_parts infoSign
  have HR : Hid (RdL signC w p q l) := hr
  have HL : Hid (sumSign l ≤ 1048576) := by show _ ≤ _; unfold sizeSign at hl; omega
  have hll : l.length ≤ 1048576 := by unfold sizeSign at hl; omega
  clear hr hl
  go_enter Tryz.func20, Tryz.ntmps20
  go_wp2_with (at_make; refine wpList_make_full _ rfl (.tmp 6) (.tmp 6) 33 rfl w.heap.size 106 i0 (.agg #[.int .i64 0, .int .i64 0, .slice none 0 0]) 3 Tryz.underlying33 hi hz0 hz1 .i64 .i64 _ _ l.length rfl rfl rfl rfl (by rw [hz2]; omega) (by unfold maxLen; omega) (Nat.le_refl _) ?_; intro w1 hown hgrow)
  have hb1 : Below w.heap.size w w1 := (Below.refl _ _).grown hgrow (Nat.le_refl _) (fun k hk => by simp at hk)
  obtain ⟨M, HM⟩ : ∃ M, Hid (M = (madeCells (Value.agg #[.int .i64 0, .int .i64 0, .slice none 0 0]).cells (l.length * 3)).toList) := ⟨_, rfl⟩
  rw [← HM.out] at hown
  have hML : Hid (M.length = l.length * 3) := hown.1
  clear hgrow hi hz0 hz1 hz2 HM
  go_loopw [4] (fun i wr => ∃ (k : Nat) (xs : List Value) (fp : List Nat), k ≤ l.length ∧ i = .int .i64 k ∧ wr.ownsRow w.heap.size 106 3 (.slice (some ⟨w.heap.size, 0, none⟩) l.length l.length) l.length (xs ++ M.drop (k * 3)) ∧ OwnAll signC wr (w.heap.size + 1) (l.take k) xs fp ∧ fp.Nodup ∧ Below w.heap.size w wr)
    (fun i _ => l.length - (intOf i).toNat)
  case atStart => exact ⟨0, [], [], Nat.zero_le _, rfl, by simpa using hown, by rw [List.take_zero]; exact ⟨rfl, rfl⟩, List.nodup_nil, hb1⟩
  case round =>
    clear hown hb1
    obtain ⟨k, xs, fp, hk, rfl, hown, hall, hnd, BW⟩ := hrel
    have HX : Hid (xs.length = k * 3) := by show _ = _; have h := hall.len; rw [List.length_take, Nat.min_eq_left hk] at h; exact h
    by_cases hlt : k < l.length
    · have hkI : (k : Int) < (l.length : Int) := by omega
      obtain ⟨b, o, e1, hc⟩ := (HR.out.keep BW).2.2.2 (by omega)
      subst e1
      obtain ⟨a, ha⟩ : ∃ a, l[k]? = some a := ⟨l[k], by simp [hlt]⟩
      obtain ⟨us, hrep, hcell⟩ := hc k a ha
      obtain ⟨pa, qa, rfl, ra⟩ := sign_rep hrep
      have c0 := hcell 0 _ rfl
      have c1 := hcell 1 _ rfl
      have c2 := hcell 2 _ rfl
      rw [show signC.n = 3 from rfl] at c0 c1 c2
      rw [Nat.add_zero] at c0
      obtain ⟨y0, hy0⟩ := row_at HX.out hML.out hlt (show 0 < 3 by decide)
      obtain ⟨y1, hy1⟩ := row_at HX.out hML.out hlt (show 1 < 3 by decide)
      obtain ⟨y2, hy2⟩ := row_at HX.out hML.out hlt (show 2 < 3 by decide)
      have d0 := (World.ownsRow.cellAt hown (k * 3 + 0) (by omega)).trans hy0
      have d1 := (World.ownsRow.cellAt hown (k * 3 + 1) (by omega)).trans hy1
      have d2 := (World.ownsRow.cellAt hown (k * 3 + 2) (by omega)).trans hy2
      rw [Nat.add_zero] at d0
      have fz := World.ownsRow.frozenAt hown
      have hba := sumSign_at ha
      have hsz : Hid (w.heap.size < wr.heap.size) := (World.ownsRow.lt hown w.heap.size rfl).2
      go_wp2_with fail
      refine (toSign_k a _ wr (sign_mk ra) (by have := HL.out; unfold signN; omega)).mono ?_
      rintro e w2 ⟨vs2, fp2, rfl, hoA, hb2⟩
      obtain ⟨v, rfl, ho, rfl⟩ := sign_own hoA
      clear hoA
      have hown2 := ownsRow_fr (w' := w2) hown (fun j hj => by simp [Value.ownBlock] at hj; subst hj; exact hb2.block _ hsz.out)
      have hall2 := hall.fr (w' := w2) (fun j hj => hb2.block j (hall.ins j hj).2)
      have hlow : Hid (∀ j, v.ownBlock = some j → wr.heap.size ≤ j) := fun j hj => ho.ge j hj
      have hins : Hid (∀ j, j ∈ fp → w.heap.size + 1 ≤ j ∧ j < wr.heap.size) := fun j hj => hall.ins j hj
      have BW2 := Below.step BW hb2
      have d0' := (World.ownsRow.cellAt hown2 (k * 3 + 0) (by omega)).trans hy0
      have d1' := (World.ownsRow.cellAt hown2 (k * 3 + 1) (by omega)).trans hy1
      have d2' := (World.ownsRow.cellAt hown2 (k * 3 + 2) (by omega)).trans hy2
      rw [Nat.add_zero] at d0'
      have fz' := World.ownsRow.frozenAt hown2
      obtain ⟨pv, qv, rfl, -⟩ := ho.rd
      have R1 := World.ownsRow.stored hown2 (k * 3) (.int .i64 a.1)
      have R2 := World.ownsRow.stored R1.1 (k * 3 + 1) (.int .i64 a.2.1)
      have R3 := World.ownsRow.stored R2.1 (k * 3 + 2) (.slice pv a.2.2.length qv)
      have HPut := row_put (us := [.int .i64 a.1, .int .i64 a.2.1, .slice pv a.2.2.length qv]) HX.out hML.out hlt rfl
      rw [show ((((xs ++ M.drop (k * 3)).set (k * 3) (.int .i64 a.1)).set (k * 3 + 1) (.int .i64 a.2.1)).set (k * 3 + 2) (.slice pv a.2.2.length qv)) = setList (xs ++ M.drop (k * 3)) (k * 3) [.int .i64 a.1, .int .i64 a.2.1, .slice pv a.2.2.length qv] from rfl, HPut] at R3
      have RB := (((BW2.setCell (p := ⟨w.heap.size, k * 3, none⟩) (Nat.le_refl _) (.int .i64 a.1)).setCell (p := ⟨w.heap.size, k * 3 + 1, none⟩) (Nat.le_refl _) (.int .i64 a.2.1)).setCell (p := ⟨w.heap.size, k * 3 + 2, none⟩) (Nat.le_refl _) (.slice pv a.2.2.length qv))
      have RA := hall2.fr (w' := (((w2.setCell ⟨w.heap.size, k * 3, none⟩ (.int .i64 a.1)).setCell ⟨w.heap.size, k * 3 + 1, none⟩ (.int .i64 a.2.1)).setCell ⟨w.heap.size, k * 3 + 2, none⟩ (.slice pv a.2.2.length qv))) (fun j hj => by
        have h1 := (hins.out j hj).1
        rw [heap_setCell_other _ _ j _ (by show j ≠ w.heap.size; omega), heap_setCell_other _ _ j _ (by show j ≠ w.heap.size; omega), heap_setCell_other _ _ j _ (by show j ≠ w.heap.size; omega)])
      have RO := (((ho.set (a := ⟨w.heap.size, k * 3, none⟩) hsz.out (.int .i64 a.1)).set (a := ⟨w.heap.size, k * 3 + 1, none⟩) hsz.out (.int .i64 a.2.1)).set (a := ⟨w.heap.size, k * 3 + 2, none⟩) hsz.out (.slice pv a.2.2.length qv)).lower (B' := w.heap.size + 1) hsz.out
      have RS := RA.snoc (sign_own_mk RO)
      have hnd2 : Hid ((fp ++ (Value.slice pv a.2.2.length qv).ownBlock.toList).Nodup) := by
        refine List.nodup_append.2 ⟨hnd, nodup_opt _, fun x hx y hy e => ?_⟩
        subst e
        have h1 := (hins.out x hx).2
        have h2 := hlow.out x (mem_opt.1 hy)
        omega
      have hT : Hid (l.take k ++ [a] = l.take (k + 1)) := by show _ = _; rw [List.take_add_one, ha]; rfl
      rw [hT.out] at RS
      clear hown hown2 hall hall2 RA RO R1 R2 d0 d1 d2 fz ho hb2 BW BW2 hc hcell hrep c0 c1 c2 HPut hy0 hy1 hy2
      go_wp2_with fail
      go_roundw
      case rel => exact ⟨k + 1, _, _, by omega, by go_num, R3.1, RS, hnd2.out, RB⟩
      case measure => simp [intOf]; omega
    · have e : k = l.length := by omega
      subst e
      rw [List.take_length] at hall
      rw [show M.drop (l.length * 3) = [] from List.drop_eq_nil_of_le (by rw [hML.out]; exact Nat.le_refl _), List.append_nil] at hown
      have hins := hall.ins
      have hO : OwnL 106 signC wr w.heap.size (.slice (some ⟨w.heap.size, 0, none⟩) l.length l.length) l xs fp := ⟨hown, hall.low (by omega), by
        refine List.nodup_append.2 ⟨nodup_opt _, hnd, fun x hx y hy e => ?_⟩
        subst e
        have h1 := mem_opt.1 hx
        simp [Value.ownBlock] at h1
        have h2 := (hins x hy).1
        omega⟩
      clear hown hall hins hnd
      go_wp2_with fail
      go_ret
      exact ⟨_, _, _, rfl, hO, BW⟩
set_option maxRecDepth 4000 in
set_option maxHeartbeats 1000000 in
theorem eqSignS_c (l : List SignD) (p p2 : Option Addr) (q q2 : Nat) (w : World) (h1 : RdL signC w p q l) (h2 : RdL signC w p2 q2 l) :
    Calls Tryz.prog 31 #[.slice p l.length q, .slice p2 l.length q2] w fun e w' => e = .returned (.bool true) ∧ Below w.heap.size w w' := by
  have HR : Hid (RdL signC w p q l) := h1
  have HR2 : Hid (RdL signC w p2 q2 l) := h2
  have hq1 : l.length ≤ q := h1.1
  have hq2 : q ≤ 2 ^ 63 - 1 := h1.2.1
  clear h1 h2
  go_enter Tryz.func31, Tryz.ntmps31
  go_wp2_with fail
  go_loopw [5] (fun i wr => ∃ k : Nat, k ≤ l.length ∧ i = .int .i64 k ∧ Below w.heap.size w wr)
    (fun i _ => l.length - (intOf i).toNat)
  case atStart => exact ⟨0, Nat.zero_le _, rfl, Below.refl _ _⟩
  case round =>
    obtain ⟨k, hk, rfl, BW⟩ := hrel
    by_cases hlt : k < l.length
    · have hkI : (k : Int) < (l.length : Int) := by omega
      obtain ⟨b, o, e1, hc⟩ := (HR.out.keep BW).2.2.2 (by omega)
      subst e1
      obtain ⟨b2, o2, e2, hc2⟩ := (HR2.out.keep BW).2.2.2 (by omega)
      subst e2
      obtain ⟨a, ha⟩ : ∃ a, l[k]? = some a := ⟨l[k], by simp [hlt]⟩
      obtain ⟨us, hrep, hcell⟩ := hc k a ha
      obtain ⟨pa, qa, rfl, ra⟩ := sign_rep hrep
      obtain ⟨us2, hrep2, hcell2⟩ := hc2 k a ha
      obtain ⟨pb, qb, rfl, rb⟩ := sign_rep hrep2
      have c0 := hcell 0 _ rfl
      have c1 := hcell 1 _ rfl
      have c2 := hcell 2 _ rfl
      have d0 := hcell2 0 _ rfl
      have d1 := hcell2 1 _ rfl
      have d2 := hcell2 2 _ rfl
      rw [show signC.n = 3 from rfl] at c0 c1 c2 d0 d1 d2
      rw [Nat.add_zero] at c0 d0
      clear hc hcell hrep hc2 hcell2 hrep2
      go_wp2_with fail
      replace c0 := HW.at c0
      replace c1 := HW.at c1
      replace c2 := HW.at c2
      replace d0 := HW.at d0
      replace d1 := HW.at d1
      replace d2 := HW.at d2
      have hne := HW.some wr
      refine wp_region_class rfl (by kernel_rfl) ?_
      repeat (go_big_quiet_step ((go_at_call 60; exact Calls.stay (eqSign_k a _ _ _ (sign_mk (ra.keep (HW.h _))) (sign_mk (rb.keep (HW.h _)))))))
      refine wpQuiet_nil ?_
      intro w' hw'
      have BW2 := Below.step BW (HW.out hw')
      clear c0 c1 c2 d0 d1 d2 hne hw' BW
      go_wp2_with fail
      go_roundw
      case rel => exact ⟨k + 1, by omega, by go_num, BW2⟩
      case measure => simp [intOf]; omega
    · go_wp2_with fail
      go_ret
      exact ⟨rfl, BW⟩
set_option maxRecDepth 4000 in
set_option maxHeartbeats 1000000 in
theorem szSignS_c (l : List SignD) (p : Option Addr) (q : Nat) (left : Int) (w : World) (hr : RdL signC w p q l) (h0 : 0 ≤ left) (h1 : left ≤ 1048576) :
    Calls Tryz.prog 11 #[.slice p l.length q, .int .i64 left] w fun e w' => e = .returned (.int .i64 (szR (sizeSign l) left)) ∧ Below w.heap.size w w' := by
  have HR : Hid (RdL signC w p q l) := hr
  have hq1 : l.length ≤ q := hr.1
  have hq2 : q ≤ 2 ^ 63 - 1 := hr.2.1
  have hw : wrap64 (left - (l.length : Int)) = left - l.length := by unfold wrap64; omega
  have HB : Hid (sizeSign l = sumSign l + l.length) := rfl
  clear hr
  by_cases h : (l.length : Int) ≤ left
  case neg =>
    have he : Hid (szR (sizeSign l) left = -1) := by show _ = _; rw [szR, if_neg (by have := HB.out; omega)]
    have h2 : left - (l.length : Int) < 0 := by omega
    go_enter Tryz.func11, Tryz.ntmps11
    go_wp2
    go_ret
    exact ⟨by rw [he.out]; rfl, Below.refl _ _⟩
  case pos =>
    have h2 : ¬ (left - (l.length : Int) < 0) := by omega
    go_enter Tryz.func11, Tryz.ntmps11
    go_wp2
    go_loopw [1, 5] (fun r i wr => ∃ k : Nat, k ≤ l.length ∧ i = .int .i64 k ∧ r = .int .i64 (left - (l.length : Int) - (sumSign (l.take k) : Nat)) ∧ 0 ≤ left - (l.length : Int) - (sumSign (l.take k) : Nat) ∧ Below w.heap.size w wr)
      (fun _ i _ => l.length - (intOf i).toNat)
    case atStart => exact ⟨0, Nat.zero_le _, rfl, by simp [sumSign], by simpa [sumSign] using h2, Below.refl _ _⟩
    case round =>
      obtain ⟨k, hk, rfl, rfl, hnn, BW⟩ := hrel
      by_cases hlt : k < l.length
      · have hkI : (k : Int) < (l.length : Int) := by omega
        obtain ⟨b, o, e1, hc⟩ := (HR.out.keep BW).2.2.2 (by omega)
        subst e1
        obtain ⟨a, ha⟩ : ∃ a, l[k]? = some a := ⟨l[k], by simp [hlt]⟩
        obtain ⟨us, hrep, hcell⟩ := hc k a ha
        obtain ⟨pa, qa, rfl, ra⟩ := sign_rep hrep
        have c0 := hcell 0 _ rfl
        have c1 := hcell 1 _ rfl
        have c2 := hcell 2 _ rfl
        rw [show signC.n = 3 from rfl] at c0 c1 c2
        rw [Nat.add_zero] at c0
        have hT := sumSign_take ha
        have hLe := sumSign_le l (k + 1)
        have hR : Hid (left - (l.length : Int) - (sumSign (l.take k) : Nat) ≤ 1048576) := by show _ ≤ _; omega
        have HS : Hid (sumSign (l.take (k + 1)) ≤ sumSign l) := hLe
        rw [hT] at HS
        clear hLe hc hcell hrep
        generalize hLf : left - (l.length : Int) - (sumSign (l.take k) : Nat) = r at *
        have HLf : Hid (left - (l.length : Int) - (sumSign (l.take k) : Nat) = r) := hLf
        clear hLf
        go_wp2_with fail
        refine (szSign_k a _ r wr (sign_mk ra) hnn hR.out).mono ?_
        rintro e w2 ⟨rfl, hb2⟩
        have BW2 := Below.step BW hb2
        rw [show signN a = a.2.2.length from rfl]
        by_cases hs : (a.2.2.length : Int) ≤ r
        · have e1 : szR a.2.2.length r = r - a.2.2.length := by rw [szR, if_pos hs]
          have hn2 : 0 ≤ r - (a.2.2.length : Int) := by omega
          have hE : Hid (r - (a.2.2.length : Int) = left - (l.length : Int) - (sumSign (l.take (k + 1)) : Nat)) := by show _ = _; have := HLf.out; rw [hT]; omega
          rw [e1]
          clear hT HS HLf c0 c1 c2 hb2 BW
          go_wp2_with fail
          go_roundw
          case rel => exact ⟨k + 1, by omega, by go_num, by rw [hE.out], by rw [← hE.out]; exact hn2, BW2⟩
          case measure => simp [intOf]; omega
        · have e1 : szR a.2.2.length r = -1 := by rw [szR, if_neg hs]
          have he : Hid (szR (sizeSign l) left = -1) := by show _ = _; rw [szR, if_neg (by have := HB.out; have := HS.out; have := HLf.out; omega)]
          rw [e1]
          clear hT HS HLf c0 c1 c2 hb2 BW
          go_wp2_with fail
          go_ret
          exact ⟨by rw [he.out]; rfl, BW2⟩
      · have e : k = l.length := by omega
        subst e
        rw [List.take_length] at hnn ⊢
        have he : Hid (szR (sizeSign l) left = left - (l.length : Int) - (sumSign l : Nat)) := by show _ = _; rw [szR, if_pos (by have := HB.out; omega)]; have := HB.out; omega
        go_wp2_with fail
        go_ret
        exact ⟨by rw [he.out]; rfl, BW⟩
def mkSign : List SignD → Nat → List SignD
  | [], _ => []
  | a :: l, m => (((m : Nat) : Int), ((m : Nat) : Int) + 1, marks (m + 2) a.2.2.length) :: mkSign l (m + 2 + a.2.2.length)
theorem bulkSign_cons (a : SignD) (l : List SignD) : bulkSign (a :: l) = a.2.2.length + 2 + bulkSign l := by simp [bulkSign, sumSign]; omega
theorem bulkSign_append (l r : List SignD) : bulkSign (l ++ r) = bulkSign l + bulkSign r := by simp [bulkSign, sumSign]; omega
theorem mkSign_append : ∀ (l r : List SignD) (m : Nat), mkSign (l ++ r) m = mkSign l m ++ mkSign r (m + bulkSign l)
  | [], r, m => by simp [mkSign, bulkSign, sumSign]
  | a :: l, r, m => by
    rw [List.cons_append, mkSign, mkSign, mkSign_append l r, bulkSign_cons, List.cons_append, show m + 2 + a.2.2.length + bulkSign l = m + (a.2.2.length + 2 + bulkSign l) by omega]
theorem mkSign_len : ∀ (l : List SignD) (m : Nat), (mkSign l m).length = l.length
  | [], _ => rfl
  | a :: l, m => by rw [mkSign, List.length_cons, mkSign_len l, List.length_cons]
theorem mkSign_take {l : List SignD} {k : Nat} {a : SignD} (h : l[k]? = some a) (m : Nat) : mkSign (l.take (k + 1)) m = mkSign (l.take k) m ++ [(((m + bulkSign (l.take k) : Nat) : Int), ((m + bulkSign (l.take k) : Nat) : Int) + 1, marks (m + bulkSign (l.take k) + 2) a.2.2.length)] := by
  rw [List.take_add_one, h, mkSign_append]; rfl
theorem bulkSign_take {l : List SignD} {k : Nat} {a : SignD} (h : l[k]? = some a) : bulkSign (l.take (k + 1)) = bulkSign (l.take k) + a.2.2.length + 2 := by
  rw [List.take_add_one, h, bulkSign_append]; simp [bulkSign, sumSign]; omega
theorem bulkSign_le (l : List SignD) (k : Nat) : bulkSign (l.take k) ≤ bulkSign l := by
  conv => rhs; rw [← List.take_append_drop k l, bulkSign_append]
  omega
theorem mkSign_at {l : List SignD} {k : Nat} {a : SignD} (h : l[k]? = some a) (m : Nat) : (mkSign l m)[k]? = some (((m + bulkSign (l.take k) : Nat) : Int), ((m + bulkSign (l.take k) : Nat) : Int) + 1, marks (m + bulkSign (l.take k) + 2) a.2.2.length) := by
  have hk := (List.getElem?_eq_some_iff.1 h).1
  conv => lhs; rw [← List.take_append_drop k l, drop_at h, mkSign_append]
  rw [List.getElem?_append_right (by rw [mkSign_len, List.length_take]; omega), mkSign_len, List.length_take, Nat.min_eq_left (by omega), Nat.sub_self]
  rfl
end Go.Proofs.YthiabbgkfmopiaaGreat

