/- The contracts of the laws' helpers on lists of bytes, and on answers that hold such a list: toByteSS, szByteSS, eqByteSS, markByteSS, heldByteSS; eqBlocksResult, markBlocksResult, heldBlocksResult. -/
import Derived.Test.YthiabbgkfmopiaaGreatJoint8
import Derived.Test.YthiabbgkfmopiaaGreatJoint6
namespace Go.Proofs.YthiabbgkfmopiaaGreat
open Go.ChangeShapes Go.WideShapes Go.ChangeAt Go.RowKit

abbrev BlkD := List UInt8
theorem blk_rep {w : World} {a : BlkD} {vs : List Value} (h : bytC.rep w a vs) : ∃ p q, vs = [.slice p a.length q] ∧ Rd w p q a := h
theorem blk_own {w : World} {B : Nat} {a : BlkD} {vs : List Value} {fp : List Nat} (h : bytC.own w B a vs fp) : ∃ v, vs = [v] ∧ Own w B v a ∧ fp = v.ownBlock.toList := h
theorem blk_own_mk {w : World} {B : Nat} {a : BlkD} {v : Value} (o : Own w B v a) : bytC.own w B a [v] v.ownBlock.toList := ⟨v, rfl, o, rfl⟩
def sumB (l : List BlkD) : Nat := (l.map List.length).sum
def bulkB (l : List BlkD) : Nat := sumB l + l.length
theorem sumB_take {l : List BlkD} {k : Nat} {a : BlkD} (h : l[k]? = some a) : sumB (l.take (k + 1)) = sumB (l.take k) + a.length := by
  rw [List.take_add_one, h]; simp [sumB]
theorem sumB_append (l r : List BlkD) : sumB (l ++ r) = sumB l + sumB r := by simp [sumB]
theorem sumB_le (l : List BlkD) (k : Nat) : sumB (l.take k) ≤ sumB l := by
  conv => rhs; rw [← List.take_append_drop k l, sumB_append]
  omega
theorem sumB_at {l : List BlkD} {k : Nat} {a : BlkD} (h : l[k]? = some a) : a.length ≤ sumB l := by
  have h1 := sumB_take h
  have h2 := sumB_le l (k + 1)
  omega

theorem infoBlk : (Tryz.prog.info? 51).map (fun i => (i.zero, i.size, i.bytes)) = some (some (.slice none 0 0), 1, 24) := by kernel_rfl
set_option maxRecDepth 4000 in
set_option maxHeartbeats 1000000 in
theorem toByteSS_c (l : List BlkD) (p : Option Addr) (q : Nat) (w : World) (hr : RdL bytC w p q l) (hl : bulkB l ≤ 1048576) :
    Calls Tryz.prog 22 #[.slice p l.length q] w fun e w' => ∃ v xs fp, e = .returned v ∧ OwnL 51 bytC w' w.heap.size v l xs fp ∧ Below w.heap.size w w' := by
  obtain ⟨i0, hi, hz0, hz1, hz2⟩ := info_parts infoBlk
  have HR : Hid (RdL bytC w p q l) := hr
  have HL : Hid (bulkB l ≤ 1048576) := hl
  have hll : l.length ≤ 1048576 := by unfold bulkB at hl; omega
  clear hr hl
  go_enter Tryz.func22, Tryz.ntmps22
  go_wp2_with (at_make; refine wpList_make_full _ rfl (.tmp 6) (.tmp 6) 26 rfl w.heap.size 51 i0 (.slice none 0 0) 1 Tryz.underlying26 hi hz0 hz1 .i64 .i64 _ _ l.length rfl rfl rfl rfl (by rw [hz2]; omega) (by unfold maxLen; omega) (Nat.le_refl _) ?_; intro w1 hown hgrow)
  have hb1 : Below w.heap.size w w1 := (Below.refl _ _).grown hgrow (Nat.le_refl _) (fun k hk => by simp at hk)
  obtain ⟨M, HM⟩ : ∃ M, Hid (M = (madeCells (Value.slice none 0 0).cells (l.length * 1)).toList) := ⟨_, rfl⟩
  rw [← HM.out] at hown
  have hML : Hid (M.length = l.length * 1) := hown.1
  clear hgrow hi hz0 hz1 hz2 HM
  go_loopw [4] (fun i wr => ∃ (k : Nat) (xs : List Value) (fp : List Nat), k ≤ l.length ∧ i = .int .i64 k ∧ wr.ownsRow w.heap.size 51 1 (.slice (some ⟨w.heap.size, 0, none⟩) l.length l.length) l.length (xs ++ M.drop (k * 1)) ∧ OwnAll bytC wr (w.heap.size + 1) (l.take k) xs fp ∧ fp.Nodup ∧ Below w.heap.size w wr)
    (fun i _ => l.length - (intOf i).toNat)
  case atStart => exact ⟨0, [], [], Nat.zero_le _, rfl, by simpa using hown, by rw [List.take_zero]; exact ⟨rfl, rfl⟩, List.nodup_nil, hb1⟩
  case round =>
    clear hown hb1
    obtain ⟨k, xs, fp, hk, rfl, hown, hall, hnd, BW⟩ := hrel
    have HX : Hid (xs.length = k * 1) := by show _ = _; have h := hall.len; rw [List.length_take, Nat.min_eq_left hk] at h; exact h
    by_cases hlt : k < l.length
    · have hkI : (k : Int) < (l.length : Int) := by omega
      obtain ⟨b, o, e1, hc⟩ := (HR.out.keep BW).2.2.2 (by omega)
      subst e1
      obtain ⟨a, ha⟩ : ∃ a, l[k]? = some a := ⟨l[k], by simp [hlt]⟩
      obtain ⟨us, hrep, hcell⟩ := hc k a ha
      obtain ⟨pa, qa, rfl, ra⟩ := blk_rep hrep
      have c0 := hcell 0 _ rfl
      rw [show bytC.n = 1 from rfl, Nat.add_zero, Nat.mul_one] at c0
      obtain ⟨y0, hy0⟩ := row_at HX.out hML.out hlt (show 0 < 1 by decide)
      have hba := sumB_at ha
      have hsz : Hid (w.heap.size < wr.heap.size) := (World.ownsRow.lt hown w.heap.size rfl).2
      go_wp2_with fail
      refine (toByteS_c pa qa a wr ra (by have := HL.out; unfold bulkB at this; omega)).mono ?_
      rintro e w2 ⟨v, rfl, ho, hb2⟩
      have hown2 := ownsRow_fr (w' := w2) hown (fun j hj => by simp [Value.ownBlock] at hj; subst hj; exact hb2.block _ hsz.out)
      have hall2 := hall.fr (w' := w2) (fun j hj => hb2.block j (hall.ins j hj).2)
      have hlow : Hid (∀ j, v.ownBlock = some j → wr.heap.size ≤ j) := fun j hj => ho.ge j hj
      have hins : Hid (∀ j, j ∈ fp → w.heap.size + 1 ≤ j ∧ j < wr.heap.size) := fun j hj => hall.ins j hj
      have BW2 := Below.step BW hb2
      have d0' := (World.ownsRow.cellAt hown2 (k * 1 + 0) (by omega)).trans hy0
      rw [Nat.add_zero, Nat.mul_one] at d0'
      have fz' := World.ownsRow.frozenAt hown2
      obtain ⟨pv, qv, rfl, -⟩ := ho.rd
      have R1 := World.ownsRow.stored hown2 k (.slice pv a.length qv)
      have HPut := row_put (us := [.slice pv a.length qv]) HX.out hML.out hlt rfl
      rw [show (xs ++ M.drop (k * 1)).set k (.slice pv a.length qv) = setList (xs ++ M.drop (k * 1)) (k * 1) [.slice pv a.length qv] by rw [Nat.mul_one]; rfl, HPut] at R1
      have RB := BW2.setCell (p := ⟨w.heap.size, k, none⟩) (Nat.le_refl _) (.slice pv a.length qv)
      have RA := hall2.fr (w' := w2.setCell ⟨w.heap.size, k, none⟩ (.slice pv a.length qv)) (fun j hj => by
        have h1 := (hins.out j hj).1
        rw [heap_setCell_other _ _ j _ (by show j ≠ w.heap.size; omega)])
      have RO := (ho.set (a := ⟨w.heap.size, k, none⟩) hsz.out (.slice pv a.length qv)).lower (B' := w.heap.size + 1) hsz.out
      have RS := RA.snoc (blk_own_mk RO)
      have hnd2 : Hid ((fp ++ (Value.slice pv a.length qv).ownBlock.toList).Nodup) := by
        refine List.nodup_append.2 ⟨hnd, nodup_opt _, fun x hx y hy e => ?_⟩
        subst e
        have h1 := (hins.out x hx).2
        have h2 := hlow.out x (mem_opt.1 hy)
        omega
      have hT : Hid (l.take k ++ [a] = l.take (k + 1)) := by show _ = _; rw [List.take_add_one, ha]; rfl
      rw [hT.out] at RS
      clear hown hown2 hall hall2 RA RO ho hb2 BW BW2 hc hcell hrep c0 HPut hy0
      go_wp2_with fail
      go_roundw
      case rel => exact ⟨k + 1, _, _, by omega, by go_num, R1.1, RS, hnd2.out, RB⟩
      case measure => simp [intOf]; omega
    · have e : k = l.length := by omega
      subst e
      rw [List.take_length] at hall
      rw [show M.drop (l.length * 1) = [] from List.drop_eq_nil_of_le (by rw [hML.out]; exact Nat.le_refl _), List.append_nil] at hown
      have hins := hall.ins
      have hO : OwnL 51 bytC wr w.heap.size (.slice (some ⟨w.heap.size, 0, none⟩) l.length l.length) l xs fp := ⟨hown, hall.low (by omega), by
        refine List.nodup_append.2 ⟨nodup_opt _, hnd, fun x hx y hy e => ?_⟩
        subst e
        have h1 := mem_opt.1 hx
        simp [Value.ownBlock] at h1
        have h2 := (hins x hy).1
        omega⟩
      clear hown hall hins hnd
      go_wp2_with fail
      go_ret
      exact ⟨_, _, _, rfl, hO, BW⟩

set_option maxRecDepth 4000 in
set_option maxHeartbeats 1000000 in
theorem szByteSS_c (l : List BlkD) (p : Option Addr) (q : Nat) (left : Int) (w : World) (hr : RdL bytC w p q l) (h0 : 0 ≤ left) (h1 : left ≤ 1048576) :
    Calls Tryz.prog 13 #[.slice p l.length q, .int .i64 left] w fun e w' => e = .returned (.int .i64 (szR (bulkB l) left)) ∧ Below w.heap.size w w' := by
  have HR : Hid (RdL bytC w p q l) := hr
  have hq1 : l.length ≤ q := hr.1
  have hq2 : q ≤ 2 ^ 63 - 1 := hr.2.1
  have hw : wrap64 (left - (l.length : Int)) = left - l.length := by unfold wrap64; omega
  have HB : Hid (bulkB l = sumB l + l.length) := rfl
  clear hr
  by_cases h : (l.length : Int) ≤ left
  case neg =>
    have he : Hid (szR (bulkB l) left = -1) := by show _ = _; rw [szR, if_neg (by have := HB.out; omega)]
    have h2 : left - (l.length : Int) < 0 := by omega
    go_enter Tryz.func13, Tryz.ntmps13
    go_wp2
    go_ret
    exact ⟨by rw [he.out]; rfl, Below.refl _ _⟩
  case pos =>
    have h2 : ¬ (left - (l.length : Int) < 0) := by omega
    go_enter Tryz.func13, Tryz.ntmps13
    go_wp2
    go_loopw [1, 5] (fun r i wr => ∃ k : Nat, k ≤ l.length ∧ i = .int .i64 k ∧ r = .int .i64 (left - (l.length : Int) - (sumB (l.take k) : Nat)) ∧ 0 ≤ left - (l.length : Int) - (sumB (l.take k) : Nat) ∧ Below w.heap.size w wr)
      (fun _ i _ => l.length - (intOf i).toNat)
    case atStart => exact ⟨0, Nat.zero_le _, rfl, by simp [sumB], by simpa [sumB] using h2, Below.refl _ _⟩
    case round =>
      obtain ⟨k, hk, rfl, rfl, hnn, BW⟩ := hrel
      by_cases hlt : k < l.length
      · have hkI : (k : Int) < (l.length : Int) := by omega
        obtain ⟨b, o, e1, hc⟩ := (HR.out.keep BW).2.2.2 (by omega)
        subst e1
        obtain ⟨a, ha⟩ : ∃ a, l[k]? = some a := ⟨l[k], by simp [hlt]⟩
        obtain ⟨us, hrep, hcell⟩ := hc k a ha
        obtain ⟨pa, qa, rfl, ra⟩ := blk_rep hrep
        have c0 := hcell 0 _ rfl
        rw [show bytC.n = 1 from rfl, Nat.add_zero, Nat.mul_one] at c0
        have hT := sumB_take ha
        have hLe := sumB_le l (k + 1)
        have hR : Hid (left - (l.length : Int) - (sumB (l.take k) : Nat) ≤ 1048576) := by show _ ≤ _; omega
        have HS : Hid (sumB (l.take (k + 1)) ≤ sumB l) := hLe
        rw [hT] at HS
        clear hLe hc hcell hrep
        generalize hLf : left - (l.length : Int) - (sumB (l.take k) : Nat) = r at *
        have HLf : Hid (left - (l.length : Int) - (sumB (l.take k) : Nat) = r) := hLf
        clear hLf
        go_wp2_with fail
        refine (szByteS_c pa qa a.length r wr ra.1 ra.2.1 hnn hR.out).mono ?_
        rintro e w2 ⟨rfl, rfl⟩
        by_cases hs : (a.length : Int) ≤ r
        · have e1 : szR a.length r = r - a.length := by rw [szR, if_pos hs]
          have hn2 : 0 ≤ r - (a.length : Int) := by omega
          have hE : Hid (r - (a.length : Int) = left - (l.length : Int) - (sumB (l.take (k + 1)) : Nat)) := by show _ = _; have := HLf.out; rw [hT]; omega
          rw [e1]
          clear hT HS HLf c0
          go_wp2_with fail
          go_roundw
          case rel => exact ⟨k + 1, by omega, by go_num, by rw [hE.out], by rw [← hE.out]; exact hn2, BW⟩
          case measure => simp [intOf]; omega
        · have e1 : szR a.length r = -1 := by rw [szR, if_neg hs]
          have he : Hid (szR (bulkB l) left = -1) := by show _ = _; rw [szR, if_neg (by have := HB.out; have := HS.out; have := HLf.out; omega)]
          rw [e1]
          clear hT HS HLf c0
          go_wp2_with fail
          go_ret
          exact ⟨by rw [he.out]; rfl, BW⟩
      · have e : k = l.length := by omega
        subst e
        rw [List.take_length] at hnn ⊢
        have he : Hid (szR (bulkB l) left = left - (l.length : Int) - (sumB l : Nat)) := by show _ = _; rw [szR, if_pos (by have := HB.out; omega)]; have := HB.out; omega
        go_wp2_with fail
        go_ret
        exact ⟨by rw [he.out]; rfl, BW⟩

set_option maxRecDepth 4000 in
set_option maxHeartbeats 1000000 in
theorem eqByteSS_c (l : List BlkD) (p p2 : Option Addr) (q q2 : Nat) (w : World) (h1 : RdL bytC w p q l) (h2 : RdL bytC w p2 q2 l) :
    Calls Tryz.prog 33 #[.slice p l.length q, .slice p2 l.length q2] w fun e w' => e = .returned (.bool true) ∧ Below w.heap.size w w' := by
  have HR : Hid (RdL bytC w p q l) := h1
  have HR2 : Hid (RdL bytC w p2 q2 l) := h2
  have hq1 : l.length ≤ q := h1.1
  have hq2 : q ≤ 2 ^ 63 - 1 := h1.2.1
  clear h1 h2
  go_enter Tryz.func33, Tryz.ntmps33
  go_wp2_with fail
  go_loopw [5] (fun i wr => ∃ k : Nat, k ≤ l.length ∧ i = .int .i64 k ∧ Below w.heap.size w wr)
    (fun i _ => l.length - (intOf i).toNat)
  case atStart => exact ⟨0, Nat.zero_le _, rfl, Below.refl _ _⟩
  case round =>
    obtain ⟨k, hk, rfl, BW⟩ := hrel
    by_cases hlt : k < l.length
    · have hkI : (k : Int) < (l.length : Int) := by omega
      obtain ⟨b, o, e1, hc⟩ := (HR.out.keep BW).2.2.2 (by omega)
      subst e1
      obtain ⟨b2, o2, e2, hc2⟩ := (HR2.out.keep BW).2.2.2 (by omega)
      subst e2
      obtain ⟨a, ha⟩ : ∃ a, l[k]? = some a := ⟨l[k], by simp [hlt]⟩
      obtain ⟨us, hrep, hcell⟩ := hc k a ha
      obtain ⟨pa, qa, rfl, ra⟩ := blk_rep hrep
      obtain ⟨us2, hrep2, hcell2⟩ := hc2 k a ha
      obtain ⟨pb, qb, rfl, rb⟩ := blk_rep hrep2
      have c0 := hcell 0 _ rfl
      have d0 := hcell2 0 _ rfl
      rw [show bytC.n = 1 from rfl, Nat.add_zero, Nat.mul_one] at c0 d0
      clear hc hcell hrep hc2 hcell2 hrep2
      go_wp2_with fail
      replace c0 := HW.at c0
      replace d0 := HW.at d0
      have hne := HW.some wr
      refine wp_region_class rfl (by kernel_rfl) ?_
      repeat (go_big_quiet_step ((go_at_call 62; exact Calls.stay (eqByteS_c pa pb qa qb a _ (ra.keep (HW.h _)) (rb.keep (HW.h _))))))
      refine wpQuiet_nil ?_
      intro w' hw'
      have BW2 := Below.step BW (HW.out hw')
      clear c0 d0 hne hw' BW
      go_wp2_with fail
      go_roundw
      case rel => exact ⟨k + 1, by omega, by go_num, BW2⟩
      case measure => simp [intOf]; omega
    · go_wp2_with fail
      go_ret
      exact ⟨rfl, BW⟩

def mkB : List BlkD → Nat → List BlkD
  | [], _ => []
  | a :: l, m => marks m a.length :: mkB l (m + a.length)
theorem mkB_append : ∀ (l r : List BlkD) (m : Nat), mkB (l ++ r) m = mkB l m ++ mkB r (m + sumB l)
  | [], r, m => by simp [mkB, sumB]
  | a :: l, r, m => by
    rw [List.cons_append, mkB, mkB, mkB_append l r, List.cons_append, show m + a.length + sumB l = m + sumB (a :: l) by simp [sumB]; omega]
theorem mkB_len : ∀ (l : List BlkD) (m : Nat), (mkB l m).length = l.length
  | [], _ => rfl
  | a :: l, m => by rw [mkB, List.length_cons, mkB_len l, List.length_cons]
theorem mkB_take {l : List BlkD} {k : Nat} {a : BlkD} (h : l[k]? = some a) (m : Nat) : mkB (l.take (k + 1)) m = mkB (l.take k) m ++ [marks (m + sumB (l.take k)) a.length] := by
  rw [List.take_add_one, h, mkB_append]; rfl
theorem mkB_at {l : List BlkD} {k : Nat} {a : BlkD} (h : l[k]? = some a) (m : Nat) : (mkB l m)[k]? = some (marks (m + sumB (l.take k)) a.length) := by
  have hk := (List.getElem?_eq_some_iff.1 h).1
  conv => lhs; rw [← List.take_append_drop k l, drop_at h, mkB_append]
  rw [List.getElem?_append_right (by rw [mkB_len, List.length_take]; omega), mkB_len, List.length_take, Nat.min_eq_left (by omega), Nat.sub_self]
  rfl



end Go.Proofs.YthiabbgkfmopiaaGreat

/- Lists of bytes as data (Cod), and the contracts of the laws' helpers on them. -/
namespace Go.Proofs.YthiabbgkfmopiaaGreat
open Go.ChangeShapes Go.WideShapes Go.ChangeAt Go.RowKit

theorem sumB_bulk (l : List BlkD) : sumB l ≤ 8 * bulkB l := by unfold bulkB; omega
abbrev blksC : Cod (List BlkD) := listC 51 bytC
theorem toByteSS_k (l : List BlkD) (u : Value) (w : World) (h : blksC.rep w l [u]) (hl : bulkB l ≤ 1048576) :
    Calls Tryz.prog 22 #[u] w fun e w' => ∃ v fp, e = .returned v ∧ blksC.own w' w.heap.size l [v] fp ∧ Below w.heap.size w w' := by
  obtain ⟨p, q, e1, r⟩ := h
  simp only [List.cons.injEq, and_true] at e1
  subst e1
  exact (toByteSS_c l p q w r hl).mono fun _ _ ⟨v, xs, fp, h1, h2, h3⟩ => ⟨v, _, h1, ⟨v, xs, fp, rfl, h2, rfl⟩, h3⟩
theorem szByteSS_k (l : List BlkD) (u : Value) (left : Int) (w : World) (h : blksC.rep w l [u]) (h0 : 0 ≤ left) (h1 : left ≤ 1048576) :
    Calls Tryz.prog 13 #[u, .int .i64 left] w fun e w' => e = .returned (.int .i64 (szR (bulkB l) left)) ∧ Below w.heap.size w w' := by
  obtain ⟨p, q, e1, r⟩ := h
  simp only [List.cons.injEq, and_true] at e1
  subst e1
  exact szByteSS_c l p q left w r h0 h1
theorem eqByteSS_k (l : List BlkD) (u v : Value) (w : World) (h1 : blksC.rep w l [u]) (h2 : blksC.rep w l [v]) :
    Calls Tryz.prog 33 #[u, v] w fun e w' => e = .returned (.bool true) ∧ Below w.heap.size w w' := by
  obtain ⟨p, q, e1, r⟩ := h1
  obtain ⟨p2, q2, e2, r2⟩ := h2
  simp only [List.cons.injEq, and_true] at e1 e2
  subst e1 e2
  exact eqByteSS_c l p p2 q q2 w r r2
end Go.Proofs.YthiabbgkfmopiaaGreat

