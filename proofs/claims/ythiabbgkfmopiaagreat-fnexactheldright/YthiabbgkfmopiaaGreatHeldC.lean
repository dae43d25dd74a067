/- How Held lies in memory, alone and in lists, and the contracts of the laws' helpers on it (written by tools/heldgen.py). -/
import Derived.Test.YthiabbgkfmopiaaGreatJoint8
import Derived.Test.YthiabbgkfmopiaaGreatJoint6
namespace Go.Proofs.YthiabbgkfmopiaaGreat
open Go.ChangeShapes Go.WideShapes Go.ChangeAt Go.RowKit

abbrev HeldD := Int × Int
def holdC : Cod HeldD := prodC (intC .i64) (intC .i64)
theorem hold_rep {w : World} {a : HeldD} {vs : List Value} (h : holdC.rep w a vs) : vs = [.int .i64 a.1, .int .i64 a.2] := by
  obtain ⟨us0, ts0, rfl, h0, h1⟩ := h
  have e0 : us0 = [Value.int .i64 _] := h0
  have e1 : ts0 = [Value.int .i64 _] := h1
  rw [e0, e1]
  rfl
theorem hold_mk {w : World} {a : HeldD} : holdC.rep w a [.int .i64 a.1, .int .i64 a.2] := ⟨[_], _, rfl, rfl, rfl⟩
theorem hold_own {w : World} {B : Nat} {a : HeldD} : holdC.own w B a [.int .i64 a.1, .int .i64 a.2] [] := ⟨[_], _, [], [], rfl, rfl, List.nodup_nil, ⟨rfl, rfl⟩, rfl, rfl⟩
theorem hold_own_inv {w : World} {B : Nat} {a : HeldD} {vs : List Value} {fp : List Nat} (h : holdC.own w B a vs fp) : vs = [.int .i64 a.1, .int .i64 a.2] ∧ fp = [] := by
  obtain ⟨us0, ts0, f0, g0, rfl, rfl, -, ⟨rfl, rfl⟩, ⟨rfl, rfl⟩⟩ := h
  exact ⟨rfl, rfl⟩
abbrev holdsC : Cod (List HeldD) := listC 59 holdC
theorem infoHeld : (Tryz.prog.info? 59).map (fun i => (i.zero, i.size, i.bytes)) = some (some (.agg #[.int .i64 0, .int .i64 0]), 2, 16) := by kernel_rfl
set_option maxRecDepth 4000 in
set_option maxHeartbeats 1000000 in
theorem toHeld_c (a : HeldD) (w : World) :
    Calls Tryz.prog 99 #[.agg #[.int .i64 a.1, .int .i64 a.2]] w fun e w' => e = .returned (.agg #[.int .i64 a.1, .int .i64 a.2]) ∧ Below w.heap.size w w' := by
  have R : Arr (((w.alloc (.cells #[.int .i64 a.1, .int .i64 a.2] 148)).alloc (.cells #[.int .i64 a.1, .int .i64 a.2] 59)).alloc (.cells #[.int .i64 a.1, .int .i64 a.2] 59)) (w.heap.size + 1) 59 [.int .i64 a.1, .int .i64 a.2] := by
    have h := Arr.new (w.alloc (.cells #[.int .i64 a.1, .int .i64 a.2] 148)) [.int .i64 a.1, .int .i64 a.2] 59
    rw [size_alloc] at h
    exact h.old _ _
  have BW : Below w.heap.size w (((w.alloc (.cells #[.int .i64 a.1, .int .i64 a.2] 148)).alloc (.cells #[.int .i64 a.1, .int .i64 a.2] 59)).alloc (.cells #[.int .i64 a.1, .int .i64 a.2] 59)) := Below.mk (Below.mk (alloc_below _ _) _) _
  have c0 := (R.cell 0).trans (show _ = some _ from rfl)
  have c1 := (R.cell 1).trans (show _ = some _ from rfl)
  clear R
  go_enter Tryz.func99, Tryz.ntmps99
  go_wp2_with fail
  exact bodyPost_ret (v := .agg #[.int .i64 a.1, .int .i64 a.2]) (by simp [results, Tryz.results99, go_sem, c0, c1]) rfl ⟨rfl, BW⟩
set_option maxRecDepth 4000 in
set_option maxHeartbeats 1000000 in
theorem toHeldS_c (l : List HeldD) (p : Option Addr) (q : Nat) (w : World) (hr : RdL holdC w p q l) (hll : l.length ≤ 1048576) :
    Calls Tryz.prog 84 #[.slice p l.length q] w fun e w' => ∃ v xs fp, e = .returned v ∧ OwnL 59 holdC w' w.heap.size v l xs fp ∧ Below w.heap.size w w' := by
  obtain ⟨i0, hi, hz0, hz1, hz2⟩ := info_parts infoHeld
  have HR : Hid (RdL holdC w p q l) := hr
  clear hr
  go_enter Tryz.func84, Tryz.ntmps84
  go_wp2_with (at_make; refine wpList_make_full _ rfl (.tmp 6) (.tmp 6) 49 rfl w.heap.size 59 i0 (.agg #[.int .i64 0, .int .i64 0]) 2 Tryz.underlying49 hi hz0 hz1 .i64 .i64 _ _ l.length rfl rfl rfl rfl (by rw [hz2]; omega) (by unfold maxLen; omega) (Nat.le_refl _) ?_; intro w1 hown hgrow)
  have hb1 : Below w.heap.size w w1 := (Below.refl _ _).grown hgrow (Nat.le_refl _) (fun k hk => by simp at hk)
  obtain ⟨M, HM⟩ : ∃ M, Hid (M = (madeCells (Value.agg #[.int .i64 0, .int .i64 0]).cells (l.length * 2)).toList) := ⟨_, rfl⟩
  rw [← HM.out] at hown
  have hML : Hid (M.length = l.length * 2) := hown.1
  clear hgrow hi hz0 hz1 hz2 HM
  go_loopw [4] (fun i wr => ∃ (k : Nat) (xs : List Value) (fp : List Nat), k ≤ l.length ∧ i = .int .i64 k ∧ wr.ownsRow w.heap.size 59 2 (.slice (some ⟨w.heap.size, 0, none⟩) l.length l.length) l.length (xs ++ M.drop (k * 2)) ∧ OwnAll holdC wr (w.heap.size + 1) (l.take k) xs fp ∧ fp.Nodup ∧ Below w.heap.size w wr)
    (fun i _ => l.length - (intOf i).toNat)
  case atStart => exact ⟨0, [], [], Nat.zero_le _, rfl, by simpa using hown, by rw [List.take_zero]; exact ⟨rfl, rfl⟩, List.nodup_nil, hb1⟩
  case round =>
    clear hown hb1
    obtain ⟨k, xs, fp, hk, rfl, hown, hall, hnd, BW⟩ := hrel
    have HX : Hid (xs.length = k * 2) := by show _ = _; have h := hall.len; rw [List.length_take, Nat.min_eq_left hk] at h; exact h
    by_cases hlt : k < l.length
    · have hkI : (k : Int) < (l.length : Int) := by omega
      obtain ⟨b, o, e1, hc⟩ := (HR.out.keep BW).2.2.2 (by omega)
      subst e1
      obtain ⟨a, ha⟩ : ∃ a, l[k]? = some a := ⟨l[k], by simp [hlt]⟩
      obtain ⟨us, hrep, hcell⟩ := hc k a ha
      obtain rfl := hold_rep hrep
      have c0 := hcell 0 _ rfl
      have c1 := hcell 1 _ rfl
      rw [show holdC.n = 2 from rfl] at c0 c1
      rw [Nat.add_zero] at c0
      obtain ⟨y0, hy0⟩ := row_at HX.out hML.out hlt (show 0 < 2 by decide)
      obtain ⟨y1, hy1⟩ := row_at HX.out hML.out hlt (show 1 < 2 by decide)
      have d0 := (World.ownsRow.cellAt hown (k * 2 + 0) (by omega)).trans hy0
      have d1 := (World.ownsRow.cellAt hown (k * 2 + 1) (by omega)).trans hy1
      rw [Nat.add_zero] at d0
      have fz := World.ownsRow.frozenAt hown
      have hsz : Hid (w.heap.size < wr.heap.size) := (World.ownsRow.lt hown w.heap.size rfl).2
      go_wp2_with fail
      refine (toHeld_c a wr).mono ?_
      rintro e w2 ⟨rfl, hb2⟩
      have hown2 := ownsRow_fr (w' := w2) hown (fun j hj => by simp [Value.ownBlock] at hj; subst hj; exact hb2.block _ hsz.out)
      have hall2 := hall.fr (w' := w2) (fun j hj => hb2.block j (hall.ins j hj).2)
      have hins : Hid (∀ j, j ∈ fp → w.heap.size + 1 ≤ j ∧ j < wr.heap.size) := fun j hj => hall.ins j hj
      have BW2 := Below.step BW hb2
      have d0' := (World.ownsRow.cellAt hown2 (k * 2 + 0) (by omega)).trans hy0
      have d1' := (World.ownsRow.cellAt hown2 (k * 2 + 1) (by omega)).trans hy1
      rw [Nat.add_zero] at d0'
      have fz' := World.ownsRow.frozenAt hown2
      have R1 := World.ownsRow.stored hown2 (k * 2) (.int .i64 a.1)
      have R2 := World.ownsRow.stored R1.1 (k * 2 + 1) (.int .i64 a.2)
      have HPut := row_put (us := [.int .i64 a.1, .int .i64 a.2]) HX.out hML.out hlt rfl
      rw [show (((xs ++ M.drop (k * 2)).set (k * 2) (.int .i64 a.1)).set (k * 2 + 1) (.int .i64 a.2)) = setList (xs ++ M.drop (k * 2)) (k * 2) [.int .i64 a.1, .int .i64 a.2] from rfl, HPut] at R2
      have RB := ((BW2.setCell (p := ⟨w.heap.size, k * 2, none⟩) (Nat.le_refl _) (.int .i64 a.1)).setCell (p := ⟨w.heap.size, k * 2 + 1, none⟩) (Nat.le_refl _) (.int .i64 a.2))
      have RA := hall2.fr (w' := ((w2.setCell ⟨w.heap.size, k * 2, none⟩ (.int .i64 a.1)).setCell ⟨w.heap.size, k * 2 + 1, none⟩ (.int .i64 a.2))) (fun j hj => by
        have h1 := (hins.out j hj).1
        rw [heap_setCell_other _ _ j _ (by show j ≠ w.heap.size; omega), heap_setCell_other _ _ j _ (by show j ≠ w.heap.size; omega)])
      have RS := RA.snoc (hold_own (a := a))
      have hnd2 : Hid ((fp ++ []).Nodup) := by show _; rw [List.append_nil]; exact hnd
      have hT : Hid (l.take k ++ [a] = l.take (k + 1)) := by show _ = _; rw [List.take_add_one, ha]; rfl
      rw [hT.out] at RS
      clear hown hown2 hall hall2 RA R1 d0 d1 fz hb2 BW BW2 hc hcell hrep c0 c1 HPut hy0 hy1
      go_wp2_with fail
      go_roundw
      case rel => exact ⟨k + 1, _, _, by omega, by go_num, R2.1, RS, hnd2.out, RB⟩
      case measure => simp [intOf]; omega
    · have e : k = l.length := by omega
      subst e
      rw [List.take_length] at hall
      rw [show M.drop (l.length * 2) = [] from List.drop_eq_nil_of_le (by rw [hML.out]; exact Nat.le_refl _), List.append_nil] at hown
      have hins := hall.ins
      have hO : OwnL 59 holdC wr w.heap.size (.slice (some ⟨w.heap.size, 0, none⟩) l.length l.length) l xs fp := ⟨hown, hall.low (by omega), by
        refine List.nodup_append.2 ⟨nodup_opt _, hnd, fun x hx y hy e => ?_⟩
        subst e
        have h1 := mem_opt.1 hx
        simp [Value.ownBlock] at h1
        have h2 := (hins x hy).1
        omega⟩
      clear hown hall hins hnd
      go_wp2_with fail
      go_ret
      exact ⟨_, _, _, rfl, hO, BW⟩
set_option maxRecDepth 4000 in
theorem szHeldS_c (p : Option Addr) (q n : Nat) (left : Int) (w : World) (hn : n ≤ q) (hq : q ≤ 2 ^ 63 - 1) (h0 : 0 ≤ left) (h1 : left ≤ 1048576) :
    Calls Tryz.prog 81 #[.slice p n q, .int .i64 left] w fun e w' => e = .returned (.int .i64 (szR n left)) ∧ w' = w := by
  have hw : wrap64 (left - (n : Int)) = left - n := by unfold wrap64; omega
  by_cases h : (n : Int) ≤ left
  · have h2 : ¬ (left - (n : Int) < 0) := by omega
    rw [szR, if_pos h]
    go_enter Tryz.func81, Tryz.ntmps81
    go_wp2
    go_ret
    exact ⟨rfl, rfl⟩
  · have h2 : left - (n : Int) < 0 := by omega
    rw [szR, if_neg h]
    go_enter Tryz.func81, Tryz.ntmps81
    go_wp2
    go_ret
    exact ⟨rfl, rfl⟩
set_option maxRecDepth 4000 in
theorem eqHeld_c (a : HeldD) (w : World) :
    Calls Tryz.prog 117 #[.agg #[.int .i64 a.1, .int .i64 a.2], .agg #[.int .i64 a.1, .int .i64 a.2]] w fun e w' => e = .returned (.bool true) ∧ Below w.heap.size w w' := by
  go_enter Tryz.func117, Tryz.ntmps117
  go_wp2
  go_ret
  exact ⟨rfl, Below.mk (alloc_below _ _) _⟩
set_option maxRecDepth 4000 in
set_option maxHeartbeats 1000000 in
theorem eqHeldS_c (l : List HeldD) (p p2 : Option Addr) (q q2 : Nat) (w : World) (h1 : RdL holdC w p q l) (h2 : RdL holdC w p2 q2 l) :
    Calls Tryz.prog 96 #[.slice p l.length q, .slice p2 l.length q2] w fun e w' => e = .returned (.bool true) ∧ Below w.heap.size w w' := by
  have HR : Hid (RdL holdC w p q l) := h1
  have HR2 : Hid (RdL holdC w p2 q2 l) := h2
  have hq1 : l.length ≤ q := h1.1
  have hq2 : q ≤ 2 ^ 63 - 1 := h1.2.1
  clear h1 h2
  go_enter Tryz.func96, Tryz.ntmps96
  go_wp2_with fail
  go_loopw [5] (fun i wr => ∃ k : Nat, k ≤ l.length ∧ i = .int .i64 k ∧ Below w.heap.size w wr)
    (fun i _ => l.length - (intOf i).toNat)
  case atStart => exact ⟨0, Nat.zero_le _, rfl, Below.refl _ _⟩
  case round =>
    obtain ⟨k, hk, rfl, BW⟩ := hrel
    by_cases hlt : k < l.length
    · have hkI : (k : Int) < (l.length : Int) := by omega
      obtain ⟨b, o, e1, hc⟩ := (HR.out.keep BW).2.2.2 (by omega)
      subst e1
      obtain ⟨b2, o2, e2, hc2⟩ := (HR2.out.keep BW).2.2.2 (by omega)
      subst e2
      obtain ⟨a, ha⟩ : ∃ a, l[k]? = some a := ⟨l[k], by simp [hlt]⟩
      obtain ⟨us, hrep, hcell⟩ := hc k a ha
      obtain rfl := hold_rep hrep
      obtain ⟨us2, hrep2, hcell2⟩ := hc2 k a ha
      obtain rfl := hold_rep hrep2
      have c0 := hcell 0 _ rfl
      have c1 := hcell 1 _ rfl
      have d0 := hcell2 0 _ rfl
      have d1 := hcell2 1 _ rfl
      rw [show holdC.n = 2 from rfl] at c0 c1 d0 d1
      rw [Nat.add_zero] at c0 d0
      clear hc hcell hrep hc2 hcell2 hrep2
      go_wp2_with fail
      replace c0 := HW.at c0
      replace c1 := HW.at c1
      replace d0 := HW.at d0
      replace d1 := HW.at d1
      have hne := HW.some wr
      refine wp_region_class rfl (by kernel_rfl) ?_
      repeat (go_big_quiet_step ((go_at_call 117; exact Calls.stay (eqHeld_c a _))))
      refine wpQuiet_nil ?_
      intro w' hw'
      have BW2 := Below.step BW (HW.out hw')
      clear c0 c1 d0 d1 hne hw' BW
      go_wp2_with fail
      go_roundw
      case rel => exact ⟨k + 1, by omega, by go_num, BW2⟩
      case measure => simp [intOf]; omega
    · go_wp2_with fail
      go_ret
      exact ⟨rfl, BW⟩
def bulkH (l : List HeldD) : Nat := 2 * l.length
def sizeH (l : List HeldD) : Nat := l.length
theorem bulkH_le (l : List HeldD) : bulkH l ≤ 8 * sizeH l := by unfold bulkH sizeH; omega
def mkH : List HeldD → Nat → List HeldD
  | [], _ => []
  | _ :: l, m => ((m : Int), (m : Int) + 1) :: mkH l (m + 2)
theorem mkH_len : ∀ (l : List HeldD) (m : Nat), (mkH l m).length = l.length
  | [], _ => rfl
  | _ :: l, m => by rw [mkH, List.length_cons, mkH_len l, List.length_cons]
theorem toHeldS_k (l : List HeldD) (u : Value) (w : World) (h : holdsC.rep w l [u]) (hl : sizeH l ≤ 1048576) :
    Calls Tryz.prog 84 #[u] w fun e w' => ∃ v fp, e = .returned v ∧ holdsC.own w' w.heap.size l [v] fp ∧ Below w.heap.size w w' := by
  obtain ⟨p, q, e1, r⟩ := h
  simp only [List.cons.injEq, and_true] at e1
  subst e1
  exact (toHeldS_c l p q w r hl).mono fun _ _ ⟨v, xs, fp, h1, h2, h3⟩ => ⟨v, _, h1, ⟨v, xs, fp, rfl, h2, rfl⟩, h3⟩
theorem szHeldS_k (l : List HeldD) (u : Value) (left : Int) (w : World) (h : holdsC.rep w l [u]) (h0 : 0 ≤ left) (h1 : left ≤ 1048576) :
    Calls Tryz.prog 81 #[u, .int .i64 left] w fun e w' => e = .returned (.int .i64 (szR (sizeH l) left)) ∧ Below w.heap.size w w' := by
  obtain ⟨p, q, e1, r⟩ := h
  simp only [List.cons.injEq, and_true] at e1
  subst e1
  exact (szHeldS_c p q l.length left w r.1 r.2.1 h0 h1).mono fun _ _ ⟨h1, h2⟩ => ⟨h1, by rw [h2]; exact Below.refl _ _⟩
theorem eqHeldS_k (l : List HeldD) (u v : Value) (w : World) (h1 : holdsC.rep w l [u]) (h2 : holdsC.rep w l [v]) :
    Calls Tryz.prog 96 #[u, v] w fun e w' => e = .returned (.bool true) ∧ Below w.heap.size w w' := by
  obtain ⟨p, q, e1, r⟩ := h1
  obtain ⟨p2, q2, e2, r2⟩ := h2
  simp only [List.cons.injEq, and_true] at e1 e2
  subst e1 e2
  exact eqHeldS_c l p p2 q q2 w r r2
theorem mkH_append : ∀ (l r : List HeldD) (m : Nat), mkH (l ++ r) m = mkH l m ++ mkH r (m + bulkH l)
  | [], _, _ => rfl
  | a :: l, r, m => by
    rw [List.cons_append, mkH, mkH_append l r, mkH, List.cons_append, show m + 2 + bulkH l = m + bulkH (a :: l) by unfold bulkH; rw [List.length_cons]; omega]
theorem mkH_take {l : List HeldD} {k : Nat} {a : HeldD} (h : l[k]? = some a) (m : Nat) : mkH (l.take (k + 1)) m = mkH (l.take k) m ++ [(((m + bulkH (l.take k) : Nat) : Int), ((m + bulkH (l.take k) : Nat) : Int) + 1)] := by
  rw [List.take_add_one, h, mkH_append]; rfl
theorem mkH_at {l : List HeldD} {k : Nat} {a : HeldD} (h : l[k]? = some a) (m : Nat) : (mkH l m)[k]? = some (((m + bulkH (l.take k) : Nat) : Int), ((m + bulkH (l.take k) : Nat) : Int) + 1) := by
  have hk := (List.getElem?_eq_some_iff.1 h).1
  conv => lhs; rw [← List.take_append_drop k l, drop_at h, mkH_append]
  rw [List.getElem?_append_right (by rw [mkH_len, List.length_take]; omega), mkH_len, List.length_take, Nat.min_eq_left (by omega), Nat.sub_self]
  rfl
theorem bulkH_at {l : List HeldD} {k : Nat} (h : k ≤ l.length) : bulkH (l.take k) = 2 * k := by unfold bulkH; rw [List.length_take, Nat.min_eq_left h]
end Go.Proofs.YthiabbgkfmopiaaGreat

