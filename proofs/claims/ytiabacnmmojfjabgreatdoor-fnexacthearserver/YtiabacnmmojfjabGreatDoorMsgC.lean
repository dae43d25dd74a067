import Derived.Test.YtiabacnmmojfjabGreatDoorJoint7
import Derived.Test.YtiabacnmmojfjabGreatDoorJoint6
import Derived.Test.YtiabacnmmojfjabGreatDoorJoint4
namespace Go.Proofs.YtiabacnmmojfjabGreatDoor
open Go.ChangeShapes Go.WideShapes Go.ChangeAt Go.RowKit
abbrev MsgD := Int × List UInt8
def msgC : Cod MsgD := prodC (intC .i64) bytC
theorem msg_rep {w : World} {a : MsgD} {vs : List Value} (h : msgC.rep w a vs) : ∃ p q, vs = [.int .i64 a.1, .slice p a.2.length q] ∧ Rd w p q a.2 := by
  obtain ⟨us, ts, rfl, h1, p, q, rfl, r⟩ := h
  exact ⟨p, q, by rw [h1]; rfl, r⟩
theorem msg_mk {w : World} {a : MsgD} {p : Option Addr} {q : Nat} (r : Rd w p q a.2) : msgC.rep w a [.int .i64 a.1, .slice p a.2.length q] := ⟨[_], [_], rfl, rfl, p, q, rfl, r⟩
theorem msg_own {w : World} {B : Nat} {a : MsgD} {vs : List Value} {fp : List Nat} (h : msgC.own w B a vs fp) : ∃ v, vs = [.int .i64 a.1, v] ∧ Own w B v a.2 ∧ fp = v.ownBlock.toList := by
  obtain ⟨us, ts, f, g, rfl, rfl, _, ⟨rfl, rfl⟩, v, rfl, o, rfl⟩ := h
  exact ⟨v, rfl, o, rfl⟩
theorem msg_own_mk {w : World} {B : Nat} {a : MsgD} {v : Value} (o : Own w B v a.2) : msgC.own w B a [.int .i64 a.1, v] v.ownBlock.toList :=
  ⟨[_], [_], [], _, rfl, rfl, nodup_opt _, ⟨rfl, rfl⟩, v, rfl, o, rfl⟩
set_option maxRecDepth 4000 in
set_option maxHeartbeats 400000 in
theorem toMsg_c (a : MsgD) (p : Option Addr) (q : Nat) (w : World) (hr : Rd w p q a.2) (hl : a.2.length ≤ 1048576) :
    Calls Tryz.prog 21 #[.agg #[.int .i64 a.1, .slice p a.2.length q]] w fun e w' => ∃ v, e = .returned (.agg #[.int .i64 a.1, v]) ∧ Own w' w.heap.size v a.2 ∧ Below w.heap.size w w' := by
  have B3 : Below w.heap.size w (((w.alloc (Obj.cells #[Value.int IntKind.i64 a.1, Value.slice p a.2.length q] 50)).alloc (Obj.cells #[Value.int IntKind.i64 0, Value.slice none 0 0] 53)).alloc (Obj.cells #[Value.int IntKind.i64 a.1, Value.slice none 0 0] 53)) := Below.mk (Below.mk (alloc_below _ _) _) _
  have R2 : Arr (((w.alloc (Obj.cells #[Value.int IntKind.i64 a.1, Value.slice p a.2.length q] 50)).alloc (Obj.cells #[Value.int IntKind.i64 0, Value.slice none 0 0] 53)).alloc (Obj.cells #[Value.int IntKind.i64 a.1, Value.slice none 0 0] 53)) (w.heap.size + 1) 53 [.int .i64 0, .slice none 0 0] := by
    have h := Arr.new (w.alloc (Obj.cells #[Value.int IntKind.i64 a.1, Value.slice p a.2.length q] 50)) [.int .i64 0, .slice none 0 0] 53
    rw [size_alloc] at h
    exact h.old _ _
  have R3 : Arr (((w.alloc (Obj.cells #[Value.int IntKind.i64 a.1, Value.slice p a.2.length q] 50)).alloc (Obj.cells #[Value.int IntKind.i64 0, Value.slice none 0 0] 53)).alloc (Obj.cells #[Value.int IntKind.i64 a.1, Value.slice none 0 0] 53)) (w.heap.size + 1 + 1) 53 [.int .i64 a.1, .slice none 0 0] := by
    have h := Arr.new ((w.alloc (Obj.cells #[Value.int IntKind.i64 a.1, Value.slice p a.2.length q] 50)).alloc (Obj.cells #[Value.int IntKind.i64 0, Value.slice none 0 0] 53)) [.int .i64 a.1, .slice none 0 0] 53
    rw [size_alloc, size_alloc] at h
    exact h
  have HZ : Hid ((((w.alloc (Obj.cells #[Value.int IntKind.i64 a.1, Value.slice p a.2.length q] 50)).alloc (Obj.cells #[Value.int IntKind.i64 0, Value.slice none 0 0] 53)).alloc (Obj.cells #[Value.int IntKind.i64 a.1, Value.slice none 0 0] 53)).heap.size = w.heap.size + 3) := by show _ = _; rw [size_alloc, size_alloc, size_alloc]
  go_enter Tryz.func21, Tryz.ntmps21
  go_wp2_with fail
  refine (toByteS_c p q a.2 _ (hr.keep B3) hl).mono ?_
  rintro e w1 ⟨v, rfl, ho, hb⟩
  rw [HZ.out] at ho
  have r2 := R2.stay hb
  have r3 := R3.stay hb
  have BW := Below.step B3 hb
  have c0 := r2.cell 0
  have c1 := r2.cell 1
  have f2 := r2.frozen
  have d0 := r3.cell 0
  have d1 := r3.cell 1
  have f3 := r3.frozen
  simp at c0 c1 d0 d1
  obtain ⟨pv, qv, rfl, -⟩ := ho.rd
  clear R2 R3 B3 hb r2 r3 HZ
  go_wp2
  refine bodyPost_ret (v := .agg #[.int .i64 a.1, .slice pv a.2.length qv]) (by simp [results, Tryz.results21, go_sem, c0, c1]) rfl ⟨_, rfl, ?_, ((BW.setCell (by show w.heap.size ≤ w.heap.size + 1 + 1; omega) _).setCell (by show w.heap.size ≤ w.heap.size + 1; omega) _).setCell (by show w.heap.size ≤ w.heap.size + 1; omega) _⟩
  exact (((ho.set (by show w.heap.size + 1 + 1 < w.heap.size + 3; omega) _).set (by show w.heap.size + 1 < w.heap.size + 3; omega) _).set (by show w.heap.size + 1 < w.heap.size + 3; omega) _).lower (by omega)
theorem infoMsg : (Tryz.prog.info? 53).map (fun i => (i.zero, i.size, i.bytes)) = some (some (.agg #[.int .i64 0, .slice none 0 0]), 2, 32) := by kernel_rfl
def bulkM (l : List MsgD) : Nat := (l.map (fun a => a.2.length)).sum + l.length
theorem bulkM_at {l : List MsgD} {i : Nat} {a : MsgD} (h : l[i]? = some a) : a.2.length ≤ bulkM l := by
  have hm := List.mem_of_getElem? h
  have h2 : ∀ l : List MsgD, a ∈ l → a.2.length ≤ (l.map (fun a : MsgD => a.2.length)).sum := fun l => by
    induction l with
    | nil => intro h; cases h
    | cons b l ih =>
      intro h
      rw [List.map_cons, List.sum_cons]
      rcases List.mem_cons.1 h with rfl | h
      · omega
      · have := ih h; omega
  have := h2 l hm
  unfold bulkM; omega
set_option maxRecDepth 4000 in
set_option maxHeartbeats 1000000 in
theorem toMsgS_c (l : List MsgD) (p : Option Addr) (q : Nat) (w : World) (hr : RdL msgC w p q l) (hl : bulkM l ≤ 1048576) :
    Calls Tryz.prog 10 #[.slice p l.length q] w fun e w' => ∃ v xs fp, e = .returned v ∧ OwnL 53 msgC w' w.heap.size v l xs fp ∧ Below w.heap.size w w' := by
  obtain ⟨i0, hi, hz0, hz1, hz2⟩ := info_parts infoMsg
  have HR : Hid (RdL msgC w p q l) := hr
  have HL : Hid (bulkM l ≤ 1048576) := hl
  have hll : l.length ≤ 1048576 := by unfold bulkM at hl; omega
  clear hr hl
  go_enter Tryz.func10, Tryz.ntmps10
  go_wp2_with (at_make; refine wpList_make_full _ rfl (.tmp 6) (.tmp 6) 33 rfl w.heap.size 53 i0 (.agg #[.int .i64 0, .slice none 0 0]) 2 Tryz.underlying33 hi hz0 hz1 .i64 .i64 _ _ l.length rfl rfl rfl rfl (by rw [hz2]; omega) (by unfold maxLen; omega) (Nat.le_refl _) ?_; intro w1 hown hgrow)
  have hb1 : Below w.heap.size w w1 := (Below.refl _ _).grown hgrow (Nat.le_refl _) (fun k hk => by simp at hk)
  obtain ⟨M, HM⟩ : ∃ M, Hid (M = (madeCells (Value.agg #[.int .i64 0, .slice none 0 0]).cells (l.length * 2)).toList) := ⟨_, rfl⟩
  rw [← HM.out] at hown
  have hML : Hid (M.length = l.length * 2) := hown.1
  clear hgrow hi hz0 hz1 hz2 HM
  go_loopw [4] (fun i wr => ∃ (k : Nat) (xs : List Value) (fp : List Nat), k ≤ l.length ∧ i = .int .i64 k ∧ wr.ownsRow w.heap.size 53 2 (.slice (some ⟨w.heap.size, 0, none⟩) l.length l.length) l.length (xs ++ M.drop (k * 2)) ∧ OwnAll msgC wr (w.heap.size + 1) (l.take k) xs fp ∧ fp.Nodup ∧ Below w.heap.size w wr)
    (fun i _ => l.length - (intOf i).toNat)
  case atStart => exact ⟨0, [], [], Nat.zero_le _, rfl, by simpa using hown, by rw [List.take_zero]; exact ⟨rfl, rfl⟩, List.nodup_nil, hb1⟩
  case round =>
    clear hown hb1
    obtain ⟨k, xs, fp, hk, rfl, hown, hall, hnd, BW⟩ := hrel
    have HX : Hid (xs.length = k * 2) := by show _ = _; have h := hall.len; rw [List.length_take, Nat.min_eq_left hk] at h; exact h
    by_cases hlt : k < l.length
    · have hkI : (k : Int) < (l.length : Int) := by omega
      obtain ⟨b, o, e1, hc⟩ := (HR.out.keep BW).2.2.2 (by omega)
      subst e1
      obtain ⟨a, ha⟩ : ∃ a, l[k]? = some a := ⟨l[k], by simp [hlt]⟩
      obtain ⟨us, hrep, hcell⟩ := hc k a ha
      obtain ⟨pa, qa, rfl, ra⟩ := msg_rep hrep
      have c0 := hcell 0 _ rfl
      have c1 := hcell 1 _ rfl
      rw [show msgC.n = 2 from rfl] at c0 c1
      rw [Nat.add_zero] at c0
      obtain ⟨y0, hy0⟩ := row_at HX.out hML.out hlt (show 0 < 2 by decide)
      obtain ⟨y1, hy1⟩ := row_at HX.out hML.out hlt (show 1 < 2 by decide)
      have d0 := (World.ownsRow.cellAt hown (k * 2 + 0) (by omega)).trans hy0
      rw [Nat.add_zero] at d0
      have d1 := (World.ownsRow.cellAt hown (k * 2 + 1) (by omega)).trans hy1
      have fz := World.ownsRow.frozenAt hown
      have hba := bulkM_at ha
      have hsz : Hid (w.heap.size < wr.heap.size) := (World.ownsRow.lt hown w.heap.size rfl).2
      go_wp2_with fail
      refine (toMsg_c a pa qa wr ra (by have := HL.out; omega)).mono ?_
      rintro e w2 ⟨v, rfl, ho, hb2⟩
      have hown2 := ownsRow_fr (w' := w2) hown (fun j hj => by simp [Value.ownBlock] at hj; subst hj; exact hb2.block _ hsz.out)
      have hall2 := hall.fr (w' := w2) (fun j hj => hb2.block j (hall.ins j hj).2)
      have hlow : Hid (∀ j, v.ownBlock = some j → wr.heap.size ≤ j) := fun j hj => ho.ge j hj
      have hins : Hid (∀ j, j ∈ fp → w.heap.size + 1 ≤ j ∧ j < wr.heap.size) := fun j hj => hall.ins j hj
      have BW2 := Below.step BW hb2
      have d0' := (World.ownsRow.cellAt hown2 (k * 2 + 0) (by omega)).trans hy0
      rw [Nat.add_zero] at d0'
      have d1' := (World.ownsRow.cellAt hown2 (k * 2 + 1) (by omega)).trans hy1
      have fz' := World.ownsRow.frozenAt hown2
      obtain ⟨pv, qv, rfl, -⟩ := ho.rd
      have R1 := World.ownsRow.stored hown2 (k * 2) (.int .i64 a.1)
      have R2 := World.ownsRow.stored R1.1 (k * 2 + 1) (.slice pv a.2.length qv)
      have HPut := row_put (us := [.int .i64 a.1, .slice pv a.2.length qv]) HX.out hML.out hlt rfl
      rw [show ((xs ++ M.drop (k * 2)).set (k * 2) (.int .i64 a.1)).set (k * 2 + 1) (.slice pv a.2.length qv) = setList (xs ++ M.drop (k * 2)) (k * 2) [.int .i64 a.1, .slice pv a.2.length qv] from rfl, HPut] at R2
      have RB := (BW2.setCell (p := ⟨w.heap.size, k * 2, none⟩) (Nat.le_refl _) (.int .i64 a.1)).setCell (p := ⟨w.heap.size, k * 2 + 1, none⟩) (Nat.le_refl _) (.slice pv a.2.length qv)
      have RA := hall2.fr (w' := (w2.setCell ⟨w.heap.size, k * 2, none⟩ (.int .i64 a.1)).setCell ⟨w.heap.size, k * 2 + 1, none⟩ (.slice pv a.2.length qv)) (fun j hj => by
        have h1 := (hins.out j hj).1
        rw [heap_setCell_other _ _ j _ (by show j ≠ w.heap.size; omega), heap_setCell_other _ _ j _ (by show j ≠ w.heap.size; omega)])
      have RO := ((ho.set (a := ⟨w.heap.size, k * 2, none⟩) hsz.out (.int .i64 a.1)).set (a := ⟨w.heap.size, k * 2 + 1, none⟩) hsz.out (.slice pv a.2.length qv)).lower (B' := w.heap.size + 1) hsz.out
      have RS := RA.snoc (msg_own_mk RO)
      have hnd2 : Hid ((fp ++ (Value.slice pv a.2.length qv).ownBlock.toList).Nodup) := by
        refine List.nodup_append.2 ⟨hnd, nodup_opt _, fun x hx y hy e => ?_⟩
        subst e
        have h1 := (hins.out x hx).2
        have h2 := hlow.out x (mem_opt.1 hy)
        omega
      have hT : Hid (l.take k ++ [a] = l.take (k + 1)) := by show _ = _; rw [List.take_add_one, ha]; rfl
      rw [hT.out] at RS
      clear hown hown2 hall hall2 RA RO R1 d0 d1 fz ho hb2 BW BW2 hc hcell hrep c0 c1 HPut hy0 hy1
      go_wp2_with fail
      go_roundw
      case rel => exact ⟨k + 1, _, _, by omega, by go_num, R2.1, RS, hnd2.out, RB⟩
      case measure => simp [intOf]; omega
    · have e : k = l.length := by omega
      subst e
      rw [List.take_length] at hall
      rw [show M.drop (l.length * 2) = [] from List.drop_eq_nil_of_le (by rw [hML.out]; exact Nat.le_refl _), List.append_nil] at hown
      have hins := hall.ins
      have hO : OwnL 53 msgC wr w.heap.size (.slice (some ⟨w.heap.size, 0, none⟩) l.length l.length) l xs fp := ⟨hown, hall.low (by omega), by
        refine List.nodup_append.2 ⟨nodup_opt _, hnd, fun x hx y hy e => ?_⟩
        subst e
        have h1 := mem_opt.1 hx
        simp [Value.ownBlock] at h1
        have h2 := (hins x hy).1
        omega⟩
      clear hown hall hins hnd
      go_wp2_with fail
      go_ret
      exact ⟨_, _, _, rfl, hO, BW⟩
set_option maxRecDepth 4000 in
set_option maxHeartbeats 400000 in
theorem szMsg_c (z : Int) (p : Option Addr) (q n : Nat) (left : Int) (w : World) (hn : n ≤ q) (hq : q ≤ 2 ^ 63 - 1) (h0 : 0 ≤ left) (h1 : left ≤ 1048576) :
    Calls Tryz.prog 19 #[.agg #[.int .i64 z, .slice p n q], .int .i64 left] w fun e w' => e = .returned (.int .i64 (szR n left)) ∧ Below w.heap.size w w' := by
  have K : Hid (∀ w, Calls Tryz.prog 34 #[.slice p n q, .int .i64 left] w fun e w' => e = .returned (.int .i64 (szR n left)) ∧ w' = w) := fun w => szByteS_c p q n left w hn hq h0 h1
  by_cases h : szR n left < 0
  · have he : szR n left = -1 := by rw [szR, if_neg (szR_neg h)]
    rw [he] at K ⊢
    go_enter Tryz.func19, Tryz.ntmps19
    go_wp2_with fail
    refine (K.out _).mono ?_
    rintro e w' ⟨rfl, rfl⟩
    go_wp2
    go_ret
    exact ⟨rfl, alloc_below _ _⟩
  · generalize szR n left = r at *
    go_enter Tryz.func19, Tryz.ntmps19
    go_wp2_with fail
    refine (K.out _).mono ?_
    rintro e w' ⟨rfl, rfl⟩
    go_wp2
    go_ret
    exact ⟨rfl, alloc_below _ _⟩
def sumM (l : List MsgD) : Nat := (l.map (fun a => a.2.length)).sum
theorem sumM_take {l : List MsgD} {k : Nat} {a : MsgD} (h : l[k]? = some a) : sumM (l.take (k + 1)) = sumM (l.take k) + a.2.length := by
  rw [List.take_add_one, h]; simp [sumM]
theorem sumM_le (l : List MsgD) (k : Nat) : sumM (l.take k) ≤ sumM l := by
  conv => rhs; rw [← List.take_append_drop k l]
  unfold sumM
  rw [List.map_append, List.sum_append]; omega
set_option maxRecDepth 4000 in
set_option maxHeartbeats 1000000 in
theorem szMsgS_c (l : List MsgD) (p : Option Addr) (q : Nat) (left : Int) (w : World) (hr : RdL msgC w p q l) (h0 : 0 ≤ left) (h1 : left ≤ 1048576) :
    Calls Tryz.prog 7 #[.slice p l.length q, .int .i64 left] w fun e w' => e = .returned (.int .i64 (szR (bulkM l) left)) ∧ Below w.heap.size w w' := by
  have HR : Hid (RdL msgC w p q l) := hr
  have hq1 : l.length ≤ q := hr.1
  have hq2 : q ≤ 2 ^ 63 - 1 := hr.2.1
  have hw : wrap64 (left - (l.length : Int)) = left - l.length := by unfold wrap64; omega
  have HB : Hid (bulkM l = sumM l + l.length) := rfl
  clear hr
  by_cases h : (l.length : Int) ≤ left
  case neg =>
    have he : Hid (szR (bulkM l) left = -1) := by show _ = _; rw [szR, if_neg (by have := HB.out; omega)]
    have h2 : left - (l.length : Int) < 0 := by omega
    go_enter Tryz.func7, Tryz.ntmps7
    go_wp2
    go_ret
    exact ⟨by rw [he.out]; rfl, Below.refl _ _⟩
  case pos =>
    have h2 : ¬ (left - (l.length : Int) < 0) := by omega
    go_enter Tryz.func7, Tryz.ntmps7
    go_wp2
    go_loopw [1, 5] (fun r i wr => ∃ k : Nat, k ≤ l.length ∧ i = .int .i64 k ∧ r = .int .i64 (left - (l.length : Int) - (sumM (l.take k) : Nat)) ∧ 0 ≤ left - (l.length : Int) - (sumM (l.take k) : Nat) ∧ Below w.heap.size w wr)
      (fun _ i _ => l.length - (intOf i).toNat)
    case atStart => exact ⟨0, Nat.zero_le _, rfl, by simp [sumM], by simpa [sumM] using h2, Below.refl _ _⟩
    case round =>
      obtain ⟨k, hk, rfl, rfl, hnn, BW⟩ := hrel
      by_cases hlt : k < l.length
      · have hkI : (k : Int) < (l.length : Int) := by omega
        obtain ⟨b, o, e1, hc⟩ := (HR.out.keep BW).2.2.2 (by omega)
        subst e1
        obtain ⟨a, ha⟩ : ∃ a, l[k]? = some a := ⟨l[k], by simp [hlt]⟩
        obtain ⟨us, hrep, hcell⟩ := hc k a ha
        obtain ⟨pa, qa, rfl, ra⟩ := msg_rep hrep
        have c0 := hcell 0 _ rfl
        have c1 := hcell 1 _ rfl
        rw [show msgC.n = 2 from rfl] at c0 c1
        rw [Nat.add_zero] at c0
        have hT := sumM_take ha
        have hLe := sumM_le l (k + 1)
        have hR : Hid (left - (l.length : Int) - (sumM (l.take k) : Nat) ≤ 1048576) := by show _ ≤ _; omega
        have HS : Hid (sumM (l.take (k + 1)) ≤ sumM l) := hLe
        rw [hT] at HS
        clear hLe hc hcell hrep
        generalize hLf : left - (l.length : Int) - (sumM (l.take k) : Nat) = r at *
        have HLf : Hid (left - (l.length : Int) - (sumM (l.take k) : Nat) = r) := hLf
        clear hLf
        go_wp2_with fail
        refine (szMsg_c a.1 pa qa a.2.length r wr ra.1 ra.2.1 hnn hR.out).mono ?_
        rintro e w2 ⟨rfl, hb2⟩
        have BW2 := Below.step BW hb2
        by_cases hs : (a.2.length : Int) ≤ r
        · have e1 : szR a.2.length r = r - a.2.length := by rw [szR, if_pos hs]
          have hn2 : 0 ≤ r - (a.2.length : Int) := by omega
          have hE : Hid (r - (a.2.length : Int) = left - (l.length : Int) - (sumM (l.take (k + 1)) : Nat)) := by show _ = _; have := HLf.out; rw [hT]; omega
          rw [e1]
          clear hT HS HLf c0 c1 hb2 BW
          go_wp2_with fail
          go_roundw
          case rel => exact ⟨k + 1, by omega, by go_num, by rw [hE.out], by rw [← hE.out]; exact hn2, BW2⟩
          case measure => simp [intOf]; omega
        · have e1 : szR a.2.length r = -1 := by rw [szR, if_neg hs]
          have he : Hid (szR (bulkM l) left = -1) := by show _ = _; rw [szR, if_neg (by have := HB.out; have := HS.out; have := HLf.out; omega)]
          rw [e1]
          clear hT HS HLf c0 c1 hb2 BW
          go_wp2_with fail
          go_ret
          exact ⟨by rw [he.out]; rfl, BW2⟩
      · have e : k = l.length := by omega
        subst e
        rw [List.take_length] at hnn ⊢
        have he : Hid (szR (bulkM l) left = left - (l.length : Int) - (sumM l : Nat)) := by show _ = _; rw [szR, if_pos (by have := HB.out; omega)]; have := HB.out; omega
        go_wp2_with fail
        go_ret
        exact ⟨by rw [he.out]; rfl, BW⟩
set_option maxRecDepth 4000 in
set_option maxHeartbeats 400000 in
theorem eqMsg_c (a : MsgD) (p p2 : Option Addr) (q q2 : Nat) (w : World) (h1 : Rd w p q a.2) (h2 : Rd w p2 q2 a.2) :
    Calls Tryz.prog 23 #[.agg #[.int .i64 a.1, .slice p a.2.length q], .agg #[.int .i64 a.1, .slice p2 a.2.length q2]] w fun e w' => e = .returned (.bool true) ∧ Below w.heap.size w w' := by
  have B2 := fun o1 o2 => Below.mk (alloc_below w o1) o2
  go_enter Tryz.func23, Tryz.ntmps23
  go_wp2_with fail
  refine (eqByteS_c _ _ _ _ a.2 _ (h1.keep (B2 _ _)) (h2.keep (B2 _ _))).mono ?_
  rintro e w1 ⟨rfl, hb1⟩
  go_wp2
  go_ret
  exact ⟨rfl, Below.step (B2 _ _) hb1⟩
set_option maxRecDepth 4000 in
set_option maxHeartbeats 1000000 in
theorem eqMsgS_c (l : List MsgD) (p p2 : Option Addr) (q q2 : Nat) (w : World) (h1 : RdL msgC w p q l) (h2 : RdL msgC w p2 q2 l) :
    Calls Tryz.prog 14 #[.slice p l.length q, .slice p2 l.length q2] w fun e w' => e = .returned (.bool true) ∧ Below w.heap.size w w' := by
  have HR : Hid (RdL msgC w p q l) := h1
  have HR2 : Hid (RdL msgC w p2 q2 l) := h2
  have hq1 : l.length ≤ q := h1.1
  have hq2 : q ≤ 2 ^ 63 - 1 := h1.2.1
  clear h1 h2
  go_enter Tryz.func14, Tryz.ntmps14
  go_wp2_with fail
  go_loopw [5] (fun i wr => ∃ k : Nat, k ≤ l.length ∧ i = .int .i64 k ∧ Below w.heap.size w wr)
    (fun i _ => l.length - (intOf i).toNat)
  case atStart => exact ⟨0, Nat.zero_le _, rfl, Below.refl _ _⟩
  case round =>
    obtain ⟨k, hk, rfl, BW⟩ := hrel
    by_cases hlt : k < l.length
    · have hkI : (k : Int) < (l.length : Int) := by omega
      obtain ⟨b, o, e1, hc⟩ := (HR.out.keep BW).2.2.2 (by omega)
      subst e1
      obtain ⟨b2, o2, e2, hc2⟩ := (HR2.out.keep BW).2.2.2 (by omega)
      subst e2
      obtain ⟨a, ha⟩ : ∃ a, l[k]? = some a := ⟨l[k], by simp [hlt]⟩
      obtain ⟨us, hrep, hcell⟩ := hc k a ha
      obtain ⟨pa, qa, rfl, ra⟩ := msg_rep hrep
      obtain ⟨us2, hrep2, hcell2⟩ := hc2 k a ha
      obtain ⟨pb, qb, rfl, rb⟩ := msg_rep hrep2
      have c0 := hcell 0 _ rfl
      have c1 := hcell 1 _ rfl
      have d0 := hcell2 0 _ rfl
      have d1 := hcell2 1 _ rfl
      rw [show msgC.n = 2 from rfl] at c0 c1 d0 d1
      rw [Nat.add_zero] at c0 d0
      clear hc hcell hrep hc2 hcell2 hrep2
      go_wp2_with fail
      replace c0 := HW.at c0
      replace c1 := HW.at c1
      replace d0 := HW.at d0
      replace d1 := HW.at d1
      have hne := HW.some wr
      refine wp_region_class rfl (by kernel_rfl) ?_
      repeat (go_big_quiet_step ((go_at_call 23; exact Calls.stay (eqMsg_c a pa pb qa qb _ (ra.keep (HW.h _)) (rb.keep (HW.h _))))))
      refine wpQuiet_nil ?_
      intro w' hw'
      have BW2 := Below.step BW (HW.out hw')
      clear c0 c1 d0 d1 hne hw' BW
      go_wp2_with fail
      go_roundw
      case rel => exact ⟨k + 1, by omega, by go_num, BW2⟩
      case measure => simp [intOf]; omega
    · go_wp2_with fail
      go_ret
      exact ⟨rfl, BW⟩
def mkM : List MsgD → Nat → List MsgD
  | [], _ => []
  | a :: l, m => ((m : Int), marks (m + 1) a.2.length) :: mkM l (m + 1 + a.2.length)
theorem bulkM_cons (a : MsgD) (l : List MsgD) : bulkM (a :: l) = a.2.length + 1 + bulkM l := by simp [bulkM]; omega
theorem bulkM_append (l r : List MsgD) : bulkM (l ++ r) = bulkM l + bulkM r := by simp [bulkM]; omega
theorem mkM_append : ∀ (l r : List MsgD) (m : Nat), mkM (l ++ r) m = mkM l m ++ mkM r (m + bulkM l)
  | [], r, m => by simp [mkM, bulkM]
  | a :: l, r, m => by
    rw [List.cons_append, mkM, mkM, mkM_append l r, bulkM_cons, List.cons_append, show m + 1 + a.2.length + bulkM l = m + (a.2.length + 1 + bulkM l) by omega]
theorem mkM_len : ∀ (l : List MsgD) (m : Nat), (mkM l m).length = l.length
  | [], _ => rfl
  | a :: l, m => by rw [mkM, List.length_cons, mkM_len l, List.length_cons]
theorem mkM_take {l : List MsgD} {k : Nat} {a : MsgD} (h : l[k]? = some a) (m : Nat) : mkM (l.take (k + 1)) m = mkM (l.take k) m ++ [(((m + bulkM (l.take k) : Nat) : Int), marks (m + bulkM (l.take k) + 1) a.2.length)] := by
  rw [List.take_add_one, h, mkM_append]; rfl
theorem bulkM_take {l : List MsgD} {k : Nat} {a : MsgD} (h : l[k]? = some a) : bulkM (l.take (k + 1)) = bulkM (l.take k) + a.2.length + 1 := by
  rw [List.take_add_one, h, bulkM_append]; simp [bulkM]; omega
theorem bulkM_le (l : List MsgD) (k : Nat) : bulkM (l.take k) ≤ bulkM l := by
  conv => rhs; rw [← List.take_append_drop k l, bulkM_append]
  omega
set_option maxRecDepth 4000 in
set_option maxHeartbeats 1000000 in
theorem markMsgS_c (e0 : TypeId) (l : List MsgD) (B : Nat) (v : Value) (xs : List Value) (fp : List Nat) (m : Nat) (w : World) (ho : OwnL e0 msgC w B v l xs fp) (hm : m + bulkM l ≤ 1000000000) (hbl : bulkM l ≤ 1000000000) :
    Calls Tryz.prog 16 #[v, .int .i64 m] w fun e w' => e = .returned (.int .i64 ((m + bulkM l : Nat) : Int)) ∧ (∃ ys, OwnL e0 msgC w' B v (mkM l m) ys fp) ∧ Only (v.ownBlock.toList ++ fp) w w' := by
  obtain ⟨p, q, rfl, hrd⟩ := ho.rd
  have hq1 : l.length ≤ q := hrd.1
  have hq2 : q ≤ 2 ^ 63 - 1 := hrd.2.1
  have HM : Hid (m + bulkM l ≤ 1000000000) := hm
  have HBL : Hid (bulkM l ≤ 1000000000) := hbl
  clear hm hrd hbl
  go_enter Tryz.func16, Tryz.ntmps16
  go_wp2_with fail
  go_loopw [1, 5] (fun c i wr => ∃ (k : Nat) (ys : List Value), k ≤ l.length ∧ i = .int .i64 k ∧ c = .int .i64 ((m + bulkM (l.take k) : Nat) : Int) ∧ OwnL e0 msgC wr B (.slice p l.length q) (mkM (l.take k) m ++ l.drop k) ys fp ∧ Only ((Value.slice p l.length q).ownBlock.toList ++ fp) w wr)
    (fun _ i _ => l.length - (intOf i).toNat)
  case atStart => exact ⟨0, xs, Nat.zero_le _, rfl, by simp [bulkM], by simpa [mkM] using ho, Only.refl _ _⟩
  case round =>
    clear ho xs
    obtain ⟨k, ys, hk, rfl, rfl, ho, hon⟩ := hrel
    by_cases hlt : k < l.length
    · have hkI : (k : Int) < (l.length : Int) := by omega
      obtain ⟨a, ha⟩ : ∃ a, l[k]? = some a := ⟨l[k], by simp [hlt]⟩
      have HLn : Hid ((mkM (l.take k) m).length = k) := by show _ = _; rw [mkM_len, List.length_take, Nat.min_eq_left hk]
      have HBt := bulkM_take ha
      have HBl : Hid (bulkM (l.take (k + 1)) ≤ bulkM l) := bulkM_le l (k + 1)
      have HT := mkM_take ha m
      rw [drop_at ha] at ho
      have hgf : ∃ g, p = some ⟨g, 0, none⟩ := by
        rcases ho.row.2 with ⟨h1, h2⟩ | ⟨g, c, cur, h1, -⟩
        · simp at h2
        · simp at h1; exact ⟨g, h1.1⟩
      obtain ⟨g, rfl⟩ := hgf
      have hinsL := ho.ins
      obtain ⟨x1, us, x2, f1, f, f2, rfl, rfl, hx1, hof, hdis, hdis2, hback⟩ := ho.focus
      obtain ⟨vb, rfl, ob, rfl⟩ := msg_own hof
      have HX1 : Hid (x1.length = k * 2) := by show _ = _; rw [hx1, HLn.out]; rfl
      have HLL : Hid ((mkM (l.take k) m ++ a :: l.drop (k + 1)).length = l.length) := by show _ = _; rw [List.length_append, HLn.out, List.length_cons, List.length_drop]; omega
      have hrow := ho.row
      rw [HLL.out, show msgC.n = 2 from rfl] at hrow
      have c0 : wr.cell? ⟨g, k * 2, none⟩ = some (.int .i64 a.1) := by
        rw [World.ownsRow.cellAt hrow (k * 2) (by omega), List.append_assoc, List.getElem?_append_right (by rw [HX1.out]; exact Nat.le_refl _), HX1.out, Nat.sub_self]; rfl
      have c1 : wr.cell? ⟨g, k * 2 + 1, none⟩ = some vb := by
        rw [World.ownsRow.cellAt hrow (k * 2 + 1) (by omega), List.append_assoc, List.getElem?_append_right (by rw [HX1.out]; omega), HX1.out, show k * 2 + 1 - k * 2 = 1 by omega]; rfl
      have fz := World.ownsRow.frozenAt hrow
      have R1 := World.ownsRow.stored hrow (k * 2) (.int .i64 ((m + bulkM (l.take k) : Nat) : Int))
      have hset : (x1 ++ [.int .i64 a.1, vb] ++ x2).set (k * 2) (.int .i64 ((m + bulkM (l.take k) : Nat) : Int)) = x1 ++ [.int .i64 ((m + bulkM (l.take k) : Nat) : Int), vb] ++ x2 := by
        rw [List.append_assoc, List.set_append_right _ _ (by rw [HX1.out]; exact Nat.le_refl _), HX1.out, Nat.sub_self, List.append_assoc]; rfl
      rw [hset] at R1
      have HG : Hid (∀ j, vb.ownBlock = some j → j ≠ g) := fun j hj e => by
        have h1 := (hdis j (mem_opt.2 hj)).2.2
        rw [e] at h1
        exact h1 rfl
      have hSome : Hid (g < wr.heap.size) := (World.ownsRow.lt hrow g rfl).2
      have ob1 : Own (wr.setCell ⟨g, k * 2, none⟩ (.int .i64 ((m + bulkM (l.take k) : Nat) : Int))) B vb a.2 := ob.other R1.2 (fun j hj e => by simp at e; exact HG.out j hj e.symm)
      generalize hMk : m + bulkM (l.take k) = mk at *
      have HMk : Hid (m + bulkM (l.take k) = mk) := hMk
      have hmkI : (mk : Int) ≤ 1000000000 := by have := HM.out; have := HBl.out; omega
      clear hMk ho hof
      go_wp2_with fail
      refine (markByteS_cn ((mk : Int) + 1) B vb a.2 _ ob1 (by omega) (by omega) (by have := HBL.out; have := HBl.out; omega)).mono ?_
      rintro e w2 ⟨rfl, ob2, hg2⟩
      rw [show ((mk : Int) + 1).toNat = mk + 1 by omega] at ob2
      have row2 := ownsRow_fr (w' := w2) R1.1 (fun j hj => by
        simp [Value.ownBlock] at hj
        subst hj
        exact hg2.block _ (by rw [World.size_setCell]; exact hSome.out) (fun e => HG.out _ e.symm rfl))
      have hO := hback w2 ((mk : Int), marks (mk + 1) a.2.length) [.int .i64 (mk : Int), vb] (msg_own_mk (a := ((mk : Int), marks (mk + 1) a.2.length)) ob2) (by rw [show (mkM (l.take k) m ++ ((mk : Int), marks (mk + 1) a.2.length) :: l.drop (k + 1)).length = l.length by rw [List.length_append, HLn.out, List.length_cons, List.length_drop]; omega]; exact row2) (fun j hj => by
        have h1 : vb.ownBlock ≠ some j := fun e => by
          have h2 := hdis j (mem_opt.2 e)
          rcases List.mem_append.1 hj with h3 | h3
          · exact h2.1 h3
          · exact h2.2.1 h3
        have h2 : j ≠ g := fun e => hdis2 j hj (by rw [e]; rfl)
        have hlt2 := (hinsL j (List.mem_append_right _ (by rcases List.mem_append.1 hj with h3 | h3; exact List.mem_append_left _ (List.mem_append_left _ h3); exact List.mem_append_right _ h3))).2
        rw [hg2.block j (by rw [World.size_setCell]; exact hlt2) (fun e => h1 e.symm), heap_setCell_other _ _ j _ h2])
      have hon2 : Only ((Value.slice (some ⟨g, 0, none⟩) l.length q).ownBlock.toList ++ (f1 ++ vb.ownBlock.toList ++ f2)) w w2 :=
        hon.trans (((Only.grown R1.2).more (fun j hj => List.mem_append_left _ (by simpa [Value.ownBlock] using hj))).trans ((Only.grown hg2).more (fun j hj => List.mem_append_right _ (List.mem_append_left _ (List.mem_append_right _ hj)))))
      have HT2 : Hid (mkM (l.take (k + 1)) m ++ l.drop (k + 1) = mkM (l.take k) m ++ ((mk : Int), marks (mk + 1) a.2.length) :: l.drop (k + 1)) := by show _ = _; rw [HT, List.append_assoc]; rfl
      have HE : Hid ((mk : Int) + 1 + (a.2.length : Int) = ((m + bulkM (l.take (k + 1)) : Nat) : Int)) := by show _ = _; have := HMk.out; rw [HBt]; omega
      rw [← HT2.out] at hO
      clear hon c0 c1 fz R1 row2 ob ob1 ob2 hg2 hback hdis hdis2 hrow hset HT HBt hinsL
      go_wp2_with fail
      go_roundw
      case rel => exact ⟨k + 1, _, by omega, by go_num, by rw [← HE.out], hO, hon2⟩
      case measure => simp [intOf]; omega
    · have e : k = l.length := by omega
      subst e
      rw [List.take_length, List.drop_length, List.append_nil] at ho
      rw [List.take_length]
      go_wp2_with fail
      go_ret
      exact ⟨rfl, ⟨_, ho⟩, hon⟩
theorem mkM_at {l : List MsgD} {k : Nat} {a : MsgD} (h : l[k]? = some a) (m : Nat) : (mkM l m)[k]? = some (((m + bulkM (l.take k) : Nat) : Int), marks (m + bulkM (l.take k) + 1) a.2.length) := by
  have hk := (List.getElem?_eq_some_iff.1 h).1
  conv => lhs; rw [← List.take_append_drop k l, drop_at h, mkM_append]
  rw [List.getElem?_append_right (by rw [mkM_len, List.length_take]; omega), mkM_len, List.length_take, Nat.min_eq_left (by omega), Nat.sub_self]
  rfl
set_option maxRecDepth 4000 in
set_option maxHeartbeats 1000000 in
theorem heldMsgS_c (l : List MsgD) (p : Option Addr) (q m : Nat) (w : World) (hr : RdL msgC w p q (mkM l m)) (hm : m + bulkM l ≤ 1048577) :
    Calls Tryz.prog 65 #[.slice p l.length q, .int .i64 m] w fun e w' => e = .returned (.int .i64 ((m + bulkM l : Nat) : Int)) ∧ Below w.heap.size w w' := by
  have HR : Hid (RdL msgC w p q (mkM l m)) := hr
  have hq1 : l.length ≤ q := by have := hr.1; rw [mkM_len] at this; exact this
  have hq2 : q ≤ 2 ^ 63 - 1 := hr.2.1
  have HM : Hid (m + bulkM l ≤ 1048577) := hm
  clear hr hm
  go_enter Tryz.func65, Tryz.ntmps65
  go_wp2_with fail
  go_loopw [1, 5] (fun c i wr => ∃ k : Nat, k ≤ l.length ∧ i = .int .i64 k ∧ c = .int .i64 ((m + bulkM (l.take k) : Nat) : Int) ∧ Below w.heap.size w wr)
    (fun _ i _ => l.length - (intOf i).toNat)
  case atStart => exact ⟨0, Nat.zero_le _, rfl, by simp [bulkM], Below.refl _ _⟩
  case round =>
    obtain ⟨k, hk, rfl, rfl, BW⟩ := hrel
    by_cases hlt : k < l.length
    · have hkI : (k : Int) < (l.length : Int) := by omega
      obtain ⟨b, o, e1, hc⟩ := (HR.out.keep BW).2.2.2 (by rw [mkM_len]; omega)
      subst e1
      obtain ⟨a, ha⟩ : ∃ a, l[k]? = some a := ⟨l[k], by simp [hlt]⟩
      have HBt := bulkM_take ha
      have HBl : Hid (bulkM (l.take (k + 1)) ≤ bulkM l) := bulkM_le l (k + 1)
      obtain ⟨us, hrep, hcell⟩ := hc k _ (mkM_at ha m)
      obtain ⟨pa, qa, rfl, ra⟩ := msg_rep hrep
      have c0 := hcell 0 _ rfl
      have c1 := hcell 1 _ rfl
      rw [show msgC.n = 2 from rfl] at c0 c1
      rw [Nat.add_zero] at c0
      simp only [marks_len] at c1
      have HE : Hid (((m + bulkM (l.take k) : Nat) : Int) + 1 + (a.2.length : Int) = ((m + bulkM (l.take (k + 1)) : Nat) : Int)) := by show _ = _; rw [HBt]; omega
      have hb1 : Hid (m + bulkM (l.take k) + 1 + a.2.length ≤ 1048577) := by show _ ≤ _; have := HM.out; have := HBl.out; omega
      generalize m + bulkM (l.take k) = mk at *
      have hmkI : (mk : Int) ≤ 1048577 := by have := hb1.out; omega
      have K : Hid (Calls Tryz.prog 112 #[.slice pa a.2.length qa, .int .i64 ((mk : Int) + 1)] wr fun e w' => e = .returned (.int .i64 ((mk : Int) + 1 + (a.2.length : Int))) ∧ w' = wr) := by
        have h := heldByteS_c pa qa a.2.length (mk + 1) wr ra hb1.out
        rw [show (((mk + 1 : Nat)) : Int) = (mk : Int) + 1 by omega] at h
        exact h
      have hnn : ¬ ((mk : Int) + 1 + (a.2.length : Int) < 0) := by omega
      clear hc hcell hrep HBt
      go_wp2_with fail
      refine K.out.mono ?_
      rintro e w2 ⟨rfl, rfl⟩
      go_wp2_with fail
      go_roundw
      case rel => exact ⟨k + 1, by omega, by go_num, by rw [← HE.out], BW⟩
      case measure => simp [intOf]; omega
    · have e : k = l.length := by omega
      subst e
      rw [List.take_length]
      go_wp2_with fail
      go_ret
      exact ⟨rfl, BW⟩
end Go.Proofs.YtiabacnmmojfjabGreatDoor
