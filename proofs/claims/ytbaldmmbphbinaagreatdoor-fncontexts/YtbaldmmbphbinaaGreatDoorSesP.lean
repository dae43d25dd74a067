/- Chapter 14 of the specification: copies of lists and sessions, what is held anew, RevokeIn and TimeIn by their codes (written by tools/ses_p.py). What was there stays. -/
import Derived.Test.YtbaldmmbphbinaaGreatDoorSesS
import Derived.Test.YtbaldmmbphbinaaGreatDoorJoint28
import Derived.Test.YtbaldmmbphbinaaGreatDoorJoint7
import Derived.Laws.AppendOwnNone
namespace Go.Proofs.YtbaldmmbphbinaaGreatDoor
open Go.ChangeShapes Go.WideShapes Go.ChangeAt Go.RowKit

theorem none_ownP (w : World) (B : Nat) (h : B ≤ w.heap.size) : OwnL 22 bytC (w.alloc (.cells #[] 22)) B (.slice (some ⟨w.heap.size, 0, none⟩) 0 0) [] [] [] :=
  ⟨World.ownsRow_lit (base := B) (e := 22) (size := 1) w #[] 0 h (by unfold maxLen; decide) (by simp), ⟨rfl, rfl⟩, by simp [Value.ownBlock]⟩
set_option maxRecDepth 4000 in
set_option maxHeartbeats 1000000 in
theorem l14Lists_c (l : List (List UInt8)) (p : Option Addr) (q : Nat) (w : World) (hr : RdL bytC w p q l) (hc : ∀ c ∈ l, c.length ≤ 100000) (hl : l.length ≤ 1000) :
    Calls Tryz.prog 48 #[.slice p l.length q] w fun e w' => ∃ v xs fp, e = .returned v ∧ OwnL 22 bytC w' w.heap.size v l xs fp ∧ Below w.heap.size w w' := by
  have HR : Hid (RdL bytC w p q l) := hr
  have hq1 : l.length ≤ q := hr.1
  have hq2 : q ≤ 2 ^ 63 - 1 := hr.2.1
  have HC : Hid (∀ c ∈ l, c.length ≤ 100000) := hc
  have HL : Hid (l.length ≤ 1000) := hl
  have O1 := none_ownP w w.heap.size (Nat.le_refl _)
  have B1 := alloc_below w (.cells #[] 22)
  clear hr hc hl
  go_enter Tryz.func48, Tryz.ntmps48
  go_wp2_with fail
  go_loopw [3, 4] (fun v i wr => ∃ (k : Nat) (xs : List Value) (fp : List Nat), k ≤ l.length ∧ i = .int .i64 k ∧ OwnL 22 bytC wr w.heap.size v (l.take k) xs fp ∧ Below w.heap.size w wr)
    (fun _ i _ => l.length - (intOf i).toNat)
  case atStart => exact ⟨0, [], [], Nat.zero_le _, rfl, O1, B1⟩
  case round =>
    clear O1 B1
    obtain ⟨k, xs, fp, hk, rfl, ho, BW⟩ := hrel
    by_cases hlt : k < l.length
    · have hI : (k : Int) < (l.length : Int) := by omega
      obtain ⟨b, o, e1, hcc⟩ := (HR.out.keep BW).2.2.2 (by omega)
      subst e1
      obtain ⟨a, ha⟩ : ∃ a, l[k]? = some a := ⟨l[k], by simp [hlt]⟩
      obtain ⟨us, hrep, hcell⟩ := hcc k a ha
      obtain ⟨pa, qa, rfl, ra⟩ := blk_rep hrep
      have c0 := hcell 0 _ rfl
      rw [show bytC.n = 1 from rfl, Nat.mul_one, Nat.add_zero] at c0
      have KC := l1Copy_c pa qa a wr ra (by have := HC.out a (List.mem_of_getElem? ha); omega)
      have HT : Hid (l.take (k + 1) = l.take k ++ [a]) := by show _ = _; rw [List.take_add_one, ha]; rfl
      have HTl : Hid ((l.take k).length ≤ 1000) := by show _ ≤ _; rw [List.length_take]; have := HL.out; omega
      obtain ⟨po, qo, rfl, -⟩ := ho.rd
      have HO : Hid (OwnL 22 bytC wr w.heap.size (.slice po (l.take k).length qo) (l.take k) xs fp) := ho
      have HB : Hid (w.heap.size ≤ wr.heap.size) := BW.size
      clear hcc hcell hrep ra ho
      generalize l.take k = out at *
      go_wp2_with fail
      refine KC.mono ?_
      rintro e w2 ⟨u2, rfl, k2, hb2⟩
      have BW2 := Below.step BW hb2
      have HU : Hid (Own w2 wr.heap.size u2 a) := k2
      have HB2 : Hid (Below wr.heap.size wr w2) := hb2
      obtain ⟨pu, qu, rfl, -⟩ := k2.rd
      have BW3 := Below.mk BW2 (.cells #[.slice pu a.length qu] 22)
      clear KC k2 hb2 c0 BW BW2
      go_wp2_with (at_builtin; refine wpList_append_blk rfl (.tmp 12) (.tmp 18) rfl HO.out HU.out HB2.out rfl rfl HB.out HTl.out ?_; intro p6 q6 w6 xs6 fp6 ho6 _ _ hb6)
      rw [← HT.out] at ho6
      have BW6 := BW3.trans hb6
      clear BW3 hb6 HO HU HB2
      go_roundw
      case rel => exact ⟨k + 1, _, _, by omega, by go_num, ho6, BW6⟩
      case measure => simp [intOf]; omega
    · have e : k = l.length := by omega
      subst e
      rw [List.take_length] at ho
      obtain ⟨po, qo, rfl, -⟩ := ho.rd
      go_wp2_with fail
      go_ret
      exact ⟨_, _, _, rfl, ho, BW⟩
/-- What is held anew, behind the first k. -/
def hoK (l : List HeldD) (h : HeldD) (k : Nat) : List HeldD := (l.take k).filter (fun a => decide (a.1 < h.1)) ++ (if (l.take k).any (fun a => decide (h.1 ≤ a.1)) then [h] else []) ++ (l.take k).filter (fun a => decide (h.1 < a.1))
theorem infoHeldP : (Tryz.prog.info? 81).map (fun i => (i.zero, i.size, i.bytes)) = some (some (.agg #[.int .i64 0, .int .i64 0]), 2, 16) := by kernel_rfl
theorem any_ge {l : List HeldD} {h : HeldD} {k : Nat} {a : HeldD} (hr : Rise l) (ha : l[k]? = some a) (hd : (l.take k).any (fun a => decide (h.1 ≤ a.1)) = true) : h.1 < a.1 := by
  obtain ⟨x, hx, hx2⟩ := List.any_eq_true.1 hd
  obtain ⟨j, hj⟩ := List.mem_iff_getElem?.1 hx
  have hjk : j < k := by
    have := (List.getElem?_eq_some_iff.1 hj).1
    rw [List.length_take] at this
    omega
  rw [List.getElem?_take_of_lt hjk] at hj
  obtain ⟨hj1, hj2⟩ := List.getElem?_eq_some_iff.1 hj
  obtain ⟨hk1, hk2⟩ := List.getElem?_eq_some_iff.1 ha
  have := List.pairwise_iff_getElem.1 hr j k hj1 hk1 hjk
  rw [hj2, hk2] at this
  simp at hx2
  omega
theorem any_take {l : List HeldD} {h : HeldD} {k : Nat} {a : HeldD} (ha : l[k]? = some a) : (l.take (k + 1)).any (fun a => decide (h.1 ≤ a.1)) = ((l.take k).any (fun a => decide (h.1 ≤ a.1)) || decide (h.1 ≤ a.1)) := by
  rw [List.take_add_one, ha]; simp
/-- no gt ones as long as none is as great -/
theorem gt_nil {l : List HeldD} {h : HeldD} {k : Nat} (hd : (l.take k).any (fun a => decide (h.1 ≤ a.1)) = false) : (l.take k).filter (fun a => decide (h.1 < a.1)) = [] := by
  rw [List.filter_eq_nil_iff]
  intro x hx
  have := List.any_eq_false.1 hd x hx
  simp at this
  simp
  omega
theorem hoK_lt {l : List HeldD} {h : HeldD} {k : Nat} {a : HeldD} (hr : Rise l) (ha : l[k]? = some a) (hl : a.1 < h.1) : (l.take k).any (fun a => decide (h.1 ≤ a.1)) = false ∧ hoK l h (k + 1) = hoK l h k ++ [a] := by
  have hd : (l.take k).any (fun a => decide (h.1 ≤ a.1)) = false := by
    cases hd : (l.take k).any (fun a => decide (h.1 ≤ a.1))
    · rfl
    · have := any_ge hr ha hd; omega
  refine ⟨hd, ?_⟩
  unfold hoK
  rw [any_take ha, hd, gt_nil hd, List.take_add_one, ha]
  have h1 : ¬ h.1 ≤ a.1 := by omega
  have h2 : ¬ h.1 < a.1 := by omega
  simp [hl, h1, h2, gt_nil hd]
theorem hoK_eq {l : List HeldD} {h : HeldD} {k : Nat} {a : HeldD} (hr : Rise l) (ha : l[k]? = some a) (hl : a.1 = h.1) : (l.take k).any (fun a => decide (h.1 ≤ a.1)) = false ∧ hoK l h (k + 1) = hoK l h k ++ [h] := by
  have hd : (l.take k).any (fun a => decide (h.1 ≤ a.1)) = false := by
    cases hd : (l.take k).any (fun a => decide (h.1 ≤ a.1))
    · rfl
    · have := any_ge hr ha hd; omega
  refine ⟨hd, ?_⟩
  unfold hoK
  rw [any_take ha, hd, gt_nil hd, List.take_add_one, ha]
  have h1 : h.1 ≤ a.1 := by omega
  have h2 : ¬ h.1 < a.1 := by omega
  have h3 : ¬ a.1 < h.1 := by omega
  simp [h1, h2, h3, gt_nil hd]
theorem hoK_gt0 {l : List HeldD} {h : HeldD} {k : Nat} {a : HeldD} (ha : l[k]? = some a) (hl : h.1 < a.1) (hd : (l.take k).any (fun a => decide (h.1 ≤ a.1)) = false) : hoK l h (k + 1) = hoK l h k ++ [h] ++ [a] := by
  unfold hoK
  rw [any_take ha, hd, gt_nil hd, List.take_add_one, ha]
  have h1 : h.1 ≤ a.1 := by omega
  have h3 : ¬ a.1 < h.1 := by omega
  simp [h1, hl, h3, gt_nil hd]
theorem hoK_gt1 {l : List HeldD} {h : HeldD} {k : Nat} {a : HeldD} (ha : l[k]? = some a) (hl : h.1 < a.1) (hd : (l.take k).any (fun a => decide (h.1 ≤ a.1)) = true) : hoK l h (k + 1) = hoK l h k ++ [a] := by
  unfold hoK
  rw [any_take ha, hd, List.take_add_one, ha]
  have h3 : ¬ a.1 < h.1 := by omega
  simp [hl, h3]
theorem hoK_end {l : List HeldD} {h : HeldD} : holdN l h = if l.any (fun a => decide (h.1 ≤ a.1)) then hoK l h l.length else hoK l h l.length ++ [h] := by
  unfold hoK holdN
  rw [List.take_length]
  cases hd : l.any (fun a => decide (h.1 ≤ a.1))
  · have hn : l.filter (fun a => decide (h.1 < a.1)) = [] := by
      have := gt_nil (l := l) (h := h) (k := l.length) (by rw [List.take_length]; exact hd)
      rwa [List.take_length] at this
    simp [hn]
  · simp
theorem hoK_len (l : List HeldD) (h : HeldD) (k : Nat) : (hoK l h k).length ≤ 2 * l.length + 1 := by
  unfold hoK
  have h1 := List.length_filter_le (fun a : HeldD => decide (a.1 < h.1)) (l.take k)
  have h2 := List.length_filter_le (fun a : HeldD => decide (h.1 < a.1)) (l.take k)
  rw [List.length_take] at h1 h2
  rw [List.length_append, List.length_append]
  split <;> simp <;> omega
/-- append(out, h) where out lies in a row of its own. -/
theorem wpList_append_held {ops : Array Oper} {rest : List Oper} {o : Oper} {a : Act} {Q : Exit → Act → World → Prop} {wr : World} {B : Nat} {v : Value} {out : List HeldD} {h : HeldD} (hgd : o.guard = none) (s x : Operand)
    (ho : o.op = .call { callee := .builtin .append, args := #[s, x], argTypes := #[25, 25] })
    (hO : wr.ownsRow B 81 2 v out.length (cellsH out)) (hs : a.eval s = v) (hx : a.eval x = .slice (some ⟨wr.heap.size, 0, none⟩) 1 1) (hB : B ≤ wr.heap.size) (hn : out.length ≤ 10000)
    (hk : ∀ p q w', w'.ownsRow B 81 2 (.slice p (out.length + 1) q) (out.length + 1) (cellsH (out ++ [h])) → (wr.alloc (.cells #[.int .i64 h.1, .int .i64 h.2] 81)).grownBy w' v.ownBlock → Below B (wr.alloc (.cells #[.int .i64 h.1, .int .i64 h.2] 81)) w' → wpList Tryz.prog ops Q rest (a.put o.dst (.slice p (out.length + 1) q)) w') : wpList Tryz.prog ops Q (o :: rest) a (wr.alloc (.cells #[.int .i64 h.1, .int .i64 h.2] 81)) := by
  obtain ⟨i0, hi, hz0, hz1, hz2⟩ := info_parts infoHeldP
  have hlt := World.ownsRow.lt hO
  have hrow2 := ownsRow_fr (w' := wr.alloc (.cells #[.int .i64 h.1, .int .i64 h.2] 81)) hO (fun j hj => Below.heap_alloc _ _ j (hlt j hj).2)
  have hnew : ∀ j u, ([.int .i64 h.1, .int .i64 h.2] : List Value)[j]? = some u → (wr.alloc (.cells #[.int .i64 h.1, .int .i64 h.2] 81)).cell? ((⟨wr.heap.size, 0, none⟩ : Addr).add j) = some u := fun j u hj => (Arr.new wr [.int .i64 h.1, .int .i64 h.2] 81).cells j u hj
  have hz : B ≤ (wr.alloc (.cells #[.int .i64 h.1, .int .i64 h.2] 81)).heap.size := by rw [size_alloc]; omega
  refine wpList_append_lies _ hgd s x 25 ho B 81 i0 (.agg #[.int .i64 0, .int .i64 0]) 2 16 Tryz.underlying25 hi hz0 hz1 hz2 rfl (by decide) _ out.length (cellsH out) hs hrow2 ⟨wr.heap.size, 0, none⟩ 1 1 [.int .i64 h.1, .int .i64 h.2] hx rfl hnew (by intro u hu; simp at hu; rcases hu with rfl | rfl <;> rfl) (by decide) (by unfold maxLen; omega) (by omega) hz _ rfl ?_
  intro g6 c6 w6 hown6 hgrow6 hat6 hlt6
  rw [← cellsH_snoc] at hown6
  exact hk _ _ w6 hown6 hgrow6 ((Below.refl B _).grown hgrow6 hz (fun k hk => (hlt k hk).1))
set_option maxRecDepth 4000 in
set_option maxHeartbeats 2000000 in
theorem l14Hold_c (l : List HeldD) (h : HeldD) (p : Option Addr) (q : Nat) (w : World) (hr : RdL holdC w p q l) (hs : Rise l) (hl : l.length ≤ 1000) :
    Calls Tryz.prog 42 #[.slice p l.length q, .agg #[.int .i64 h.1, .int .i64 h.2]] w fun e w' => ∃ v, e = .returned v ∧ w'.ownsRow w.heap.size 81 2 v (holdN l h).length (cellsH (holdN l h)) ∧ Below w.heap.size w w' := by
  have HR : Hid (RdL holdC w p q l) := hr
  have hq1 : l.length ≤ q := hr.1
  have hq2 : q ≤ 2 ^ 63 - 1 := hr.2.1
  have HS : Hid (Rise l) := hs
  have HL : Hid (l.length ≤ 1000) := hl
  have HKS : Hid (∀ k, (hoK l h k).length ≤ 5000) := fun k => by have := hoK_len l h k; omega
  have HKL : Hid (∀ k, (hoK l h k).length ≤ 10000) := fun k => by have := hoK_len l h k; omega
  have BX := alloc_below w (.cells #[.int .i64 h.1, .int .i64 h.2] 81)
  have AX := Arr.new w [.int .i64 h.1, .int .i64 h.2] 81
  have O1 := World.ownsRow_made (base := w.heap.size + 1) (e := 81) (size := 2) (w.alloc (.cells #[.int .i64 h.1, .int .i64 h.2] 81)) #[] 0 (by rw [size_alloc]; exact Nat.le_refl _) (Nat.zero_le _) rfl
  have B1 := Below.mk BX (.cells #[] 81)
  have A1 := AX.old _ (.cells #[] 81)
  have HO0 : Hid (∀ (W : World) v, W.ownsRow (w.heap.size + 1) 81 2 v 0 [] → W.ownsRow (w.heap.size + 1) 81 2 v (hoK l h 0).length (cellsH (hoK l h 0))) := fun W v h => by unfold hoK; simpa [cellsH] using h
  clear hr hs hl AX BX
  go_enter Tryz.func42, Tryz.ntmps42
  go_wp2_with fail
  go_loopw [5, 6, 7] (fun v d i wr => ∃ k : Nat, k ≤ l.length ∧ i = .int .i64 k ∧ d = .bool ((l.take k).any (fun a => decide (h.1 ≤ a.1))) ∧ wr.ownsRow (w.heap.size + 1) 81 2 v (hoK l h k).length (cellsH (hoK l h k)) ∧ Arr wr w.heap.size 81 [.int .i64 h.1, .int .i64 h.2] ∧ w.heap.size + 1 ≤ wr.heap.size ∧ Below w.heap.size w wr)
    (fun _ _ i _ => l.length - (intOf i).toNat)
  case atStart => exact ⟨0, Nat.zero_le _, rfl, by simp, HO0.out _ _ (by rw [size_alloc] at O1; exact O1), A1, by rw [size_alloc, size_alloc]; omega, B1⟩
  case round =>
    clear O1 B1 A1 HO0
    obtain ⟨k, hk, rfl, rfl, hrow, A, hsz, BW⟩ := hrel
    obtain ⟨wq, hwq⟩ : ∃ z, z = wr := ⟨_, rfl⟩
    subst hwq
    obtain ⟨po, qo, rfl, -⟩ := ownsRow_raw hrow
    by_cases hlt : k < l.length
    · have hI : (k : Int) < (l.length : Int) := by omega
      obtain ⟨b, o, e1, hcc⟩ := (HR.out.keep BW).2.2.2 (by omega)
      subst e1
      obtain ⟨a, ha⟩ : ∃ a, l[k]? = some a := ⟨l[k], by simp [hlt]⟩
      obtain ⟨us, hrep, hcell⟩ := hcc k a ha
      obtain rfl := hold_rep hrep
      have m0 := hcell 0 _ rfl
      have m1 := hcell 1 _ rfl
      rw [show holdC.n = 2 from rfl] at m0 m1
      rw [Nat.add_zero] at m0
      have HBw : Hid (b < w.heap.size) := by
        have h0 := HR.out.2.2.2 (by omega)
        obtain ⟨b', o', e', hc'⟩ := h0
        cases e'
        obtain ⟨us', hrep', hcell'⟩ := hc' k a ha
        obtain rfl := hold_rep hrep'
        exact World.block_lt_of_cell? w _ (hcell' 0 _ rfl)
      clear hrep hcell hcc
      have HA : Hid (l[k]? = some a) := ha
      have c0 := (A.cell 0).trans (show _ = some _ from rfl)
      have c1 := (A.cell 1).trans (show _ = some _ from rfl)
      clear ha
      have HNB0 : ∀ j, (Value.slice po (hoK l h k).length qo).ownBlock = some j → w.heap.size + 1 ≤ j := fun j hj => (World.ownsRow.lt hrow j hj).1
      have HLO : Hid ((hoK l h k).length ≤ 10000) := HKL.out k
      clear HNB0
      rcases Int.lt_trichotomy a.1 h.1 with hl | hl | hl
      · obtain ⟨h1, h2⟩ := hoK_lt HS.out HA.out hl
        have hD : Hid ((l.take (k + 1)).any (fun a => decide (h.1 ≤ a.1)) = false) := by show _ = _; rw [any_take HA.out, h1]; simp; omega
        replace h2 : Hid (_ = _) := h2
        have i1 : ¬ (h.1 ≤ a.1) := by omega
        have dk : (a.1 != h.1) = true := by rw [bne_iff_ne]; omega
        rw [h1]
        clear h1 hl
        go_wp2_with fail
        go_quiet (fail)
        have hbq : Below wq.heap.size wq (wq.drewN nq) := ⟨rfl, rfl, rfl, Nat.le_refl _, fun _ _ => rfl⟩
        replace hrow := ownsRow_fr (w' := wq.drewN nq) hrow (fun _ _ => rfl)
        replace m0 := cell_keep m0 hbq
        replace m1 := cell_keep m1 hbq
        replace c0 := cell_keep c0 hbq
        replace c1 := cell_keep c1 hbq
        replace A := A.stay hbq
        replace BW := Below.step BW hbq
        replace hsz := Nat.le_trans hsz hbq.size
        clear hbq
        generalize wq.drewN nq = wv at *
        clear wq
        obtain ⟨wq, hwq⟩ : ∃ z, z = wv := ⟨_, rfl⟩
        subst hwq
        go_wp2_with fail
        go_quiet (fail)
        have hbq : Below wq.heap.size wq (wq.drewN nq) := ⟨rfl, rfl, rfl, Nat.le_refl _, fun _ _ => rfl⟩
        replace hrow := ownsRow_fr (w' := wq.drewN nq) hrow (fun _ _ => rfl)
        replace m0 := cell_keep m0 hbq
        replace m1 := cell_keep m1 hbq
        replace c0 := cell_keep c0 hbq
        replace c1 := cell_keep c1 hbq
        replace A := A.stay hbq
        replace BW := Below.step BW hbq
        replace hsz := Nat.le_trans hsz hbq.size
        clear hbq
        generalize wq.drewN nq = wv at *
        clear wq
        obtain ⟨wq, hwq⟩ : ∃ z, z = wv := ⟨_, rfl⟩
        subst hwq
        go_wp2_with (at_builtin; refine wpList_append_held (out := (hoK l h k)) (h := a) rfl (.tmp 39) (.tmp 44) rfl (by first | exact hrow | (rw [List.length_append]; exact hrow)) rfl rfl hsz HLO.out ?_; intro p6 q6 w6 hrow6 hg6 hb6)
        have hlt6 := World.ownsRow.lt hrow
        have hal := alloc_below wq (.cells #[.int .i64 a.1, .int .i64 a.2] 81)
        replace m0 := cell_keep m0 hal
        replace m1 := cell_keep m1 hal
        replace c0 := cell_keep c0 hal
        replace c1 := cell_keep c1 hal
        replace A := (A.stay hal).other hg6 (fun e => by have h1 := (hlt6 _ e).1; omega)
        replace m0 := cell_other m0 hg6 (fun e => by have h1 := (hlt6 _ e).1; have h2 := HBw.out; simp at h1; omega)
        replace m1 := cell_other m1 hg6 (fun e => by have h1 := (hlt6 _ e).1; have h2 := HBw.out; simp at h1; omega)
        replace c0 := cell_other c0 hg6 (fun e => by have h1 := (hlt6 _ e).1; have h2 := HBw.out; simp at h1; omega)
        replace c1 := cell_other c1 hg6 (fun e => by have h1 := (hlt6 _ e).1; have h2 := HBw.out; simp at h1; omega)
        have hsz6 : w.heap.size + 1 ≤ w6.heap.size := Nat.le_trans (Nat.le_trans hsz hal.size) hb6.size
        replace BW := (Below.step BW hal).trans (hb6.mono (Nat.le_succ _))
        clear hrow hsz hg6 hb6 hlt6 hal
        have hrow := hrow6
        have hsz := hsz6
        clear hrow6 hsz6
        try simp only [List.length_append, List.length_singleton] at hrow
        obtain ⟨wq, hwq⟩ : ∃ z, z = w6 := ⟨_, rfl⟩
        subst hwq
        clear m0 m1 c0 c1
        go_roundw
        case rel => exact ⟨k + 1, by omega, by go_num, by rw [hD.out], by rw [h2.out]; simp only [List.length_append, List.length_singleton]; exact hrow, A, hsz, BW⟩
        case measure => simp [intOf]; omega
      · obtain ⟨h1, h2⟩ := hoK_eq HS.out HA.out hl
        have hD : Hid ((l.take (k + 1)).any (fun a => decide (h.1 ≤ a.1)) = true) := by show _ = _; rw [any_take HA.out, h1]; simp; omega
        replace h2 : Hid (_ = _) := h2
        have i1 : h.1 ≤ a.1 := by omega
        have dk : (a.1 != h.1) = false := by rw [bne_eq_false_iff_eq]; omega
        rw [h1]
        clear h1 hl
        go_wp2_with fail
        go_quiet (fail)
        have hbq : Below wq.heap.size wq (wq.drewN nq) := ⟨rfl, rfl, rfl, Nat.le_refl _, fun _ _ => rfl⟩
        replace hrow := ownsRow_fr (w' := wq.drewN nq) hrow (fun _ _ => rfl)
        replace m0 := cell_keep m0 hbq
        replace m1 := cell_keep m1 hbq
        replace c0 := cell_keep c0 hbq
        replace c1 := cell_keep c1 hbq
        replace A := A.stay hbq
        replace BW := Below.step BW hbq
        replace hsz := Nat.le_trans hsz hbq.size
        clear hbq
        generalize wq.drewN nq = wv at *
        clear wq
        obtain ⟨wq, hwq⟩ : ∃ z, z = wv := ⟨_, rfl⟩
        subst hwq
        go_wp2_with (at_builtin; refine wpList_append_held (out := (hoK l h k)) (h := h) rfl (.tmp 27) (.tmp 29) rfl (by first | exact hrow | (rw [List.length_append]; exact hrow)) rfl rfl hsz HLO.out ?_; intro p6 q6 w6 hrow6 hg6 hb6)
        have hlt6 := World.ownsRow.lt hrow
        have hal := alloc_below wq (.cells #[.int .i64 h.1, .int .i64 h.2] 81)
        replace m0 := cell_keep m0 hal
        replace m1 := cell_keep m1 hal
        replace c0 := cell_keep c0 hal
        replace c1 := cell_keep c1 hal
        replace A := (A.stay hal).other hg6 (fun e => by have h1 := (hlt6 _ e).1; omega)
        replace m0 := cell_other m0 hg6 (fun e => by have h1 := (hlt6 _ e).1; have h2 := HBw.out; simp at h1; omega)
        replace m1 := cell_other m1 hg6 (fun e => by have h1 := (hlt6 _ e).1; have h2 := HBw.out; simp at h1; omega)
        replace c0 := cell_other c0 hg6 (fun e => by have h1 := (hlt6 _ e).1; have h2 := HBw.out; simp at h1; omega)
        replace c1 := cell_other c1 hg6 (fun e => by have h1 := (hlt6 _ e).1; have h2 := HBw.out; simp at h1; omega)
        have hsz6 : w.heap.size + 1 ≤ w6.heap.size := Nat.le_trans (Nat.le_trans hsz hal.size) hb6.size
        replace BW := (Below.step BW hal).trans (hb6.mono (Nat.le_succ _))
        clear hrow hsz hg6 hb6 hlt6 hal
        have hrow := hrow6
        have hsz := hsz6
        clear hrow6 hsz6
        try simp only [List.length_append, List.length_singleton] at hrow
        obtain ⟨wq, hwq⟩ : ∃ z, z = w6 := ⟨_, rfl⟩
        subst hwq
        go_wp2_with fail
        go_quiet (fail)
        have hbq : Below wq.heap.size wq (wq.drewN nq) := ⟨rfl, rfl, rfl, Nat.le_refl _, fun _ _ => rfl⟩
        replace hrow := ownsRow_fr (w' := wq.drewN nq) hrow (fun _ _ => rfl)
        replace m0 := cell_keep m0 hbq
        replace m1 := cell_keep m1 hbq
        replace c0 := cell_keep c0 hbq
        replace c1 := cell_keep c1 hbq
        replace A := A.stay hbq
        replace BW := Below.step BW hbq
        replace hsz := Nat.le_trans hsz hbq.size
        clear hbq
        generalize wq.drewN nq = wv at *
        clear wq
        obtain ⟨wq, hwq⟩ : ∃ z, z = wv := ⟨_, rfl⟩
        subst hwq
        go_wp2_with fail
        clear m0 m1 c0 c1
        go_roundw
        case rel => exact ⟨k + 1, by omega, by go_num, by rw [hD.out], by rw [h2.out]; simp only [List.length_append, List.length_singleton]; exact hrow, A, hsz, BW⟩
        case measure => simp [intOf]; omega
      · cases hd : (l.take k).any (fun a => decide (h.1 ≤ a.1))
        · have h1 := hd
          have h2 : Hid (_ = _) := hoK_gt0 HA.out hl hd
          have hD : Hid ((l.take (k + 1)).any (fun a => decide (h.1 ≤ a.1)) = true) := by show _ = _; rw [any_take HA.out, h1]; simp; omega
          have i1 : h.1 ≤ a.1 := by omega
          have dk : (a.1 != h.1) = true := by rw [bne_iff_ne]; omega
          clear h1 hl hd
          go_wp2_with fail
          go_quiet (fail)
          have hbq : Below wq.heap.size wq (wq.drewN nq) := ⟨rfl, rfl, rfl, Nat.le_refl _, fun _ _ => rfl⟩
          replace hrow := ownsRow_fr (w' := wq.drewN nq) hrow (fun _ _ => rfl)
          replace m0 := cell_keep m0 hbq
          replace m1 := cell_keep m1 hbq
          replace c0 := cell_keep c0 hbq
          replace c1 := cell_keep c1 hbq
          replace A := A.stay hbq
          replace BW := Below.step BW hbq
          replace hsz := Nat.le_trans hsz hbq.size
          clear hbq
          generalize wq.drewN nq = wv at *
          clear wq
          obtain ⟨wq, hwq⟩ : ∃ z, z = wv := ⟨_, rfl⟩
          subst hwq
          go_wp2_with (at_builtin; refine wpList_append_held (out := (hoK l h k)) (h := h) rfl (.tmp 27) (.tmp 29) rfl (by first | exact hrow | (rw [List.length_append]; exact hrow)) rfl rfl hsz HLO.out ?_; intro p6 q6 w6 hrow6 hg6 hb6)
          have hlt6 := World.ownsRow.lt hrow
          have hal := alloc_below wq (.cells #[.int .i64 h.1, .int .i64 h.2] 81)
          replace m0 := cell_keep m0 hal
          replace m1 := cell_keep m1 hal
          replace c0 := cell_keep c0 hal
          replace c1 := cell_keep c1 hal
          replace A := (A.stay hal).other hg6 (fun e => by have h1 := (hlt6 _ e).1; omega)
          replace m0 := cell_other m0 hg6 (fun e => by have h1 := (hlt6 _ e).1; have h2 := HBw.out; simp at h1; omega)
          replace m1 := cell_other m1 hg6 (fun e => by have h1 := (hlt6 _ e).1; have h2 := HBw.out; simp at h1; omega)
          replace c0 := cell_other c0 hg6 (fun e => by have h1 := (hlt6 _ e).1; have h2 := HBw.out; simp at h1; omega)
          replace c1 := cell_other c1 hg6 (fun e => by have h1 := (hlt6 _ e).1; have h2 := HBw.out; simp at h1; omega)
          have hsz6 : w.heap.size + 1 ≤ w6.heap.size := Nat.le_trans (Nat.le_trans hsz hal.size) hb6.size
          replace BW := (Below.step BW hal).trans (hb6.mono (Nat.le_succ _))
          clear hrow hsz hg6 hb6 hlt6 hal
          have hrow := hrow6
          have hsz := hsz6
          clear hrow6 hsz6
          try simp only [List.length_append, List.length_singleton] at hrow
          obtain ⟨wq, hwq⟩ : ∃ z, z = w6 := ⟨_, rfl⟩
          subst hwq
          go_wp2_with fail
          go_quiet (fail)
          have hbq : Below wq.heap.size wq (wq.drewN nq) := ⟨rfl, rfl, rfl, Nat.le_refl _, fun _ _ => rfl⟩
          replace hrow := ownsRow_fr (w' := wq.drewN nq) hrow (fun _ _ => rfl)
          replace m0 := cell_keep m0 hbq
          replace m1 := cell_keep m1 hbq
          replace c0 := cell_keep c0 hbq
          replace c1 := cell_keep c1 hbq
          replace A := A.stay hbq
          replace BW := Below.step BW hbq
          replace hsz := Nat.le_trans hsz hbq.size
          clear hbq
          generalize wq.drewN nq = wv at *
          clear wq
          obtain ⟨wq, hwq⟩ : ∃ z, z = wv := ⟨_, rfl⟩
          subst hwq
          go_wp2_with (at_builtin; refine wpList_append_held (out := (hoK l h k ++ [h])) (h := a) rfl (.tmp 39) (.tmp 44) rfl (by first | exact hrow | (rw [List.length_append]; exact hrow)) rfl rfl hsz (by have := HKS.out k; simp; omega) ?_; intro p6 q6 w6 hrow6 hg6 hb6)
          have hlt6 := World.ownsRow.lt hrow
          have hal := alloc_below wq (.cells #[.int .i64 a.1, .int .i64 a.2] 81)
          replace m0 := cell_keep m0 hal
          replace m1 := cell_keep m1 hal
          replace c0 := cell_keep c0 hal
          replace c1 := cell_keep c1 hal
          replace A := (A.stay hal).other hg6 (fun e => by have h1 := (hlt6 _ e).1; omega)
          replace m0 := cell_other m0 hg6 (fun e => by have h1 := (hlt6 _ e).1; have h2 := HBw.out; simp at h1; omega)
          replace m1 := cell_other m1 hg6 (fun e => by have h1 := (hlt6 _ e).1; have h2 := HBw.out; simp at h1; omega)
          replace c0 := cell_other c0 hg6 (fun e => by have h1 := (hlt6 _ e).1; have h2 := HBw.out; simp at h1; omega)
          replace c1 := cell_other c1 hg6 (fun e => by have h1 := (hlt6 _ e).1; have h2 := HBw.out; simp at h1; omega)
          have hsz6 : w.heap.size + 1 ≤ w6.heap.size := Nat.le_trans (Nat.le_trans hsz hal.size) hb6.size
          replace BW := (Below.step BW hal).trans (hb6.mono (Nat.le_succ _))
          clear hrow hsz hg6 hb6 hlt6 hal
          have hrow := hrow6
          have hsz := hsz6
          clear hrow6 hsz6
          try simp only [List.length_append, List.length_singleton] at hrow
          obtain ⟨wq, hwq⟩ : ∃ z, z = w6 := ⟨_, rfl⟩
          subst hwq
          clear m0 m1 c0 c1
          go_roundw
          case rel => exact ⟨k + 1, by omega, by go_num, by rw [hD.out], by rw [h2.out]; simp only [List.length_append, List.length_singleton]; exact hrow, A, hsz, BW⟩
          case measure => simp [intOf]; omega
        · have h1 := hd
          have h2 : Hid (_ = _) := hoK_gt1 HA.out hl hd
          have hD : Hid ((l.take (k + 1)).any (fun a => decide (h.1 ≤ a.1)) = true) := by show _ = _; rw [any_take HA.out, h1]; rfl
          have dk : (a.1 != h.1) = true := by rw [bne_iff_ne]; omega
          clear h1 hl hd
          go_wp2_with fail
          go_quiet (fail)
          have hbq : Below wq.heap.size wq (wq.drewN nq) := ⟨rfl, rfl, rfl, Nat.le_refl _, fun _ _ => rfl⟩
          replace hrow := ownsRow_fr (w' := wq.drewN nq) hrow (fun _ _ => rfl)
          replace m0 := cell_keep m0 hbq
          replace m1 := cell_keep m1 hbq
          replace c0 := cell_keep c0 hbq
          replace c1 := cell_keep c1 hbq
          replace A := A.stay hbq
          replace BW := Below.step BW hbq
          replace hsz := Nat.le_trans hsz hbq.size
          clear hbq
          generalize wq.drewN nq = wv at *
          clear wq
          obtain ⟨wq, hwq⟩ : ∃ z, z = wv := ⟨_, rfl⟩
          subst hwq
          go_wp2_with fail
          go_quiet (fail)
          have hbq : Below wq.heap.size wq (wq.drewN nq) := ⟨rfl, rfl, rfl, Nat.le_refl _, fun _ _ => rfl⟩
          replace hrow := ownsRow_fr (w' := wq.drewN nq) hrow (fun _ _ => rfl)
          replace m0 := cell_keep m0 hbq
          replace m1 := cell_keep m1 hbq
          replace c0 := cell_keep c0 hbq
          replace c1 := cell_keep c1 hbq
          replace A := A.stay hbq
          replace BW := Below.step BW hbq
          replace hsz := Nat.le_trans hsz hbq.size
          clear hbq
          generalize wq.drewN nq = wv at *
          clear wq
          obtain ⟨wq, hwq⟩ : ∃ z, z = wv := ⟨_, rfl⟩
          subst hwq
          go_wp2_with (at_builtin; refine wpList_append_held (out := (hoK l h k)) (h := a) rfl (.tmp 39) (.tmp 44) rfl (by first | exact hrow | (rw [List.length_append]; exact hrow)) rfl rfl hsz HLO.out ?_; intro p6 q6 w6 hrow6 hg6 hb6)
          have hlt6 := World.ownsRow.lt hrow
          have hal := alloc_below wq (.cells #[.int .i64 a.1, .int .i64 a.2] 81)
          replace m0 := cell_keep m0 hal
          replace m1 := cell_keep m1 hal
          replace c0 := cell_keep c0 hal
          replace c1 := cell_keep c1 hal
          replace A := (A.stay hal).other hg6 (fun e => by have h1 := (hlt6 _ e).1; omega)
          replace m0 := cell_other m0 hg6 (fun e => by have h1 := (hlt6 _ e).1; have h2 := HBw.out; simp at h1; omega)
          replace m1 := cell_other m1 hg6 (fun e => by have h1 := (hlt6 _ e).1; have h2 := HBw.out; simp at h1; omega)
          replace c0 := cell_other c0 hg6 (fun e => by have h1 := (hlt6 _ e).1; have h2 := HBw.out; simp at h1; omega)
          replace c1 := cell_other c1 hg6 (fun e => by have h1 := (hlt6 _ e).1; have h2 := HBw.out; simp at h1; omega)
          have hsz6 : w.heap.size + 1 ≤ w6.heap.size := Nat.le_trans (Nat.le_trans hsz hal.size) hb6.size
          replace BW := (Below.step BW hal).trans (hb6.mono (Nat.le_succ _))
          clear hrow hsz hg6 hb6 hlt6 hal
          have hrow := hrow6
          have hsz := hsz6
          clear hrow6 hsz6
          try simp only [List.length_append, List.length_singleton] at hrow
          obtain ⟨wq, hwq⟩ : ∃ z, z = w6 := ⟨_, rfl⟩
          subst hwq
          clear m0 m1 c0 c1
          go_roundw
          case rel => exact ⟨k + 1, by omega, by go_num, by rw [hD.out], by rw [h2.out]; simp only [List.length_append, List.length_singleton]; exact hrow, A, hsz, BW⟩
          case measure => simp [intOf]; omega
    · have e : k = l.length := by omega
      subst e
      have hE := hoK_end (l := l) (h := h)
      rw [List.take_length]
      have c0 := (A.cell 0).trans (show _ = some _ from rfl)
      have c1 := (A.cell 1).trans (show _ = some _ from rfl)
      cases hd : l.any (fun a => decide (h.1 ≤ a.1))
      · have h2 : Hid (holdN l h = hoK l h l.length ++ [h]) := by show _ = _; rw [hE, hd]; rfl
        clear hE hd
        go_wp2_with (at_builtin; refine wpList_append_held (out := (hoK l h l.length)) (h := h) rfl (.tmp 48) (.tmp 50) rfl (by first | exact hrow | (rw [List.length_append]; exact hrow)) rfl rfl hsz (HKL.out l.length) ?_; intro p6 q6 w6 hrow6 hg6 hb6)
        have hlt6 := World.ownsRow.lt hrow
        have hal := alloc_below wq (.cells #[.int .i64 h.1, .int .i64 h.2] 81)
        replace c0 := cell_keep c0 hal
        replace c1 := cell_keep c1 hal
        replace A := (A.stay hal).other hg6 (fun e => by have h1 := (hlt6 _ e).1; omega)
        replace c0 := cell_other c0 hg6 (fun e => by have h1 := (hlt6 _ e).1; simp at h1; omega)
        replace c1 := cell_other c1 hg6 (fun e => by have h1 := (hlt6 _ e).1; simp at h1; omega)
        have hsz6 : w.heap.size + 1 ≤ w6.heap.size := Nat.le_trans (Nat.le_trans hsz hal.size) hb6.size
        replace BW := (Below.step BW hal).trans (hb6.mono (Nat.le_succ _))
        clear hrow hsz hg6 hb6 hlt6 hal
        have hrow := hrow6
        have hsz := hsz6
        clear hrow6 hsz6
        try simp only [List.length_append, List.length_singleton] at hrow
        obtain ⟨wq, hwq⟩ : ∃ z, z = w6 := ⟨_, rfl⟩
        subst hwq
        clear c0 c1
        go_wp2_with fail
        go_ret
        exact ⟨_, rfl, by rw [h2.out]; simp only [List.length_append, List.length_singleton]; exact ownsRow_low hrow (Nat.le_succ _), BW⟩
      · have h2 : Hid (holdN l h = hoK l h l.length) := by show _ = _; rw [hE, hd]; rfl
        clear hE hd
        clear c0 c1
        go_wp2_with fail
        go_ret
        exact ⟨_, rfl, by rw [h2.out]; exact ownsRow_low hrow (Nat.le_succ _), BW⟩
theorem wpList_append_rawHd {w : World} {ops : Array Oper} {rest : List Oper} {o : Oper} {a : Act} {Q : Exit → Act → World → Prop} (hgd : o.guard = none) (s x : Operand)
    (ho : o.op = .call { callee := .builtin .append, args := #[s, x], argTypes := #[25, 25] })
    (B : Nat) (v : Value) (n : Nat) (xs : List Value) (hs : a.eval s = v) (hown : w.ownsRow B 81 2 v n xs) (p : Option Addr) (q m : Nat) (ys : List Value) (hx : a.eval x = .slice p m q) (hr : Raw w p q m 2 ys) (h1 : ∀ u ∈ ys, u.oneCell' = true)
    (hl : n + m ≤ 1000000) (hB : B ≤ w.heap.size)
    (h : ∀ v' w', w'.ownsRow B 81 2 v' (n + m) (xs ++ ys) → w.grownBy w' v.ownBlock → wpList Tryz.prog ops Q rest (a.put o.dst v') w') : wpList Tryz.prog ops Q (o :: rest) a w := by
  obtain ⟨i0, hi, hz0, hz1, hz2⟩ := info_parts infoHeldP
  cases p with
  | none =>
    obtain ⟨rfl, rfl, rfl⟩ := hr.none_len
    refine wpList_append_own_none hgd s x _ ho B _ i0 2 Tryz.underlying25 hi v n _ hs hown hx ?_
    exact h v w (by rw [List.append_nil]; exact hown) (World.grownBy.refl _ _)
  | some ad =>
    refine wpList_append_own _ hgd s x _ ho B 81 i0 (.agg #[.int .i64 0, .int .i64 0]) 2 16 Tryz.underlying25 hi hz0 hz1 hz2 rfl (by decide) v n xs hs hown ad m q ys hx hr.1 ?_ h1 (by unfold maxLen; omega) (by omega) hB fun v' w' h2 h3 _ => h v' w' h2 h3
    intro j u hu
    have hj : j < m * 2 := by rw [← hr.1]; exact (List.getElem?_eq_some_iff.1 hu).1
    obtain ⟨b, off, e, hc⟩ := hr.2.2.2.2 (by omega)
    cases e
    rw [addr_add]
    exact hc j u hu
set_option maxRecDepth 4000 in
set_option maxHeartbeats 4000000 in
theorem l14Copy_c (x : SesD) (us : List Value) (w : World) (h : sessionC.rep w x us) (hS : Ses x) :
    Calls Tryz.prog 26 #[.agg us.toArray] w fun e w' => ∃ s1 t1 s3 t3 s4 t4 s5 t5 xs fp, e = .returned (.agg #[.slice s1 x.1.length t1, .int .i64 x.2.1, .slice s3 x.2.2.1.length t3, .slice s4 x.2.2.2.1.length t4, .slice s5 x.2.2.2.2.length t5]) ∧ OwnL 22 bytC w' w.heap.size (.slice s4 x.2.2.2.1.length t4) x.2.2.2.1 xs fp ∧ Below w.heap.size w w' := by
  obtain ⟨p1, q1, p3, q3, p4, q4, p5, q5, rfl, r1, r3, r4, r5⟩ := session_rep h
  have A0 := Arr.new w [.slice p1 x.1.length q1, .int .i64 x.2.1, .slice p3 x.2.2.1.length q3, .slice p4 x.2.2.2.1.length q4, .slice p5 x.2.2.2.2.length q5] 27
  have B0 := alloc_below w (.cells #[.slice p1 x.1.length q1, .int .i64 x.2.1, .slice p3 x.2.2.1.length q3, .slice p4 x.2.2.2.1.length q4, .slice p5 x.2.2.2.2.length q5] 27)
  have R := Arr.new (w.alloc (.cells #[.slice p1 x.1.length q1, .int .i64 x.2.1, .slice p3 x.2.2.1.length q3, .slice p4 x.2.2.2.1.length q4, .slice p5 x.2.2.2.2.length q5] 27)) [.slice none 0 0, .int .i64 0, .slice none 0 0, .slice none 0 0, .slice none 0 0] 27
  rw [size_alloc] at R
  have A := A0.old _ (.cells #[.slice none 0 0, .int .i64 0, .slice none 0 0, .slice none 0 0, .slice none 0 0] 27)
  have BW := Below.mk B0 (.cells #[.slice none 0 0, .int .i64 0, .slice none 0 0, .slice none 0 0, .slice none 0 0] 27)
  have hz2 : Hid (((w.alloc (.cells #[.slice p1 x.1.length q1, .int .i64 x.2.1, .slice p3 x.2.2.1.length q3, .slice p4 x.2.2.2.1.length q4, .slice p5 x.2.2.2.2.length q5] 27)).alloc (.cells #[.slice none 0 0, .int .i64 0, .slice none 0 0, .slice none 0 0, .slice none 0 0] 27)).heap.size = w.heap.size + 2) := by show _ = _; rw [size_alloc, size_alloc]
  have hres : Hid ((Tryz.prog.info? 27).map (·.size) = some 5) := by show _ = _; kernel_rfl
  have R1 : Hid (∀ V, Below w.heap.size w V → Rd V p1 q1 x.1) := fun V hV => r1.keep hV
  have R3 : Hid (∀ V, Below w.heap.size w V → RdL bytC V p3 q3 x.2.2.1) := fun V hV => r3.keep hV
  have R4 : Hid (∀ V, Below w.heap.size w V → RdL bytC V p4 q4 x.2.2.2.1) := fun V hV => r4.keep hV
  obtain ⟨xh, rh, ph⟩ := r5.raw
  have R5 : Hid (∀ V, Below w.heap.size w V → Raw V p5 q5 x.2.2.2.2.length 2 xh) := fun V hV => rh.keep hV
  have OH : Hid (∀ u ∈ xh, u.oneCell' = true) := ph.one
  have H1 : Hid (x.1.length ≤ 1000) := by show _ ≤ _; have := hS.len; omega
  have H3 : Hid ((∀ c ∈ x.2.2.1, c.length ≤ 100000) ∧ x.2.2.1.length ≤ 1000) := ⟨fun c hc => by have := (ctxB_parts (hS.cx c (List.mem_append_left _ hc))).2; omega, by have := hS.ln.1; omega⟩
  have H4 : Hid ((∀ c ∈ x.2.2.2.1, c.length ≤ 100000) ∧ x.2.2.2.1.length ≤ 1000) := ⟨fun c hc => by have := (ctxB_parts (hS.cx c (List.mem_append_right _ hc))).2; omega, by have := hS.ln.2.1; omega⟩
  have H5 : Hid (x.2.2.2.2.length ≤ 1000) := by show _ ≤ _; have := hS.ln.2.2; omega
  have c0 := (A.cell 0).trans (show _ = some _ from rfl)
  have c1 := (A.cell 1).trans (show _ = some _ from rfl)
  have c2 := (A.cell 2).trans (show _ = some _ from rfl)
  have c3 := (A.cell 3).trans (show _ = some _ from rfl)
  have c4 := (A.cell 4).trans (show _ = some _ from rfl)
  clear h hS r1 r3 r4 r5 rh ph A0 B0
  go_enter Tryz.func26, Tryz.ntmps26
  go_wp2_with fail
  generalize hV : (w.alloc (.cells #[.slice p1 x.1.length q1, .int .i64 x.2.1, .slice p3 x.2.2.1.length q3, .slice p4 x.2.2.2.1.length q4, .slice p5 x.2.2.2.2.length q5] 27)).alloc (.cells #[.slice none 0 0, .int .i64 0, .slice none 0 0, .slice none 0 0, .slice none 0 0] 27) = V at *
  have hzV : Hid (V.heap.size = w.heap.size + 2) := hz2.out
  have hbl : w.heap.size < V.heap.size := A.lt
  clear hV hz2
  apply share
  case h =>
    intro JN
    have BB := Below.refl V.heap.size V
    have hne := Gen.low_some V.heap.size V
    have g0 := Gen.low_cell (B := V.heap.size) (c0) (hbl)
    have g1 := Gen.low_cell (B := V.heap.size) (c1) (hbl)
    have g2 := Gen.low_cell (B := V.heap.size) (c2) (hbl)
    have g3 := Gen.low_cell (B := V.heap.size) (c3) (hbl)
    have g4 := Gen.low_cell (B := V.heap.size) (c4) (hbl)
    refine Gen.wp_region_pick (Gen.low_pre V.heap.size) [0, 1, 3, 4, 5, 6, 8, 9, 12, 13] 16 6 1 rfl rfl rfl (by kernel_rfl) (by kernel_rfl) (by kernel_rfl) (by kernel_rfl) ?_
    simp only [opsAt, List.getElem?_toArray, List.getElem?_cons_zero, List.getElem?_cons_succ]
    repeat (go_big_quiet_step (fail))
    refine wpQuiet_nil ?_
    clear g0 g1 g2 g3 g4
    refine Gen.wpM_two (i := 2) (j := 11) (by kernel_rfl) ?_ ?_
    · skip
      refine Gen.mOp_call rfl (by go_simp) 16 _ #[.slice p1 x.1.length q1] (fun w => by go_simp) rfl ?_
      rintro _ ⟨n9, rfl⟩
      obtain ⟨sg, hsg⟩ : ∃ sg : HW V, V.drewN n9 = sg.w := ⟨⟨V.drewN n9, ⟨rfl, rfl, rfl, Nat.le_refl _, fun _ _ => rfl⟩⟩, rfl⟩
      rw [hsg]
      clear hsg
      have BS : Below _ _ sg.w := BB.trans (sg.h.mono BB.size)
      refine (l1Copy_c p1 q1 x.1 _ (R1.out _ (BW.trans (BS.mono BW.size))) (by have := H1.out; omega)).mono ?_
      rintro e wg1 ⟨u1, rfl, k1, hbx⟩
      obtain ⟨s1, t1, rfl, -⟩ := k1.rd
      have hbg := Below.step sg.h hbx
      refine ⟨_, rfl, ⟨⟨wg1, hbx.mono BS.size⟩, rfl⟩, ?_⟩
      have hbL := hbg.mono BB.size
      replace BB := BB.trans hbL
      clear hbg hbx hbL BS sg k1
      replace hne := Gen.low_some V.heap.size wg1
      refine Gen.wpM_two (i := 7) (j := 11) (by kernel_rfl) ?_ ?_
      · skip
        refine Gen.mOp_call rfl (by go_simp) 48 _ #[.slice p3 x.2.2.1.length q3] (fun w => by go_simp) rfl ?_
        rintro _ ⟨n9, rfl⟩
        obtain ⟨sg, hsg⟩ : ∃ sg : HW wg1, wg1.drewN n9 = sg.w := ⟨⟨wg1.drewN n9, ⟨rfl, rfl, rfl, Nat.le_refl _, fun _ _ => rfl⟩⟩, rfl⟩
        rw [hsg]
        clear hsg
        have BS : Below _ _ sg.w := BB.trans (sg.h.mono BB.size)
        refine (l14Lists_c x.2.2.1 p3 q3 _ (R3.out _ (BW.trans (BS.mono BW.size))) H3.out.1 H3.out.2).mono ?_
        rintro e wg2 ⟨u2, xs2, fp2, rfl, k2, hbx⟩
        obtain ⟨s3, t3, rfl, -⟩ := k2.rd
        have hbg := Below.step sg.h hbx
        refine ⟨_, rfl, ⟨⟨wg2, hbx.mono BS.size⟩, rfl⟩, ?_⟩
        have hbL := hbg.mono BB.size
        replace BB := BB.trans hbL
        clear hbg hbx hbL BS sg k2
        replace hne := Gen.low_some V.heap.size wg2
        refine Gen.wpM_two (i := 10) (j := 11) (by kernel_rfl) ?_ ?_
        · skip
          refine Gen.mOp_call rfl (by go_simp) 48 _ #[.slice p4 x.2.2.2.1.length q4] (fun w => by go_simp) rfl ?_
          rintro _ ⟨n9, rfl⟩
          obtain ⟨sg, hsg⟩ : ∃ sg : HW wg2, wg2.drewN n9 = sg.w := ⟨⟨wg2.drewN n9, ⟨rfl, rfl, rfl, Nat.le_refl _, fun _ _ => rfl⟩⟩, rfl⟩
          rw [hsg]
          clear hsg
          have BS : Below _ _ sg.w := BB.trans (sg.h.mono BB.size)
          refine (l14Lists_c x.2.2.2.1 p4 q4 _ (R4.out _ (BW.trans (BS.mono BW.size))) H4.out.1 H4.out.2).mono ?_
          rintro e wg3 ⟨u3, xs3, fp3, rfl, k3, hbx⟩
          obtain ⟨s4, t4, rfl, -⟩ := k3.rd
          have hbg := Below.step sg.h hbx
          refine ⟨_, rfl, ⟨⟨wg3, hbx.mono BS.size⟩, rfl⟩, ?_⟩
          have hbL := hbg.mono BB.size
          have KU := (k3.low BS.size : OwnL 22 bytC _ V.heap.size (.slice s4 x.2.2.2.1.length t4) x.2.2.2.1 xs3 fp3)
          replace BB := BB.trans hbL
          clear hbg hbx hbL BS sg k3
          replace hne := Gen.low_some V.heap.size wg3
          refine Gen.wpM_only (i := 11) (by kernel_rfl) ?_
          refine Gen.mOp_make rfl (by go_simp) ?_
          rintro _ ⟨n9, rfl⟩
          obtain ⟨sg, hsg⟩ : ∃ sg : HW wg3, wg3.drewN n9 = sg.w := ⟨⟨wg3.drewN n9, ⟨rfl, rfl, rfl, Nat.le_refl _, fun _ _ => rfl⟩⟩, rfl⟩
          rw [hsg]
          clear hsg
          have BS : Below _ _ sg.w := BB.trans (sg.h.mono BB.size)
          refine ⟨.slice (some ⟨sg.w.heap.size, 0, none⟩) 0 0, sg.w.alloc (.cells #[] 81), by go_simp, ⟨⟨_, (alloc_below _ _).mono BS.size⟩, rfl⟩, ?_⟩
          have hbg := Below.step sg.h (alloc_below sg.w (.cells #[] 81))
          have hbL := hbg.mono BB.size
          have OZ := (World.ownsRow_made (base := V.heap.size) (e := 81) (size := 2) sg.w #[] 0 BS.size (Nat.zero_le _) rfl)
          have NE := (show ∀ k, k ∈ (Value.slice s4 x.2.2.2.1.length t4).ownBlock.toList ++ fp3 → k ≠ sg.w.heap.size from fun k h e => by have h1 := (KU.ins k h).2; have h2 := sg.h.size; omega)
          replace KU := KU.stay hbg
          replace BB := BB.trans hbL
          clear hbg hbL BS
          replace hne := Gen.low_some V.heap.size (sg.w.alloc (.cells #[] 81))
          generalize hW : (sg.w.alloc (.cells #[] 81)) = wg4 at *
          clear hW
          generalize sg.w.heap.size = gz at *
          clear sg
          refine Gen.wpM_only (i := 14) (by kernel_rfl) ?_
          refine Gen.mOp_list rfl (by go_simp) (by kernel_rfl) ?_
          rintro _ ⟨n9, rfl⟩
          obtain ⟨sg, hsg⟩ : ∃ sg : HW wg4, wg4.drewN n9 = sg.w := ⟨⟨wg4.drewN n9, ⟨rfl, rfl, rfl, Nat.le_refl _, fun _ _ => rfl⟩⟩, rfl⟩
          rw [hsg]
          clear hsg
          have BS : Below _ _ sg.w := BB.trans (sg.h.mono BB.size)
          replace KU := KU.stay sg.h
          replace OZ := ownsRow_fr OZ (fun j hj => sg.h.block j (World.ownsRow.lt OZ j hj).2)
          refine wpList_append_rawHd rfl (.tmp 14) (.tmp 16) rfl V.heap.size (.slice (some ⟨gz, 0, none⟩) 0 0) 0 [] rfl OZ p5 q5 _ xh rfl (R5.out _ (BW.trans (BS.mono BW.size))) OH.out (by have := H5.out; omega) BS.size ?_
          intro v9 wg5 O9 hg9
          rw [Nat.zero_add, List.nil_append] at O9
          obtain ⟨s5, t5, rfl, -⟩ := ownsRow_raw O9
          have hbL : Below V.heap.size sg.w wg5 := (Below.refl _ _).grown hg9 BS.size (fun k hk => (World.ownsRow.lt OZ k hk).1)
          refine ⟨rfl, hbL, ?_⟩
          replace hbL := (sg.h.mono BB.size).trans hbL
          replace KU := KU.other (Only.grown hg9) (fun k hk e => NE k hk (by simpa [Value.ownBlock] using e))
          clear OZ
          replace BB := BB.trans hbL
          clear hbL BS O9 hg9 sg
          replace hne := Gen.low_some V.heap.size wg5
          refine Gen.wpM_more (Gen.low_pre V.heap.size) [15] 1 0 rfl (by kernel_rfl) (by kernel_rfl) (by kernel_rfl) (by kernel_rfl) ?_
          simp only [opsAt, List.getElem?_toArray, List.getElem?_cons_zero, List.getElem?_cons_succ]
          go_simp
          repeat (go_big_quiet_step (fail))
          refine wpQuiet_nil ?_
          refine Gen.wpM_end (by kernel_rfl) rfl (by kernel_rfl) (by decide) ?_
          rintro _ ⟨n9, rfl⟩
          obtain ⟨sz, hsz⟩ : ∃ sg : HW wg5, wg5.drewN n9 = sg.w := ⟨⟨wg5.drewN n9, ⟨rfl, rfl, rfl, Nat.le_refl _, fun _ _ => rfl⟩⟩, rfl⟩
          rw [hsz]
          clear hsz
          simp only [List.drop_succ_cons, List.drop_zero]
          go_simp
          replace KU := KU.stay sz.h
          replace BB := BB.trans (sz.h.mono BB.size)
          clear hne
          generalize sz.w = W at *
          clear sz
          revert NE
          revert KU
          revert BB
          revert t5
          revert s5
          revert gz
          revert fp3
          revert xs3
          revert t4
          revert s4
          revert t3
          revert s3
          revert t1
          revert s1
          revert W
          exact JN.out
        · skip
          refine Gen.mOp_make rfl (by go_simp) ?_
          rintro _ ⟨n9, rfl⟩
          obtain ⟨sg, hsg⟩ : ∃ sg : HW wg2, wg2.drewN n9 = sg.w := ⟨⟨wg2.drewN n9, ⟨rfl, rfl, rfl, Nat.le_refl _, fun _ _ => rfl⟩⟩, rfl⟩
          rw [hsg]
          clear hsg
          have BS : Below _ _ sg.w := BB.trans (sg.h.mono BB.size)
          refine ⟨.slice (some ⟨sg.w.heap.size, 0, none⟩) 0 0, sg.w.alloc (.cells #[] 81), by go_simp, ⟨⟨_, (alloc_below _ _).mono BS.size⟩, rfl⟩, ?_⟩
          have hbg := Below.step sg.h (alloc_below sg.w (.cells #[] 81))
          have hbL := hbg.mono BB.size
          have OZ := (World.ownsRow_made (base := V.heap.size) (e := 81) (size := 2) sg.w #[] 0 BS.size (Nat.zero_le _) rfl)
          replace BB := BB.trans hbL
          clear hbg hbL BS
          replace hne := Gen.low_some V.heap.size (sg.w.alloc (.cells #[] 81))
          generalize hW : (sg.w.alloc (.cells #[] 81)) = wg6 at *
          clear hW
          generalize sg.w.heap.size = gz at *
          clear sg
          refine Gen.wpM_only (i := 10) (by kernel_rfl) ?_
          refine Gen.mOp_call rfl (by go_simp) 48 _ #[.slice p4 x.2.2.2.1.length q4] (fun w => by go_simp) rfl ?_
          rintro _ ⟨n9, rfl⟩
          obtain ⟨sg, hsg⟩ : ∃ sg : HW wg6, wg6.drewN n9 = sg.w := ⟨⟨wg6.drewN n9, ⟨rfl, rfl, rfl, Nat.le_refl _, fun _ _ => rfl⟩⟩, rfl⟩
          rw [hsg]
          clear hsg
          have BS : Below _ _ sg.w := BB.trans (sg.h.mono BB.size)
          refine (l14Lists_c x.2.2.2.1 p4 q4 _ (R4.out _ (BW.trans (BS.mono BW.size))) H4.out.1 H4.out.2).mono ?_
          rintro e wg7 ⟨u3, xs3, fp3, rfl, k3, hbx⟩
          obtain ⟨s4, t4, rfl, -⟩ := k3.rd
          have hbg := Below.step sg.h hbx
          refine ⟨_, rfl, ⟨⟨wg7, hbx.mono BS.size⟩, rfl⟩, ?_⟩
          have hbL := hbg.mono BB.size
          have KU := (k3.low BS.size : OwnL 22 bytC _ V.heap.size (.slice s4 x.2.2.2.1.length t4) x.2.2.2.1 xs3 fp3)
          have NE := (show ∀ k, k ∈ (Value.slice s4 x.2.2.2.1.length t4).ownBlock.toList ++ fp3 → k ≠ gz from fun k h e => by have h1 := (k3.ins k h).1; have h2 := (World.ownsRow.lt OZ gz rfl).2; have h3 := sg.h.size; omega)
          replace OZ := ownsRow_fr OZ (fun j hj => hbg.block j (World.ownsRow.lt OZ j hj).2)
          replace BB := BB.trans hbL
          clear hbg hbx hbL BS sg k3
          replace hne := Gen.low_some V.heap.size wg7
          refine Gen.wpM_only (i := 14) (by kernel_rfl) ?_
          refine Gen.mOp_list rfl (by go_simp) (by kernel_rfl) ?_
          rintro _ ⟨n9, rfl⟩
          obtain ⟨sg, hsg⟩ : ∃ sg : HW wg7, wg7.drewN n9 = sg.w := ⟨⟨wg7.drewN n9, ⟨rfl, rfl, rfl, Nat.le_refl _, fun _ _ => rfl⟩⟩, rfl⟩
          rw [hsg]
          clear hsg
          have BS : Below _ _ sg.w := BB.trans (sg.h.mono BB.size)
          replace OZ := ownsRow_fr OZ (fun j hj => sg.h.block j (World.ownsRow.lt OZ j hj).2)
          replace KU := KU.stay sg.h
          refine wpList_append_rawHd rfl (.tmp 14) (.tmp 16) rfl V.heap.size (.slice (some ⟨gz, 0, none⟩) 0 0) 0 [] rfl OZ p5 q5 _ xh rfl (R5.out _ (BW.trans (BS.mono BW.size))) OH.out (by have := H5.out; omega) BS.size ?_
          intro v9 wg8 O9 hg9
          rw [Nat.zero_add, List.nil_append] at O9
          obtain ⟨s5, t5, rfl, -⟩ := ownsRow_raw O9
          have hbL : Below V.heap.size sg.w wg8 := (Below.refl _ _).grown hg9 BS.size (fun k hk => (World.ownsRow.lt OZ k hk).1)
          refine ⟨rfl, hbL, ?_⟩
          replace hbL := (sg.h.mono BB.size).trans hbL
          clear OZ
          replace KU := KU.other (Only.grown hg9) (fun k hk e => NE k hk (by simpa [Value.ownBlock] using e))
          replace BB := BB.trans hbL
          clear hbL BS O9 hg9 sg
          replace hne := Gen.low_some V.heap.size wg8
          refine Gen.wpM_more (Gen.low_pre V.heap.size) [15] 1 0 rfl (by kernel_rfl) (by kernel_rfl) (by kernel_rfl) (by kernel_rfl) ?_
          simp only [opsAt, List.getElem?_toArray, List.getElem?_cons_zero, List.getElem?_cons_succ]
          go_simp
          repeat (go_big_quiet_step (fail))
          refine wpQuiet_nil ?_
          refine Gen.wpM_end (by kernel_rfl) rfl (by kernel_rfl) (by decide) ?_
          rintro _ ⟨n9, rfl⟩
          obtain ⟨sz, hsz⟩ : ∃ sg : HW wg8, wg8.drewN n9 = sg.w := ⟨⟨wg8.drewN n9, ⟨rfl, rfl, rfl, Nat.le_refl _, fun _ _ => rfl⟩⟩, rfl⟩
          rw [hsz]
          clear hsz
          simp only [List.drop_succ_cons, List.drop_zero]
          go_simp
          replace KU := KU.stay sz.h
          replace BB := BB.trans (sz.h.mono BB.size)
          clear hne
          generalize sz.w = W at *
          clear sz
          revert NE
          revert KU
          revert BB
          revert t5
          revert s5
          revert gz
          revert fp3
          revert xs3
          revert t4
          revert s4
          revert t3
          revert s3
          revert t1
          revert s1
          revert W
          exact JN.out
      · skip
        refine Gen.mOp_make rfl (by go_simp) ?_
        rintro _ ⟨n9, rfl⟩
        obtain ⟨sg, hsg⟩ : ∃ sg : HW wg1, wg1.drewN n9 = sg.w := ⟨⟨wg1.drewN n9, ⟨rfl, rfl, rfl, Nat.le_refl _, fun _ _ => rfl⟩⟩, rfl⟩
        rw [hsg]
        clear hsg
        have BS : Below _ _ sg.w := BB.trans (sg.h.mono BB.size)
        refine ⟨.slice (some ⟨sg.w.heap.size, 0, none⟩) 0 0, sg.w.alloc (.cells #[] 81), by go_simp, ⟨⟨_, (alloc_below _ _).mono BS.size⟩, rfl⟩, ?_⟩
        have hbg := Below.step sg.h (alloc_below sg.w (.cells #[] 81))
        have hbL := hbg.mono BB.size
        have OZ := (World.ownsRow_made (base := V.heap.size) (e := 81) (size := 2) sg.w #[] 0 BS.size (Nat.zero_le _) rfl)
        replace BB := BB.trans hbL
        clear hbg hbL BS
        replace hne := Gen.low_some V.heap.size (sg.w.alloc (.cells #[] 81))
        generalize hW : (sg.w.alloc (.cells #[] 81)) = wg9 at *
        clear hW
        generalize sg.w.heap.size = gz at *
        clear sg
        refine Gen.wpM_only (i := 7) (by kernel_rfl) ?_
        refine Gen.mOp_call rfl (by go_simp) 48 _ #[.slice p3 x.2.2.1.length q3] (fun w => by go_simp) rfl ?_
        rintro _ ⟨n9, rfl⟩
        obtain ⟨sg, hsg⟩ : ∃ sg : HW wg9, wg9.drewN n9 = sg.w := ⟨⟨wg9.drewN n9, ⟨rfl, rfl, rfl, Nat.le_refl _, fun _ _ => rfl⟩⟩, rfl⟩
        rw [hsg]
        clear hsg
        have BS : Below _ _ sg.w := BB.trans (sg.h.mono BB.size)
        refine (l14Lists_c x.2.2.1 p3 q3 _ (R3.out _ (BW.trans (BS.mono BW.size))) H3.out.1 H3.out.2).mono ?_
        rintro e wg10 ⟨u2, xs2, fp2, rfl, k2, hbx⟩
        obtain ⟨s3, t3, rfl, -⟩ := k2.rd
        have hbg := Below.step sg.h hbx
        refine ⟨_, rfl, ⟨⟨wg10, hbx.mono BS.size⟩, rfl⟩, ?_⟩
        have hbL := hbg.mono BB.size
        replace OZ := ownsRow_fr OZ (fun j hj => hbg.block j (World.ownsRow.lt OZ j hj).2)
        replace BB := BB.trans hbL
        clear hbg hbx hbL BS sg k2
        replace hne := Gen.low_some V.heap.size wg10
        refine Gen.wpM_only (i := 10) (by kernel_rfl) ?_
        refine Gen.mOp_call rfl (by go_simp) 48 _ #[.slice p4 x.2.2.2.1.length q4] (fun w => by go_simp) rfl ?_
        rintro _ ⟨n9, rfl⟩
        obtain ⟨sg, hsg⟩ : ∃ sg : HW wg10, wg10.drewN n9 = sg.w := ⟨⟨wg10.drewN n9, ⟨rfl, rfl, rfl, Nat.le_refl _, fun _ _ => rfl⟩⟩, rfl⟩
        rw [hsg]
        clear hsg
        have BS : Below _ _ sg.w := BB.trans (sg.h.mono BB.size)
        refine (l14Lists_c x.2.2.2.1 p4 q4 _ (R4.out _ (BW.trans (BS.mono BW.size))) H4.out.1 H4.out.2).mono ?_
        rintro e wg11 ⟨u3, xs3, fp3, rfl, k3, hbx⟩
        obtain ⟨s4, t4, rfl, -⟩ := k3.rd
        have hbg := Below.step sg.h hbx
        refine ⟨_, rfl, ⟨⟨wg11, hbx.mono BS.size⟩, rfl⟩, ?_⟩
        have hbL := hbg.mono BB.size
        have KU := (k3.low BS.size : OwnL 22 bytC _ V.heap.size (.slice s4 x.2.2.2.1.length t4) x.2.2.2.1 xs3 fp3)
        have NE := (show ∀ k, k ∈ (Value.slice s4 x.2.2.2.1.length t4).ownBlock.toList ++ fp3 → k ≠ gz from fun k h e => by have h1 := (k3.ins k h).1; have h2 := (World.ownsRow.lt OZ gz rfl).2; have h3 := sg.h.size; omega)
        replace OZ := ownsRow_fr OZ (fun j hj => hbg.block j (World.ownsRow.lt OZ j hj).2)
        replace BB := BB.trans hbL
        clear hbg hbx hbL BS sg k3
        replace hne := Gen.low_some V.heap.size wg11
        refine Gen.wpM_only (i := 14) (by kernel_rfl) ?_
        refine Gen.mOp_list rfl (by go_simp) (by kernel_rfl) ?_
        rintro _ ⟨n9, rfl⟩
        obtain ⟨sg, hsg⟩ : ∃ sg : HW wg11, wg11.drewN n9 = sg.w := ⟨⟨wg11.drewN n9, ⟨rfl, rfl, rfl, Nat.le_refl _, fun _ _ => rfl⟩⟩, rfl⟩
        rw [hsg]
        clear hsg
        have BS : Below _ _ sg.w := BB.trans (sg.h.mono BB.size)
        replace OZ := ownsRow_fr OZ (fun j hj => sg.h.block j (World.ownsRow.lt OZ j hj).2)
        replace KU := KU.stay sg.h
        refine wpList_append_rawHd rfl (.tmp 14) (.tmp 16) rfl V.heap.size (.slice (some ⟨gz, 0, none⟩) 0 0) 0 [] rfl OZ p5 q5 _ xh rfl (R5.out _ (BW.trans (BS.mono BW.size))) OH.out (by have := H5.out; omega) BS.size ?_
        intro v9 wg12 O9 hg9
        rw [Nat.zero_add, List.nil_append] at O9
        obtain ⟨s5, t5, rfl, -⟩ := ownsRow_raw O9
        have hbL : Below V.heap.size sg.w wg12 := (Below.refl _ _).grown hg9 BS.size (fun k hk => (World.ownsRow.lt OZ k hk).1)
        refine ⟨rfl, hbL, ?_⟩
        replace hbL := (sg.h.mono BB.size).trans hbL
        clear OZ
        replace KU := KU.other (Only.grown hg9) (fun k hk e => NE k hk (by simpa [Value.ownBlock] using e))
        replace BB := BB.trans hbL
        clear hbL BS O9 hg9 sg
        replace hne := Gen.low_some V.heap.size wg12
        refine Gen.wpM_more (Gen.low_pre V.heap.size) [15] 1 0 rfl (by kernel_rfl) (by kernel_rfl) (by kernel_rfl) (by kernel_rfl) ?_
        simp only [opsAt, List.getElem?_toArray, List.getElem?_cons_zero, List.getElem?_cons_succ]
        go_simp
        repeat (go_big_quiet_step (fail))
        refine wpQuiet_nil ?_
        refine Gen.wpM_end (by kernel_rfl) rfl (by kernel_rfl) (by decide) ?_
        rintro _ ⟨n9, rfl⟩
        obtain ⟨sz, hsz⟩ : ∃ sg : HW wg12, wg12.drewN n9 = sg.w := ⟨⟨wg12.drewN n9, ⟨rfl, rfl, rfl, Nat.le_refl _, fun _ _ => rfl⟩⟩, rfl⟩
        rw [hsz]
        clear hsz
        simp only [List.drop_succ_cons, List.drop_zero]
        go_simp
        replace KU := KU.stay sz.h
        replace BB := BB.trans (sz.h.mono BB.size)
        clear hne
        generalize sz.w = W at *
        clear sz
        revert NE
        revert KU
        revert BB
        revert t5
        revert s5
        revert gz
        revert fp3
        revert xs3
        revert t4
        revert s4
        revert t3
        revert s3
        revert t1
        revert s1
        revert W
        exact JN.out
    · skip
      refine Gen.mOp_make rfl (by go_simp) ?_
      rintro _ ⟨n9, rfl⟩
      obtain ⟨sg, hsg⟩ : ∃ sg : HW V, V.drewN n9 = sg.w := ⟨⟨V.drewN n9, ⟨rfl, rfl, rfl, Nat.le_refl _, fun _ _ => rfl⟩⟩, rfl⟩
      rw [hsg]
      clear hsg
      have BS : Below _ _ sg.w := BB.trans (sg.h.mono BB.size)
      refine ⟨.slice (some ⟨sg.w.heap.size, 0, none⟩) 0 0, sg.w.alloc (.cells #[] 81), by go_simp, ⟨⟨_, (alloc_below _ _).mono BS.size⟩, rfl⟩, ?_⟩
      have hbg := Below.step sg.h (alloc_below sg.w (.cells #[] 81))
      have hbL := hbg.mono BB.size
      have OZ := (World.ownsRow_made (base := V.heap.size) (e := 81) (size := 2) sg.w #[] 0 BS.size (Nat.zero_le _) rfl)
      replace BB := BB.trans hbL
      clear hbg hbL BS
      replace hne := Gen.low_some V.heap.size (sg.w.alloc (.cells #[] 81))
      generalize hW : (sg.w.alloc (.cells #[] 81)) = wg13 at *
      clear hW
      generalize sg.w.heap.size = gz at *
      clear sg
      refine Gen.wpM_only (i := 2) (by kernel_rfl) ?_
      refine Gen.mOp_call rfl (by go_simp) 16 _ #[.slice p1 x.1.length q1] (fun w => by go_simp) rfl ?_
      rintro _ ⟨n9, rfl⟩
      obtain ⟨sg, hsg⟩ : ∃ sg : HW wg13, wg13.drewN n9 = sg.w := ⟨⟨wg13.drewN n9, ⟨rfl, rfl, rfl, Nat.le_refl _, fun _ _ => rfl⟩⟩, rfl⟩
      rw [hsg]
      clear hsg
      have BS : Below _ _ sg.w := BB.trans (sg.h.mono BB.size)
      refine (l1Copy_c p1 q1 x.1 _ (R1.out _ (BW.trans (BS.mono BW.size))) (by have := H1.out; omega)).mono ?_
      rintro e wg14 ⟨u1, rfl, k1, hbx⟩
      obtain ⟨s1, t1, rfl, -⟩ := k1.rd
      have hbg := Below.step sg.h hbx
      refine ⟨_, rfl, ⟨⟨wg14, hbx.mono BS.size⟩, rfl⟩, ?_⟩
      have hbL := hbg.mono BB.size
      replace OZ := ownsRow_fr OZ (fun j hj => hbg.block j (World.ownsRow.lt OZ j hj).2)
      replace BB := BB.trans hbL
      clear hbg hbx hbL BS sg k1
      replace hne := Gen.low_some V.heap.size wg14
      refine Gen.wpM_only (i := 7) (by kernel_rfl) ?_
      refine Gen.mOp_call rfl (by go_simp) 48 _ #[.slice p3 x.2.2.1.length q3] (fun w => by go_simp) rfl ?_
      rintro _ ⟨n9, rfl⟩
      obtain ⟨sg, hsg⟩ : ∃ sg : HW wg14, wg14.drewN n9 = sg.w := ⟨⟨wg14.drewN n9, ⟨rfl, rfl, rfl, Nat.le_refl _, fun _ _ => rfl⟩⟩, rfl⟩
      rw [hsg]
      clear hsg
      have BS : Below _ _ sg.w := BB.trans (sg.h.mono BB.size)
      refine (l14Lists_c x.2.2.1 p3 q3 _ (R3.out _ (BW.trans (BS.mono BW.size))) H3.out.1 H3.out.2).mono ?_
      rintro e wg15 ⟨u2, xs2, fp2, rfl, k2, hbx⟩
      obtain ⟨s3, t3, rfl, -⟩ := k2.rd
      have hbg := Below.step sg.h hbx
      refine ⟨_, rfl, ⟨⟨wg15, hbx.mono BS.size⟩, rfl⟩, ?_⟩
      have hbL := hbg.mono BB.size
      replace OZ := ownsRow_fr OZ (fun j hj => hbg.block j (World.ownsRow.lt OZ j hj).2)
      replace BB := BB.trans hbL
      clear hbg hbx hbL BS sg k2
      replace hne := Gen.low_some V.heap.size wg15
      refine Gen.wpM_only (i := 10) (by kernel_rfl) ?_
      refine Gen.mOp_call rfl (by go_simp) 48 _ #[.slice p4 x.2.2.2.1.length q4] (fun w => by go_simp) rfl ?_
      rintro _ ⟨n9, rfl⟩
      obtain ⟨sg, hsg⟩ : ∃ sg : HW wg15, wg15.drewN n9 = sg.w := ⟨⟨wg15.drewN n9, ⟨rfl, rfl, rfl, Nat.le_refl _, fun _ _ => rfl⟩⟩, rfl⟩
      rw [hsg]
      clear hsg
      have BS : Below _ _ sg.w := BB.trans (sg.h.mono BB.size)
      refine (l14Lists_c x.2.2.2.1 p4 q4 _ (R4.out _ (BW.trans (BS.mono BW.size))) H4.out.1 H4.out.2).mono ?_
      rintro e wg16 ⟨u3, xs3, fp3, rfl, k3, hbx⟩
      obtain ⟨s4, t4, rfl, -⟩ := k3.rd
      have hbg := Below.step sg.h hbx
      refine ⟨_, rfl, ⟨⟨wg16, hbx.mono BS.size⟩, rfl⟩, ?_⟩
      have hbL := hbg.mono BB.size
      have KU := (k3.low BS.size : OwnL 22 bytC _ V.heap.size (.slice s4 x.2.2.2.1.length t4) x.2.2.2.1 xs3 fp3)
      have NE := (show ∀ k, k ∈ (Value.slice s4 x.2.2.2.1.length t4).ownBlock.toList ++ fp3 → k ≠ gz from fun k h e => by have h1 := (k3.ins k h).1; have h2 := (World.ownsRow.lt OZ gz rfl).2; have h3 := sg.h.size; omega)
      replace OZ := ownsRow_fr OZ (fun j hj => hbg.block j (World.ownsRow.lt OZ j hj).2)
      replace BB := BB.trans hbL
      clear hbg hbx hbL BS sg k3
      replace hne := Gen.low_some V.heap.size wg16
      refine Gen.wpM_only (i := 14) (by kernel_rfl) ?_
      refine Gen.mOp_list rfl (by go_simp) (by kernel_rfl) ?_
      rintro _ ⟨n9, rfl⟩
      obtain ⟨sg, hsg⟩ : ∃ sg : HW wg16, wg16.drewN n9 = sg.w := ⟨⟨wg16.drewN n9, ⟨rfl, rfl, rfl, Nat.le_refl _, fun _ _ => rfl⟩⟩, rfl⟩
      rw [hsg]
      clear hsg
      have BS : Below _ _ sg.w := BB.trans (sg.h.mono BB.size)
      replace OZ := ownsRow_fr OZ (fun j hj => sg.h.block j (World.ownsRow.lt OZ j hj).2)
      replace KU := KU.stay sg.h
      refine wpList_append_rawHd rfl (.tmp 14) (.tmp 16) rfl V.heap.size (.slice (some ⟨gz, 0, none⟩) 0 0) 0 [] rfl OZ p5 q5 _ xh rfl (R5.out _ (BW.trans (BS.mono BW.size))) OH.out (by have := H5.out; omega) BS.size ?_
      intro v9 wg17 O9 hg9
      rw [Nat.zero_add, List.nil_append] at O9
      obtain ⟨s5, t5, rfl, -⟩ := ownsRow_raw O9
      have hbL : Below V.heap.size sg.w wg17 := (Below.refl _ _).grown hg9 BS.size (fun k hk => (World.ownsRow.lt OZ k hk).1)
      refine ⟨rfl, hbL, ?_⟩
      replace hbL := (sg.h.mono BB.size).trans hbL
      clear OZ
      replace KU := KU.other (Only.grown hg9) (fun k hk e => NE k hk (by simpa [Value.ownBlock] using e))
      replace BB := BB.trans hbL
      clear hbL BS O9 hg9 sg
      replace hne := Gen.low_some V.heap.size wg17
      refine Gen.wpM_more (Gen.low_pre V.heap.size) [15] 1 0 rfl (by kernel_rfl) (by kernel_rfl) (by kernel_rfl) (by kernel_rfl) ?_
      simp only [opsAt, List.getElem?_toArray, List.getElem?_cons_zero, List.getElem?_cons_succ]
      go_simp
      repeat (go_big_quiet_step (fail))
      refine wpQuiet_nil ?_
      refine Gen.wpM_end (by kernel_rfl) rfl (by kernel_rfl) (by decide) ?_
      rintro _ ⟨n9, rfl⟩
      obtain ⟨sz, hsz⟩ : ∃ sg : HW wg17, wg17.drewN n9 = sg.w := ⟨⟨wg17.drewN n9, ⟨rfl, rfl, rfl, Nat.le_refl _, fun _ _ => rfl⟩⟩, rfl⟩
      rw [hsz]
      clear hsz
      simp only [List.drop_succ_cons, List.drop_zero]
      go_simp
      replace KU := KU.stay sz.h
      replace BB := BB.trans (sz.h.mono BB.size)
      clear hne
      generalize sz.w = W at *
      clear sz
      revert NE
      revert KU
      revert BB
      revert t5
      revert s5
      revert gz
      revert fp3
      revert xs3
      revert t4
      revert s4
      revert t3
      revert s3
      revert t1
      revert s1
      revert W
      exact JN.out
  intro W s1 t1 s3 t3 s4 t4 xs3 fp3 gz s5 t5 BB KU NE
  replace R := R.stay BB
  have BW2 := BW.trans (BB.mono BW.size)
  refine wpList_store_row rfl 27 _ _ rfl (w.heap.size + 1) #[.slice s1 x.1.length t1, .int .i64 x.2.1, .slice s3 x.2.2.1.length t3, .slice s4 x.2.2.2.1.length t4, .slice s5 x.2.2.2.2.length t5] rfl rfl 27 #[.slice none 0 0, .int .i64 0, .slice none 0 0, .slice none 0 0, .slice none 0 0] R hres.out rfl (by simp [Value.oneCell']) ?_
  go_wp2_with fail
  exact bodyPost_ret (v := .agg #[.slice s1 x.1.length t1, .int .i64 x.2.1, .slice s3 x.2.2.1.length t3, .slice s4 x.2.2.2.1.length t4, .slice s5 x.2.2.2.2.length t5]) (results_cell_row Tryz.results26 _ _ (w.heap.size + 1) 27 _ (0, 0) _ rfl (R.row [.slice s1 x.1.length t1, .int .i64 x.2.1, .slice s3 x.2.2.1.length t3, .slice s4 x.2.2.2.1.length t4, .slice s5 x.2.2.2.2.length t5]) Tryz.underlying27 rfl hres.out) rfl ⟨_, _, _, _, _, _, _, _, _, _, rfl, (KU.fr (fun k hk => setRow_other W _ k _ (by have h1 := (KU.ins k hk).1; have := hzV.out; omega))).low (by have := hzV.out; omega), Below.row BW2 (Nat.le_succ _) _⟩
end Go.Proofs.YtbaldmmbphbinaaGreatDoor

