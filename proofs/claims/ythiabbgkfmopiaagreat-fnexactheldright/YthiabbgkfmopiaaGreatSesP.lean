/- Chapter 14 of the specification: copies of lists and sessions, what is held anew, RevokeIn and TimeIn by their codes (written by tools/ses_p.py). What was there stays. -/
import Derived.Test.YthiabbgkfmopiaaGreatSesS
import Derived.Test.YthiabbgkfmopiaaGreatJoint21
import Derived.Test.YthiabbgkfmopiaaGreatJoint7
import Derived.Laws.AppendOwnNone
namespace Go.Proofs.YthiabbgkfmopiaaGreat
open Go.ChangeShapes Go.WideShapes Go.ChangeAt Go.RowKit

/-- What is held anew, behind the first k. -/
def hoK (l : List HeldD) (h : HeldD) (k : Nat) : List HeldD := (l.take k).filter (fun a => decide (a.1 < h.1)) ++ (if (l.take k).any (fun a => decide (h.1 ≤ a.1)) then [h] else []) ++ (l.take k).filter (fun a => decide (h.1 < a.1))
theorem infoHeldP : (Tryz.prog.info? 59).map (fun i => (i.zero, i.size, i.bytes)) = some (some (.agg #[.int .i64 0, .int .i64 0]), 2, 16) := by kernel_rfl
theorem any_ge {l : List HeldD} {h : HeldD} {k : Nat} {a : HeldD} (hr : Rise l) (ha : l[k]? = some a) (hd : (l.take k).any (fun a => decide (h.1 ≤ a.1)) = true) : h.1 < a.1 := by
  obtain ⟨x, hx, hx2⟩ := List.any_eq_true.1 hd
  obtain ⟨j, hj⟩ := List.mem_iff_getElem?.1 hx
  have hjk : j < k := by
    have := (List.getElem?_eq_some_iff.1 hj).1
    rw [List.length_take] at this
    omega
  rw [List.getElem?_take_of_lt hjk] at hj
  obtain ⟨hj1, hj2⟩ := List.getElem?_eq_some_iff.1 hj
  obtain ⟨hk1, hk2⟩ := List.getElem?_eq_some_iff.1 ha
  have := List.pairwise_iff_getElem.1 hr j k hj1 hk1 hjk
  rw [hj2, hk2] at this
  simp at hx2
  omega
theorem any_take {l : List HeldD} {h : HeldD} {k : Nat} {a : HeldD} (ha : l[k]? = some a) : (l.take (k + 1)).any (fun a => decide (h.1 ≤ a.1)) = ((l.take k).any (fun a => decide (h.1 ≤ a.1)) || decide (h.1 ≤ a.1)) := by
  rw [List.take_add_one, ha]; simp
/-- no gt ones as long as none is as great -/
theorem gt_nil {l : List HeldD} {h : HeldD} {k : Nat} (hd : (l.take k).any (fun a => decide (h.1 ≤ a.1)) = false) : (l.take k).filter (fun a => decide (h.1 < a.1)) = [] := by
  rw [List.filter_eq_nil_iff]
  intro x hx
  have := List.any_eq_false.1 hd x hx
  simp at this
  simp
  omega
theorem hoK_lt {l : List HeldD} {h : HeldD} {k : Nat} {a : HeldD} (hr : Rise l) (ha : l[k]? = some a) (hl : a.1 < h.1) : (l.take k).any (fun a => decide (h.1 ≤ a.1)) = false ∧ hoK l h (k + 1) = hoK l h k ++ [a] := by
  have hd : (l.take k).any (fun a => decide (h.1 ≤ a.1)) = false := by
    cases hd : (l.take k).any (fun a => decide (h.1 ≤ a.1))
    · rfl
    · have := any_ge hr ha hd; omega
  refine ⟨hd, ?_⟩
  unfold hoK
  rw [any_take ha, hd, gt_nil hd, List.take_add_one, ha]
  have h1 : ¬ h.1 ≤ a.1 := by omega
  have h2 : ¬ h.1 < a.1 := by omega
  simp [hl, h1, h2, gt_nil hd]
theorem hoK_eq {l : List HeldD} {h : HeldD} {k : Nat} {a : HeldD} (hr : Rise l) (ha : l[k]? = some a) (hl : a.1 = h.1) : (l.take k).any (fun a => decide (h.1 ≤ a.1)) = false ∧ hoK l h (k + 1) = hoK l h k ++ [h] := by
  have hd : (l.take k).any (fun a => decide (h.1 ≤ a.1)) = false := by
    cases hd : (l.take k).any (fun a => decide (h.1 ≤ a.1))
    · rfl
    · have := any_ge hr ha hd; omega
  refine ⟨hd, ?_⟩
  unfold hoK
  rw [any_take ha, hd, gt_nil hd, List.take_add_one, ha]
  have h1 : h.1 ≤ a.1 := by omega
  have h2 : ¬ h.1 < a.1 := by omega
  have h3 : ¬ a.1 < h.1 := by omega
  simp [h1, h2, h3, gt_nil hd]
theorem hoK_gt0 {l : List HeldD} {h : HeldD} {k : Nat} {a : HeldD} (ha : l[k]? = some a) (hl : h.1 < a.1) (hd : (l.take k).any (fun a => decide (h.1 ≤ a.1)) = false) : hoK l h (k + 1) = hoK l h k ++ [h] ++ [a] := by
  unfold hoK
  rw [any_take ha, hd, gt_nil hd, List.take_add_one, ha]
  have h1 : h.1 ≤ a.1 := by omega
  have h3 : ¬ a.1 < h.1 := by omega
  simp [h1, hl, h3, gt_nil hd]
theorem hoK_gt1 {l : List HeldD} {h : HeldD} {k : Nat} {a : HeldD} (ha : l[k]? = some a) (hl : h.1 < a.1) (hd : (l.take k).any (fun a => decide (h.1 ≤ a.1)) = true) : hoK l h (k + 1) = hoK l h k ++ [a] := by
  unfold hoK
  rw [any_take ha, hd, List.take_add_one, ha]
  have h3 : ¬ a.1 < h.1 := by omega
  simp [hl, h3]
theorem hoK_end {l : List HeldD} {h : HeldD} : holdN l h = if l.any (fun a => decide (h.1 ≤ a.1)) then hoK l h l.length else hoK l h l.length ++ [h] := by
  unfold hoK holdN
  rw [List.take_length]
  cases hd : l.any (fun a => decide (h.1 ≤ a.1))
  · have hn : l.filter (fun a => decide (h.1 < a.1)) = [] := by
      have := gt_nil (l := l) (h := h) (k := l.length) (by rw [List.take_length]; exact hd)
      rwa [List.take_length] at this
    simp [hn]
  · simp
theorem hoK_len (l : List HeldD) (h : HeldD) (k : Nat) : (hoK l h k).length ≤ 2 * l.length + 1 := by
  unfold hoK
  have h1 := List.length_filter_le (fun a : HeldD => decide (a.1 < h.1)) (l.take k)
  have h2 := List.length_filter_le (fun a : HeldD => decide (h.1 < a.1)) (l.take k)
  rw [List.length_take] at h1 h2
  rw [List.length_append, List.length_append]
  split <;> simp <;> omega
/-- append(out, h) where out lies in a row of its own. -/
theorem wpList_append_held {ops : Array Oper} {rest : List Oper} {o : Oper} {a : Act} {Q : Exit → Act → World → Prop} {wr : World} {B : Nat} {v : Value} {out : List HeldD} {h : HeldD} (hgd : o.guard = none) (s x : Operand)
    (ho : o.op = .call { callee := .builtin .append, args := #[s, x], argTypes := #[49, 49] })
    (hO : wr.ownsRow B 59 2 v out.length (cellsH out)) (hs : a.eval s = v) (hx : a.eval x = .slice (some ⟨wr.heap.size, 0, none⟩) 1 1) (hB : B ≤ wr.heap.size) (hn : out.length ≤ 10000)
    (hk : ∀ p q w', w'.ownsRow B 59 2 (.slice p (out.length + 1) q) (out.length + 1) (cellsH (out ++ [h])) → (wr.alloc (.cells #[.int .i64 h.1, .int .i64 h.2] 59)).grownBy w' v.ownBlock → Below B (wr.alloc (.cells #[.int .i64 h.1, .int .i64 h.2] 59)) w' → wpList Tryz.prog ops Q rest (a.put o.dst (.slice p (out.length + 1) q)) w') : wpList Tryz.prog ops Q (o :: rest) a (wr.alloc (.cells #[.int .i64 h.1, .int .i64 h.2] 59)) := by
  obtain ⟨i0, hi, hz0, hz1, hz2⟩ := info_parts infoHeldP
  have hlt := World.ownsRow.lt hO
  have hrow2 := ownsRow_fr (w' := wr.alloc (.cells #[.int .i64 h.1, .int .i64 h.2] 59)) hO (fun j hj => Below.heap_alloc _ _ j (hlt j hj).2)
  have hnew : ∀ j u, ([.int .i64 h.1, .int .i64 h.2] : List Value)[j]? = some u → (wr.alloc (.cells #[.int .i64 h.1, .int .i64 h.2] 59)).cell? ((⟨wr.heap.size, 0, none⟩ : Addr).add j) = some u := fun j u hj => (Arr.new wr [.int .i64 h.1, .int .i64 h.2] 59).cells j u hj
  have hz : B ≤ (wr.alloc (.cells #[.int .i64 h.1, .int .i64 h.2] 59)).heap.size := by rw [size_alloc]; omega
  refine wpList_append_lies _ hgd s x 49 ho B 59 i0 (.agg #[.int .i64 0, .int .i64 0]) 2 16 Tryz.underlying49 hi hz0 hz1 hz2 rfl (by decide) _ out.length (cellsH out) hs hrow2 ⟨wr.heap.size, 0, none⟩ 1 1 [.int .i64 h.1, .int .i64 h.2] hx rfl hnew (by intro u hu; simp at hu; rcases hu with rfl | rfl <;> rfl) (by decide) (by unfold maxLen; omega) (by omega) hz _ rfl ?_
  intro g6 c6 w6 hown6 hgrow6 hat6 hlt6
  rw [← cellsH_snoc] at hown6
  exact hk _ _ w6 hown6 hgrow6 ((Below.refl B _).grown hgrow6 hz (fun k hk => (hlt k hk).1))
set_option maxRecDepth 4000 in
set_option maxHeartbeats 2000000 in
theorem l14Hold_c (l : List HeldD) (h : HeldD) (p : Option Addr) (q : Nat) (w : World) (hr : RdL holdC w p q l) (hs : Rise l) (hl : l.length ≤ 1000) :
    Calls Tryz.prog 45 #[.slice p l.length q, .agg #[.int .i64 h.1, .int .i64 h.2]] w fun e w' => ∃ v, e = .returned v ∧ w'.ownsRow w.heap.size 59 2 v (holdN l h).length (cellsH (holdN l h)) ∧ Below w.heap.size w w' := by
  have HR : Hid (RdL holdC w p q l) := hr
  have hq1 : l.length ≤ q := hr.1
  have hq2 : q ≤ 2 ^ 63 - 1 := hr.2.1
  have HS : Hid (Rise l) := hs
  have HL : Hid (l.length ≤ 1000) := hl
  have HKS : Hid (∀ k, (hoK l h k).length ≤ 5000) := fun k => by have := hoK_len l h k; omega
  have HKL : Hid (∀ k, (hoK l h k).length ≤ 10000) := fun k => by have := hoK_len l h k; omega
  have BX := alloc_below w (.cells #[.int .i64 h.1, .int .i64 h.2] 59)
  have AX := Arr.new w [.int .i64 h.1, .int .i64 h.2] 59
  have O1 := World.ownsRow_made (base := w.heap.size + 1) (e := 59) (size := 2) (w.alloc (.cells #[.int .i64 h.1, .int .i64 h.2] 59)) #[] 0 (by rw [size_alloc]; exact Nat.le_refl _) (Nat.zero_le _) rfl
  have B1 := Below.mk BX (.cells #[] 59)
  have A1 := AX.old _ (.cells #[] 59)
  have HO0 : Hid (∀ (W : World) v, W.ownsRow (w.heap.size + 1) 59 2 v 0 [] → W.ownsRow (w.heap.size + 1) 59 2 v (hoK l h 0).length (cellsH (hoK l h 0))) := fun W v h => by unfold hoK; simpa [cellsH] using h
  clear hr hs hl AX BX
  go_enter Tryz.func45, Tryz.ntmps45
  go_wp2_with fail
  go_loopw [5, 6, 7] (fun v d i wr => ∃ k : Nat, k ≤ l.length ∧ i = .int .i64 k ∧ d = .bool ((l.take k).any (fun a => decide (h.1 ≤ a.1))) ∧ wr.ownsRow (w.heap.size + 1) 59 2 v (hoK l h k).length (cellsH (hoK l h k)) ∧ Arr wr w.heap.size 59 [.int .i64 h.1, .int .i64 h.2] ∧ w.heap.size + 1 ≤ wr.heap.size ∧ Below w.heap.size w wr)
    (fun _ _ i _ => l.length - (intOf i).toNat)
  case atStart => exact ⟨0, Nat.zero_le _, rfl, by simp, HO0.out _ _ (by rw [size_alloc] at O1; exact O1), A1, by rw [size_alloc, size_alloc]; omega, B1⟩
  case round =>
    clear O1 B1 A1 HO0
    obtain ⟨k, hk, rfl, rfl, hrow, A, hsz, BW⟩ := hrel
    obtain ⟨wq, hwq⟩ : ∃ z, z = wr := ⟨_, rfl⟩
    subst hwq
    obtain ⟨po, qo, rfl, -⟩ := ownsRow_raw hrow
    by_cases hlt : k < l.length
    · have hI : (k : Int) < (l.length : Int) := by omega
      obtain ⟨b, o, e1, hcc⟩ := (HR.out.keep BW).2.2.2 (by omega)
      subst e1
      obtain ⟨a, ha⟩ : ∃ a, l[k]? = some a := ⟨l[k], by simp [hlt]⟩
      obtain ⟨us, hrep, hcell⟩ := hcc k a ha
      obtain rfl := hold_rep hrep
      have m0 := hcell 0 _ rfl
      have m1 := hcell 1 _ rfl
      rw [show holdC.n = 2 from rfl] at m0 m1
      rw [Nat.add_zero] at m0
      have HBw : Hid (b < w.heap.size) := by
        have h0 := HR.out.2.2.2 (by omega)
        obtain ⟨b', o', e', hc'⟩ := h0
        cases e'
        obtain ⟨us', hrep', hcell'⟩ := hc' k a ha
        obtain rfl := hold_rep hrep'
        exact World.block_lt_of_cell? w _ (hcell' 0 _ rfl)
      clear hrep hcell hcc
      have HA : Hid (l[k]? = some a) := ha
      have c0 := (A.cell 0).trans (show _ = some _ from rfl)
      have c1 := (A.cell 1).trans (show _ = some _ from rfl)
      clear ha
      have HNB0 : ∀ j, (Value.slice po (hoK l h k).length qo).ownBlock = some j → w.heap.size + 1 ≤ j := fun j hj => (World.ownsRow.lt hrow j hj).1
      have HLO : Hid ((hoK l h k).length ≤ 10000) := HKL.out k
      clear HNB0
      rcases Int.lt_trichotomy a.1 h.1 with hl | hl | hl
      · obtain ⟨h1, h2⟩ := hoK_lt HS.out HA.out hl
        have hD : Hid ((l.take (k + 1)).any (fun a => decide (h.1 ≤ a.1)) = false) := by show _ = _; rw [any_take HA.out, h1]; simp; omega
        replace h2 : Hid (_ = _) := h2
        have i1 : ¬ (h.1 ≤ a.1) := by omega
        have dk : (a.1 != h.1) = true := by rw [bne_iff_ne]; omega
        rw [h1]
        clear h1 hl
        go_wp2_with fail
        go_quiet (fail)
        have hbq : Below wq.heap.size wq (wq.drewN nq) := ⟨rfl, rfl, rfl, Nat.le_refl _, fun _ _ => rfl⟩
        replace hrow := ownsRow_fr (w' := wq.drewN nq) hrow (fun _ _ => rfl)
        replace m0 := cell_keep m0 hbq
        replace m1 := cell_keep m1 hbq
        replace c0 := cell_keep c0 hbq
        replace c1 := cell_keep c1 hbq
        replace A := A.stay hbq
        replace BW := Below.step BW hbq
        replace hsz := Nat.le_trans hsz hbq.size
        clear hbq
        generalize wq.drewN nq = wv at *
        clear wq
        obtain ⟨wq, hwq⟩ : ∃ z, z = wv := ⟨_, rfl⟩
        subst hwq
        go_wp2_with fail
        go_quiet (fail)
        have hbq : Below wq.heap.size wq (wq.drewN nq) := ⟨rfl, rfl, rfl, Nat.le_refl _, fun _ _ => rfl⟩
        replace hrow := ownsRow_fr (w' := wq.drewN nq) hrow (fun _ _ => rfl)
        replace m0 := cell_keep m0 hbq
        replace m1 := cell_keep m1 hbq
        replace c0 := cell_keep c0 hbq
        replace c1 := cell_keep c1 hbq
        replace A := A.stay hbq
        replace BW := Below.step BW hbq
        replace hsz := Nat.le_trans hsz hbq.size
        clear hbq
        generalize wq.drewN nq = wv at *
        clear wq
        obtain ⟨wq, hwq⟩ : ∃ z, z = wv := ⟨_, rfl⟩
        subst hwq
        go_wp2_with (at_builtin; refine wpList_append_held (out := (hoK l h k)) (h := a) rfl (.tmp 39) (.tmp 44) rfl (by first | exact hrow | (rw [List.length_append]; exact hrow)) rfl rfl hsz HLO.out ?_; intro p6 q6 w6 hrow6 hg6 hb6)
        have hlt6 := World.ownsRow.lt hrow
        have hal := alloc_below wq (.cells #[.int .i64 a.1, .int .i64 a.2] 59)
        replace m0 := cell_keep m0 hal
        replace m1 := cell_keep m1 hal
        replace c0 := cell_keep c0 hal
        replace c1 := cell_keep c1 hal
        replace A := (A.stay hal).other hg6 (fun e => by have h1 := (hlt6 _ e).1; omega)
        replace m0 := cell_other m0 hg6 (fun e => by have h1 := (hlt6 _ e).1; have h2 := HBw.out; simp at h1; omega)
        replace m1 := cell_other m1 hg6 (fun e => by have h1 := (hlt6 _ e).1; have h2 := HBw.out; simp at h1; omega)
        replace c0 := cell_other c0 hg6 (fun e => by have h1 := (hlt6 _ e).1; have h2 := HBw.out; simp at h1; omega)
        replace c1 := cell_other c1 hg6 (fun e => by have h1 := (hlt6 _ e).1; have h2 := HBw.out; simp at h1; omega)
        have hsz6 : w.heap.size + 1 ≤ w6.heap.size := Nat.le_trans (Nat.le_trans hsz hal.size) hb6.size
        replace BW := (Below.step BW hal).trans (hb6.mono (Nat.le_succ _))
        clear hrow hsz hg6 hb6 hlt6 hal
        have hrow := hrow6
        have hsz := hsz6
        clear hrow6 hsz6
        try simp only [List.length_append, List.length_singleton] at hrow
        obtain ⟨wq, hwq⟩ : ∃ z, z = w6 := ⟨_, rfl⟩
        subst hwq
        clear m0 m1 c0 c1
        go_roundw
        case rel => exact ⟨k + 1, by omega, by go_num, by rw [hD.out], by rw [h2.out]; simp only [List.length_append, List.length_singleton]; exact hrow, A, hsz, BW⟩
        case measure => simp [intOf]; omega
      · obtain ⟨h1, h2⟩ := hoK_eq HS.out HA.out hl
        have hD : Hid ((l.take (k + 1)).any (fun a => decide (h.1 ≤ a.1)) = true) := by show _ = _; rw [any_take HA.out, h1]; simp; omega
        replace h2 : Hid (_ = _) := h2
        have i1 : h.1 ≤ a.1 := by omega
        have dk : (a.1 != h.1) = false := by rw [bne_eq_false_iff_eq]; omega
        rw [h1]
        clear h1 hl
        go_wp2_with fail
        go_quiet (fail)
        have hbq : Below wq.heap.size wq (wq.drewN nq) := ⟨rfl, rfl, rfl, Nat.le_refl _, fun _ _ => rfl⟩
        replace hrow := ownsRow_fr (w' := wq.drewN nq) hrow (fun _ _ => rfl)
        replace m0 := cell_keep m0 hbq
        replace m1 := cell_keep m1 hbq
        replace c0 := cell_keep c0 hbq
        replace c1 := cell_keep c1 hbq
        replace A := A.stay hbq
        replace BW := Below.step BW hbq
        replace hsz := Nat.le_trans hsz hbq.size
        clear hbq
        generalize wq.drewN nq = wv at *
        clear wq
        obtain ⟨wq, hwq⟩ : ∃ z, z = wv := ⟨_, rfl⟩
        subst hwq
        go_wp2_with (at_builtin; refine wpList_append_held (out := (hoK l h k)) (h := h) rfl (.tmp 27) (.tmp 29) rfl (by first | exact hrow | (rw [List.length_append]; exact hrow)) rfl rfl hsz HLO.out ?_; intro p6 q6 w6 hrow6 hg6 hb6)
        have hlt6 := World.ownsRow.lt hrow
        have hal := alloc_below wq (.cells #[.int .i64 h.1, .int .i64 h.2] 59)
        replace m0 := cell_keep m0 hal
        replace m1 := cell_keep m1 hal
        replace c0 := cell_keep c0 hal
        replace c1 := cell_keep c1 hal
        replace A := (A.stay hal).other hg6 (fun e => by have h1 := (hlt6 _ e).1; omega)
        replace m0 := cell_other m0 hg6 (fun e => by have h1 := (hlt6 _ e).1; have h2 := HBw.out; simp at h1; omega)
        replace m1 := cell_other m1 hg6 (fun e => by have h1 := (hlt6 _ e).1; have h2 := HBw.out; simp at h1; omega)
        replace c0 := cell_other c0 hg6 (fun e => by have h1 := (hlt6 _ e).1; have h2 := HBw.out; simp at h1; omega)
        replace c1 := cell_other c1 hg6 (fun e => by have h1 := (hlt6 _ e).1; have h2 := HBw.out; simp at h1; omega)
        have hsz6 : w.heap.size + 1 ≤ w6.heap.size := Nat.le_trans (Nat.le_trans hsz hal.size) hb6.size
        replace BW := (Below.step BW hal).trans (hb6.mono (Nat.le_succ _))
        clear hrow hsz hg6 hb6 hlt6 hal
        have hrow := hrow6
        have hsz := hsz6
        clear hrow6 hsz6
        try simp only [List.length_append, List.length_singleton] at hrow
        obtain ⟨wq, hwq⟩ : ∃ z, z = w6 := ⟨_, rfl⟩
        subst hwq
        go_wp2_with fail
        go_quiet (fail)
        have hbq : Below wq.heap.size wq (wq.drewN nq) := ⟨rfl, rfl, rfl, Nat.le_refl _, fun _ _ => rfl⟩
        replace hrow := ownsRow_fr (w' := wq.drewN nq) hrow (fun _ _ => rfl)
        replace m0 := cell_keep m0 hbq
        replace m1 := cell_keep m1 hbq
        replace c0 := cell_keep c0 hbq
        replace c1 := cell_keep c1 hbq
        replace A := A.stay hbq
        replace BW := Below.step BW hbq
        replace hsz := Nat.le_trans hsz hbq.size
        clear hbq
        generalize wq.drewN nq = wv at *
        clear wq
        obtain ⟨wq, hwq⟩ : ∃ z, z = wv := ⟨_, rfl⟩
        subst hwq
        go_wp2_with fail
        clear m0 m1 c0 c1
        go_roundw
        case rel => exact ⟨k + 1, by omega, by go_num, by rw [hD.out], by rw [h2.out]; simp only [List.length_append, List.length_singleton]; exact hrow, A, hsz, BW⟩
        case measure => simp [intOf]; omega
      · cases hd : (l.take k).any (fun a => decide (h.1 ≤ a.1))
        · have h1 := hd
          have h2 : Hid (_ = _) := hoK_gt0 HA.out hl hd
          have hD : Hid ((l.take (k + 1)).any (fun a => decide (h.1 ≤ a.1)) = true) := by show _ = _; rw [any_take HA.out, h1]; simp; omega
          have i1 : h.1 ≤ a.1 := by omega
          have dk : (a.1 != h.1) = true := by rw [bne_iff_ne]; omega
          clear h1 hl hd
          go_wp2_with fail
          go_quiet (fail)
          have hbq : Below wq.heap.size wq (wq.drewN nq) := ⟨rfl, rfl, rfl, Nat.le_refl _, fun _ _ => rfl⟩
          replace hrow := ownsRow_fr (w' := wq.drewN nq) hrow (fun _ _ => rfl)
          replace m0 := cell_keep m0 hbq
          replace m1 := cell_keep m1 hbq
          replace c0 := cell_keep c0 hbq
          replace c1 := cell_keep c1 hbq
          replace A := A.stay hbq
          replace BW := Below.step BW hbq
          replace hsz := Nat.le_trans hsz hbq.size
          clear hbq
          generalize wq.drewN nq = wv at *
          clear wq
          obtain ⟨wq, hwq⟩ : ∃ z, z = wv := ⟨_, rfl⟩
          subst hwq
          go_wp2_with (at_builtin; refine wpList_append_held (out := (hoK l h k)) (h := h) rfl (.tmp 27) (.tmp 29) rfl (by first | exact hrow | (rw [List.length_append]; exact hrow)) rfl rfl hsz HLO.out ?_; intro p6 q6 w6 hrow6 hg6 hb6)
          have hlt6 := World.ownsRow.lt hrow
          have hal := alloc_below wq (.cells #[.int .i64 h.1, .int .i64 h.2] 59)
          replace m0 := cell_keep m0 hal
          replace m1 := cell_keep m1 hal
          replace c0 := cell_keep c0 hal
          replace c1 := cell_keep c1 hal
          replace A := (A.stay hal).other hg6 (fun e => by have h1 := (hlt6 _ e).1; omega)
          replace m0 := cell_other m0 hg6 (fun e => by have h1 := (hlt6 _ e).1; have h2 := HBw.out; simp at h1; omega)
          replace m1 := cell_other m1 hg6 (fun e => by have h1 := (hlt6 _ e).1; have h2 := HBw.out; simp at h1; omega)
          replace c0 := cell_other c0 hg6 (fun e => by have h1 := (hlt6 _ e).1; have h2 := HBw.out; simp at h1; omega)
          replace c1 := cell_other c1 hg6 (fun e => by have h1 := (hlt6 _ e).1; have h2 := HBw.out; simp at h1; omega)
          have hsz6 : w.heap.size + 1 ≤ w6.heap.size := Nat.le_trans (Nat.le_trans hsz hal.size) hb6.size
          replace BW := (Below.step BW hal).trans (hb6.mono (Nat.le_succ _))
          clear hrow hsz hg6 hb6 hlt6 hal
          have hrow := hrow6
          have hsz := hsz6
          clear hrow6 hsz6
          try simp only [List.length_append, List.length_singleton] at hrow
          obtain ⟨wq, hwq⟩ : ∃ z, z = w6 := ⟨_, rfl⟩
          subst hwq
          go_wp2_with fail
          go_quiet (fail)
          have hbq : Below wq.heap.size wq (wq.drewN nq) := ⟨rfl, rfl, rfl, Nat.le_refl _, fun _ _ => rfl⟩
          replace hrow := ownsRow_fr (w' := wq.drewN nq) hrow (fun _ _ => rfl)
          replace m0 := cell_keep m0 hbq
          replace m1 := cell_keep m1 hbq
          replace c0 := cell_keep c0 hbq
          replace c1 := cell_keep c1 hbq
          replace A := A.stay hbq
          replace BW := Below.step BW hbq
          replace hsz := Nat.le_trans hsz hbq.size
          clear hbq
          generalize wq.drewN nq = wv at *
          clear wq
          obtain ⟨wq, hwq⟩ : ∃ z, z = wv := ⟨_, rfl⟩
          subst hwq
          go_wp2_with (at_builtin; refine wpList_append_held (out := (hoK l h k ++ [h])) (h := a) rfl (.tmp 39) (.tmp 44) rfl (by first | exact hrow | (rw [List.length_append]; exact hrow)) rfl rfl hsz (by have := HKS.out k; simp; omega) ?_; intro p6 q6 w6 hrow6 hg6 hb6)
          have hlt6 := World.ownsRow.lt hrow
          have hal := alloc_below wq (.cells #[.int .i64 a.1, .int .i64 a.2] 59)
          replace m0 := cell_keep m0 hal
          replace m1 := cell_keep m1 hal
          replace c0 := cell_keep c0 hal
          replace c1 := cell_keep c1 hal
          replace A := (A.stay hal).other hg6 (fun e => by have h1 := (hlt6 _ e).1; omega)
          replace m0 := cell_other m0 hg6 (fun e => by have h1 := (hlt6 _ e).1; have h2 := HBw.out; simp at h1; omega)
          replace m1 := cell_other m1 hg6 (fun e => by have h1 := (hlt6 _ e).1; have h2 := HBw.out; simp at h1; omega)
          replace c0 := cell_other c0 hg6 (fun e => by have h1 := (hlt6 _ e).1; have h2 := HBw.out; simp at h1; omega)
          replace c1 := cell_other c1 hg6 (fun e => by have h1 := (hlt6 _ e).1; have h2 := HBw.out; simp at h1; omega)
          have hsz6 : w.heap.size + 1 ≤ w6.heap.size := Nat.le_trans (Nat.le_trans hsz hal.size) hb6.size
          replace BW := (Below.step BW hal).trans (hb6.mono (Nat.le_succ _))
          clear hrow hsz hg6 hb6 hlt6 hal
          have hrow := hrow6
          have hsz := hsz6
          clear hrow6 hsz6
          try simp only [List.length_append, List.length_singleton] at hrow
          obtain ⟨wq, hwq⟩ : ∃ z, z = w6 := ⟨_, rfl⟩
          subst hwq
          clear m0 m1 c0 c1
          go_roundw
          case rel => exact ⟨k + 1, by omega, by go_num, by rw [hD.out], by rw [h2.out]; simp only [List.length_append, List.length_singleton]; exact hrow, A, hsz, BW⟩
          case measure => simp [intOf]; omega
        · have h1 := hd
          have h2 : Hid (_ = _) := hoK_gt1 HA.out hl hd
          have hD : Hid ((l.take (k + 1)).any (fun a => decide (h.1 ≤ a.1)) = true) := by show _ = _; rw [any_take HA.out, h1]; rfl
          have dk : (a.1 != h.1) = true := by rw [bne_iff_ne]; omega
          clear h1 hl hd
          go_wp2_with fail
          go_quiet (fail)
          have hbq : Below wq.heap.size wq (wq.drewN nq) := ⟨rfl, rfl, rfl, Nat.le_refl _, fun _ _ => rfl⟩
          replace hrow := ownsRow_fr (w' := wq.drewN nq) hrow (fun _ _ => rfl)
          replace m0 := cell_keep m0 hbq
          replace m1 := cell_keep m1 hbq
          replace c0 := cell_keep c0 hbq
          replace c1 := cell_keep c1 hbq
          replace A := A.stay hbq
          replace BW := Below.step BW hbq
          replace hsz := Nat.le_trans hsz hbq.size
          clear hbq
          generalize wq.drewN nq = wv at *
          clear wq
          obtain ⟨wq, hwq⟩ : ∃ z, z = wv := ⟨_, rfl⟩
          subst hwq
          go_wp2_with fail
          go_quiet (fail)
          have hbq : Below wq.heap.size wq (wq.drewN nq) := ⟨rfl, rfl, rfl, Nat.le_refl _, fun _ _ => rfl⟩
          replace hrow := ownsRow_fr (w' := wq.drewN nq) hrow (fun _ _ => rfl)
          replace m0 := cell_keep m0 hbq
          replace m1 := cell_keep m1 hbq
          replace c0 := cell_keep c0 hbq
          replace c1 := cell_keep c1 hbq
          replace A := A.stay hbq
          replace BW := Below.step BW hbq
          replace hsz := Nat.le_trans hsz hbq.size
          clear hbq
          generalize wq.drewN nq = wv at *
          clear wq
          obtain ⟨wq, hwq⟩ : ∃ z, z = wv := ⟨_, rfl⟩
          subst hwq
          go_wp2_with (at_builtin; refine wpList_append_held (out := (hoK l h k)) (h := a) rfl (.tmp 39) (.tmp 44) rfl (by first | exact hrow | (rw [List.length_append]; exact hrow)) rfl rfl hsz HLO.out ?_; intro p6 q6 w6 hrow6 hg6 hb6)
          have hlt6 := World.ownsRow.lt hrow
          have hal := alloc_below wq (.cells #[.int .i64 a.1, .int .i64 a.2] 59)
          replace m0 := cell_keep m0 hal
          replace m1 := cell_keep m1 hal
          replace c0 := cell_keep c0 hal
          replace c1 := cell_keep c1 hal
          replace A := (A.stay hal).other hg6 (fun e => by have h1 := (hlt6 _ e).1; omega)
          replace m0 := cell_other m0 hg6 (fun e => by have h1 := (hlt6 _ e).1; have h2 := HBw.out; simp at h1; omega)
          replace m1 := cell_other m1 hg6 (fun e => by have h1 := (hlt6 _ e).1; have h2 := HBw.out; simp at h1; omega)
          replace c0 := cell_other c0 hg6 (fun e => by have h1 := (hlt6 _ e).1; have h2 := HBw.out; simp at h1; omega)
          replace c1 := cell_other c1 hg6 (fun e => by have h1 := (hlt6 _ e).1; have h2 := HBw.out; simp at h1; omega)
          have hsz6 : w.heap.size + 1 ≤ w6.heap.size := Nat.le_trans (Nat.le_trans hsz hal.size) hb6.size
          replace BW := (Below.step BW hal).trans (hb6.mono (Nat.le_succ _))
          clear hrow hsz hg6 hb6 hlt6 hal
          have hrow := hrow6
          have hsz := hsz6
          clear hrow6 hsz6
          try simp only [List.length_append, List.length_singleton] at hrow
          obtain ⟨wq, hwq⟩ : ∃ z, z = w6 := ⟨_, rfl⟩
          subst hwq
          clear m0 m1 c0 c1
          go_roundw
          case rel => exact ⟨k + 1, by omega, by go_num, by rw [hD.out], by rw [h2.out]; simp only [List.length_append, List.length_singleton]; exact hrow, A, hsz, BW⟩
          case measure => simp [intOf]; omega
    · have e : k = l.length := by omega
      subst e
      have hE := hoK_end (l := l) (h := h)
      rw [List.take_length]
      have c0 := (A.cell 0).trans (show _ = some _ from rfl)
      have c1 := (A.cell 1).trans (show _ = some _ from rfl)
      cases hd : l.any (fun a => decide (h.1 ≤ a.1))
      · have h2 : Hid (holdN l h = hoK l h l.length ++ [h]) := by show _ = _; rw [hE, hd]; rfl
        clear hE hd
        go_wp2_with (at_builtin; refine wpList_append_held (out := (hoK l h l.length)) (h := h) rfl (.tmp 48) (.tmp 50) rfl (by first | exact hrow | (rw [List.length_append]; exact hrow)) rfl rfl hsz (HKL.out l.length) ?_; intro p6 q6 w6 hrow6 hg6 hb6)
        have hlt6 := World.ownsRow.lt hrow
        have hal := alloc_below wq (.cells #[.int .i64 h.1, .int .i64 h.2] 59)
        replace c0 := cell_keep c0 hal
        replace c1 := cell_keep c1 hal
        replace A := (A.stay hal).other hg6 (fun e => by have h1 := (hlt6 _ e).1; omega)
        replace c0 := cell_other c0 hg6 (fun e => by have h1 := (hlt6 _ e).1; simp at h1; omega)
        replace c1 := cell_other c1 hg6 (fun e => by have h1 := (hlt6 _ e).1; simp at h1; omega)
        have hsz6 : w.heap.size + 1 ≤ w6.heap.size := Nat.le_trans (Nat.le_trans hsz hal.size) hb6.size
        replace BW := (Below.step BW hal).trans (hb6.mono (Nat.le_succ _))
        clear hrow hsz hg6 hb6 hlt6 hal
        have hrow := hrow6
        have hsz := hsz6
        clear hrow6 hsz6
        try simp only [List.length_append, List.length_singleton] at hrow
        obtain ⟨wq, hwq⟩ : ∃ z, z = w6 := ⟨_, rfl⟩
        subst hwq
        clear c0 c1
        go_wp2_with fail
        go_ret
        exact ⟨_, rfl, by rw [h2.out]; simp only [List.length_append, List.length_singleton]; exact ownsRow_low hrow (Nat.le_succ _), BW⟩
      · have h2 : Hid (holdN l h = hoK l h l.length) := by show _ = _; rw [hE, hd]; rfl
        clear hE hd
        clear c0 c1
        go_wp2_with fail
        go_ret
        exact ⟨_, rfl, by rw [h2.out]; exact ownsRow_low hrow (Nat.le_succ _), BW⟩
end Go.Proofs.YthiabbgkfmopiaaGreat

