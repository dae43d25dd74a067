/- Rows of pieces that are filled one by one, in the program's chapter 6; the contracts of PackMsgs and PackBlocks there: code and bytes, at every argument. What was there stays. -/
import Derived.Test.YtiabacnmmojfjaaJoint14
import Derived.Test.YtiabacnmmojfjaaJoint13
import Derived.Test.YtiabacnmmojfjaaWireH
namespace Go.Proofs.Ytiabacnmmojfjaa
open Go.ChangeShapes Go.WideShapes Go.ChangeAt Go.RowKit

theorem list_of {α : Type} {P : Nat → α → Prop} : ∀ n, (∀ i, i < n → ∃ x, P i x) → ∃ l : List α, l.length = n ∧ ∀ i x, l[i]? = some x → P i x
  | 0, _ => ⟨[], rfl, fun i x h => by simp at h⟩
  | n + 1, h => by
    obtain ⟨l, hl, hp⟩ := list_of n (fun i hi => h i (by omega))
    obtain ⟨y, hy⟩ := h n (Nat.lt_succ_self n)
    refine ⟨l ++ [y], by simp [hl], fun i x hx => ?_⟩
    by_cases hi : i < n
    · rw [List.getElem?_append_left (by omega)] at hx; exact hp i x hx
    · have e : i = n := by have := (List.getElem?_eq_some_iff.1 hx).1; simp [hl] at this; omega
      subst e
      rw [List.getElem?_append_right (by omega), hl, Nat.sub_self] at hx
      simp at hx; subst hx; exact hy
/-- A row of pieces that is being filled. -/
def pRow (ps : List Pi) (j : Nat) : List Value := (ps.take j).map Pi.val ++ List.replicate (ps.length - j) .nilIface
theorem pRow_set {ps : List Pi} {j : Nat} {x : Pi} (h : ps[j]? = some x) : (pRow ps j).set j x.val = pRow ps (j + 1) := by
  have hj := (List.getElem?_eq_some_iff.1 h).1
  unfold pRow
  rw [List.set_append_right _ _ (by simp; omega), List.take_add_one, h]
  have e : ps.length - j = (ps.length - (j + 1)) + 1 := by omega
  rw [e, List.replicate_succ]
  simp [Nat.min_eq_left (Nat.le_of_lt hj)]
theorem pRow_at {ps : List Pi} {j : Nat} (h : j < ps.length) : (pRow ps j)[j]? = some .nilIface := by
  unfold pRow
  rw [List.getElem?_append_right (by simp; omega)]
  have e : ps.length - j = (ps.length - (j + 1)) + 1 := by omega
  rw [e, List.replicate_succ]
  simp [Nat.min_eq_left (Nat.le_of_lt h)]
theorem pRow_all (ps : List Pi) : pRow ps ps.length = ps.map Pi.val := by simp [pRow]
theorem ownsRow_arr {w : World} {B g n : Nat} {t : TypeId} {vs : List Value} (h : w.ownsRow B t 1 (.slice (some ⟨g, 0, none⟩) n n) n vs) : Arr w g t vs := by
  obtain ⟨h1, h2⟩ := h
  rcases h2 with ⟨e, -⟩ | ⟨g', cap, cur, e, hb, hg, hle, hm, hs, ht⟩
  · simp at e
  · simp at e
    obtain ⟨rfl, rfl⟩ := e
    have e2 : cur.toList = vs := by
      rw [← ht, List.take_of_length_le (by simp; omega)]
    unfold Arr
    rw [hg, ← e2]
theorem infoPiece : (Try.prog.info? 138).map (fun i => (i.zero, i.size, i.bytes)) = some (some .nilIface, 1, 16) := by kernel_rfl
theorem made_pieces {w : World} {B g : Nat} {ps : List Pi} (h : w.ownsRow B 138 1 (.slice (some ⟨g, 0, none⟩) ps.length ps.length) ps.length (madeCells (Value.cells .nilIface) (ps.length * 1)).toList) : Arr w g 138 (pRow ps 0) := by
  have h2 := ownsRow_arr h
  have e : (madeCells (Value.cells .nilIface) (ps.length * 1)).toList = pRow ps 0 := by
    rw [Nat.mul_one, show (madeCells (Value.cells .nilIface) ps.length).toList = List.replicate ps.length .nilIface from toList_madeCells_one _ _]; simp [pRow]
  rw [e] at h2
  exact h2

theorem blks_as (ps : List Pi) (l : List BlkD) (hl : ps.length = l.length) (h : ∀ (i : Nat) (x : Pi), ps[i]? = some x → x.m = false ∧ l[i]? = some x.bs) : (pisF ps = if okBl l = true then 0 else 2) ∧ pisO ps = blksN l := by
  induction ps generalizing l with
  | nil => cases l with
    | nil => exact ⟨rfl, rfl⟩
    | cons a l => simp at hl
  | cons x ps ih => cases l with
    | nil => simp at hl
    | cons a l =>
      obtain ⟨h1, h2⟩ := ih l (by simpa using hl) (fun i y hy => by have := h (i + 1) y (by simpa using hy); simpa using this)
      obtain ⟨hm, ha⟩ := h 0 x rfl
      simp at ha
      subst ha
      have e : x.fc = blkF x.bs.length := by rw [Pi.fc, hm]; rfl
      refine ⟨?_, ?_⟩
      · rw [pisF, e, h1]
        unfold blkF
        by_cases hb : x.bs.length ≤ 120
        · simp [hb, okBl]
        · simp [hb, okBl]
      · rw [blksN_cons, ← h2]
        simp [pisO, Pi.out, Pi.hd, hm, blkW]
theorem pis_of_blks {w : World} {p : Option Addr} {q : Nat} {l : List BlkD} (h : RdL bytC w p q l) : ∃ ps : List Pi, ps.length = l.length ∧ ∀ (i : Nat) (x : Pi), ps[i]? = some x → (x.m = false ∧ l[i]? = some x.bs) ∧ Rd w x.p x.q x.bs ∧ ∃ b o, p = some ⟨b, o, none⟩ ∧ w.cell? ⟨b, o + i, none⟩ = some (.slice x.p x.bs.length x.q) := by
  refine list_of l.length (fun i hi => ?_)
  obtain ⟨b, o, rfl, hc⟩ := h.2.2.2 (by omega)
  obtain ⟨us, ⟨pa, qa, rfl, ra⟩, hcell⟩ := hc i l[i] (by simp [hi])
  have c := hcell 0 _ rfl
  rw [show bytC.n = 1 from rfl, Nat.mul_one, Nat.add_zero] at c
  exact ⟨⟨false, 0, pa, qa, l[i]⟩, ⟨rfl, by simp [hi]⟩, ra, b, o, rfl, c⟩
theorem pbC_pk {ps : List Pi} {l : List BlkD} (hl : l.length ≤ 8) (h : (pisF ps = if okBl l = true then 0 else 2) ∧ pisO ps = blksN l) : pbC l = pkC ps 160 ∧ pbL l = pkL ps 160 := by
  have e : pbC l = pkC ps 160 := by
    rw [pbC, pkC, h.1, h.2]
    cases okBl l <;> simp [hl]
  exact ⟨e, by rw [pbL, pkL, e, h.2]⟩
theorem pbC_over {l : List BlkD} (hl : ¬ l.length ≤ 8) : pbC l = 2 ∧ pbL l = [] := by
  have e : pbC l = 2 := by rw [pbC, if_neg (fun h => hl h.1)]
  exact ⟨e, by rw [pbL, e, if_neg (by decide)]⟩
set_option maxRecDepth 4000 in
set_option maxHeartbeats 1000000 in
theorem implPB_c (l : List BlkD) (p : Option Addr) (q : Nat) (w : World) (hr : RdL bytC w p q l) :
    Calls Try.prog 91 #[.slice p l.length q] w fun e w' => ∃ u, e = .returned (.agg #[.int .i64 (pbC l), u]) ∧ Own w' w.heap.size u (pbL l) ∧ Below w.heap.size w w' := by
  have A0 := Arr.new w [.int .i64 0, .slice none 0 0] 128
  have B0 := alloc_below w (.cells #[.int .i64 0, .slice none 0 0] 128)
  by_cases hl : l.length ≤ 8
  · have hlI : ¬ (8 < (l.length : Int)) := by omega
    obtain ⟨ps, hpl, hps⟩ := pis_of_blks hr
    have HPS : Hid (∀ (i : Nat) (x : Pi), ps[i]? = some x → (x.m = false ∧ l[i]? = some x.bs) ∧ Rd w x.p x.q x.bs ∧ ∃ b o, p = some ⟨b, o, none⟩ ∧ w.cell? ⟨b, o + i, none⟩ = some (.slice x.p x.bs.length x.q)) := hps
    obtain ⟨e1, e2⟩ := pbC_pk hl (blks_as ps l hpl fun i x hx => (hps i x hx).1)
    rw [e1, e2, ← hpl]
    have hq := hr.1
    have hq2 : q ≤ 2 ^ 63 - 1 := hr.2.1
    have hn12 : ps.length ≤ 8 := by omega
    have hnI : (ps.length : Int) ≤ 8 := by omega
    have hnq : ps.length ≤ q := by omega
    have K : Hid (∀ W, Pis W (w.heap.size + 1) 0 ps → Calls Try.prog 94 #[.slice (some ⟨w.heap.size + 1, 0, none⟩) ps.length ps.length, .int .i64 160] W fun e w' => ∃ u, e = .returned (.agg #[.int .i64 (pkC ps 160), u]) ∧ Own w' W.heap.size u (pkL ps 160) ∧ Below W.heap.size W w') := fun W hP => packed_c ps (w.heap.size + 1) 0 ps.length 160 W hP (by omega) (by decide)
    obtain ⟨pc, HPC⟩ : ∃ pc, Hid (pc = pkC ps 160) := ⟨_, rfl⟩
    obtain ⟨pl, HPL⟩ : ∃ pl, Hid (pl = pkL ps 160) := ⟨_, rfl⟩
    rw [← HPC.out, ← HPL.out] at K ⊢
    clear HPC HPL e1 e2 hps hr hpl hl hlI hq
    obtain ⟨i0, hi, hz0, hz1, hz2⟩ := info_parts infoPiece
    go_enter Try.func91, Try.ntmps91
    go_wp2_with (at_make; refine wpList_make_full _ rfl (.tmp 11) (.tmp 11) 135 rfl w.heap.size 138 i0 .nilIface 1 Try.underlying135 hi hz0 hz1 .i64 .i64 _ _ ps.length rfl rfl rfl rfl (by rw [hz2]; omega) (by unfold maxLen; omega) (by rw [size_alloc]; omega) ?_; intro w1 hown hgrow)
    have A1 := A0.other hgrow (by simp)
    have B1 := B0.grown hgrow B0.size (fun k hk => by simp at hk)
    rw [size_alloc] at hown
    have P1 := made_pieces hown
    clear hown hgrow A0 B0
    go_loopw [15] (fun i wr => ∃ j : Nat, j ≤ ps.length ∧ i = .int .i64 j ∧ Arr wr (w.heap.size + 1) 138 (pRow ps j) ∧ Arr wr w.heap.size 128 [.int .i64 0, .slice none 0 0] ∧ Below w.heap.size w wr)
      (fun i _ => ps.length - (intOf i).toNat)
    case atStart => exact ⟨0, Nat.zero_le _, rfl, P1, A1, B1⟩
    case round =>
      clear P1 A1 B1
      obtain ⟨j, hj, rfl, P, A, BW⟩ := hrel
      by_cases hlt : j < ps.length
      · have hI : (j : Int) < (ps.length : Int) := by omega
        obtain ⟨x, hx⟩ : ∃ x, Hid (ps[j]? = some x) := ⟨ps[j], by show _ = _; simp [hlt]⟩
        obtain ⟨⟨hxm, -⟩, -, b, o, hpe, hc0⟩ := HPS.out j x hx.out
        have HPE : Hid (p = some ⟨b, o, none⟩) := hpe
        rw [HPE.out]
        clear hpe
        have d0 := cell_keep hc0 BW
        have P3 := P.set j x.val
        rw [pRow_set hx.out] at P3
        have A3 := A.setOther (a := ⟨w.heap.size + 1, j, none⟩) (by show w.heap.size ≠ w.heap.size + 1; omega) x.val
        have B3 := BW.setCell (p := ⟨w.heap.size + 1, j, none⟩) (Nat.le_succ _) x.val
        have cj : wr.cell? ⟨w.heap.size + 1, j, none⟩ = some .nilIface := (P.cell j).trans (pRow_at hlt)
        have fj := P.frozen j
        obtain ⟨m, k, xp, xq, xb⟩ := x
        simp only at hxm d0 cj fj P3 A3 B3
        subst hxm
        simp only [Pi.val, Bool.false_eq_true, if_false] at P3 A3 B3
        clear P A BW hc0 hx
        go_wp2_with fail
        go_roundw
        case rel => exact ⟨j + 1, by omega, by go_num, P3, A3, B3⟩
        case measure => simp [intOf]; omega
      · have e : j = ps.length := by omega
        subst e
        rw [pRow_all] at P
        have HP : Hid (Pis wr (w.heap.size + 1) 0 ps) := fun i x hx => by
          rw [Nat.zero_add, P.cell, List.getElem?_map, hx]
          exact ⟨rfl, (HPS.out i x hx).2.1.keep BW⟩
        clear hlt P
        go_wp2_with fail
        refine (K.out _ HP.out).mono ?_
        rintro e w3 ⟨u3, rfl, k3, hb3⟩
        have hlt3 : Hid (w.heap.size < wr.heap.size) := A.lt
        have BW3 := Below.step BW hb3
        have A3 := A.stay hb3
        obtain ⟨p3, q3, rfl, -⟩ := k3.rd
        have c0 := A3.cell 0
        have c1 := A3.cell 1
        have fz := A3.frozen
        simp at c0 c1
        clear A A3 BW HP K hb3
        go_wp2_with fail
        refine bodyPost_ret (v := .agg #[.int .i64 pc, .slice p3 pl.length q3]) (by simp [results, Try.results91, go_sem, c0, c1]) rfl ⟨_, rfl, ?_, (BW3.setCell (Nat.le_refl _) _).setCell (Nat.le_refl _) _⟩
        exact ((k3.set (a := ⟨w.heap.size, 0, none⟩) hlt3.out _).set (a := ⟨w.heap.size, 1, none⟩) hlt3.out _).lower (B' := w.heap.size) (Nat.le_of_lt hlt3.out)
  · have hlI : 8 < (l.length : Int) := by omega
    rw [(pbC_over hl).1, (pbC_over hl).2]
    go_enter Try.func91, Try.ntmps91
    go_wp2
    exact bodyPost_ret (v := .agg #[.int .i64 2, .slice none 0 0]) (by simp [results, Try.results91, go_sem]) rfl ⟨_, rfl, Own_nil _ _, alloc_below _ _⟩
end Go.Proofs.Ytiabacnmmojfjaa

