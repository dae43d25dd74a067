/- The draws of chapter 11: an end turned (written by tools/draw_st.py). -/
import Derived.Test.YtiabacnmmojfjaaGreatDoorJoint24
namespace Go.Proofs.YtiabacnmmojfjaaGreatDoor
open Go.ChangeShapes Go.WideShapes Go.ChangeAt Go.RowKit

theorem grownBy_low {w v : World} (h : Below w.heap.size w v) (row : Option Nat) : w.grownBy v row := ⟨h.os, h.tape, h.output, h.size, fun k hk _ => h.block k hk⟩
theorem grownBy_row (w : World) (g : Nat) (xs : Array Value) : w.grownBy (w.setRow g xs) (some g) := ⟨rfl, rfl, rfl, by rw [size_setRow]; exact Nat.le_refl _, fun k _ hne => setRow_other w g k xs (fun e => hne (by rw [e]))⟩
theorem grownBy_rowNew {w v : World} {row : Option Nat} (hg : w.grownBy v row) {g : Nat} (h : w.heap.size ≤ g) (xs : Array Value) : w.grownBy (v.setRow g xs) row :=
  have hs := grownBy_row v g xs
  ⟨hs.os.trans hg.os, hs.tape.trans hg.tape, hs.output.trans hg.output, Nat.le_trans hg.size hs.size, fun k hk hne => (hs.block k (Nat.lt_of_lt_of_le hk hg.size) (fun e => by simp at e; omega)).trans (hg.block k hk hne)⟩
theorem turned_fin {w v : World} {b : Nat} {p : Option Addr} {q : Nat} {cs : List UInt8} {t : Int} (hs : Src v b p q cs t) (hb : b < w.heap.size) (hg : w.grownBy v (some b)) {g : Nat} (h : w.heap.size ≤ g) (xs : Array Value) : Src (v.setRow g xs) b p q cs t ∧ w.grownBy (v.setRow g xs) (some b) :=
  ⟨hs.other (grownBy_row v g xs) (fun k hk => by simp at hk; omega), grownBy_rowNew hg h xs⟩
theorem body_at {w : World} {B : Nat} {v : Value} {P D : List MsgD} {a : MsgD} {xs : List Value} {fp : List Nat} (h : OwnL 46 msgC w B v (P ++ a :: D) xs fp) :
    ∃ g q pm qm, v = .slice (some ⟨g, 0, none⟩) (P ++ a :: D).length q ∧ (P ++ a :: D).length ≤ q ∧ q ≤ 2 ^ 63 - 1 ∧ B ≤ g ∧ w.cell? ⟨g, P.length * 2, none⟩ = some (.int .i64 a.1) ∧ w.cell? ⟨g, P.length * 2 + 1, none⟩ = some (.slice pm a.2.length qm) ∧ Own w B (.slice pm a.2.length qm) a.2 ∧ (∀ k, (Value.slice pm a.2.length qm).ownBlock = some k → k ≠ g ∧ k ∈ fp) ∧
      ∀ (w' : World) (bs : List UInt8), Own w' B (.slice pm a.2.length qm) bs → (∀ k, B ≤ k → k < w.heap.size → (Value.slice pm a.2.length qm).ownBlock ≠ some k → w'.heap[k]? = w.heap[k]?) → OwnL 46 msgC w' B v (P ++ (a.1, bs) :: D) xs fp := by
  obtain ⟨x1, us, x2, f1, f, f2, rfl, rfl, hx, ho, hd, hd2, hre⟩ := OwnL.focus h
  obtain ⟨u, rfl, o, rfl⟩ := msg_own ho
  obtain ⟨pm, qm, rfl, -⟩ := o.rd
  have hx2 : x1.length = P.length * 2 := hx
  have hll : P.length < (P ++ a :: D).length := by simp
  have hins := h.ins
  have hself : ∀ k, (Value.slice pm a.2.length qm).ownBlock = some k → v.ownBlock ≠ some k := fun k hk => (hd k (mem_opt.2 hk)).2.2
  have hkeep : ∀ (w' : World) (bs : List UInt8), Own w' B (.slice pm a.2.length qm) bs → (∀ k, B ≤ k → k < w.heap.size → (Value.slice pm a.2.length qm).ownBlock ≠ some k → w'.heap[k]? = w.heap[k]?) → OwnL 46 msgC w' B v (P ++ (a.1, bs) :: D) (x1 ++ [.int .i64 a.1, .slice pm a.2.length qm] ++ x2) (f1 ++ (Value.slice pm a.2.length qm).ownBlock.toList ++ f2) := fun w' bs o' hk => by
    refine hre w' (a.1, bs) [.int .i64 a.1, .slice pm a.2.length qm] (msg_own_mk (a := (a.1, bs)) o') ?_ (fun k hm => hk k (hins k (by rcases List.mem_append.1 hm with h1 | h1 <;> simp [h1])).1 (hins k (by rcases List.mem_append.1 hm with h1 | h1 <;> simp [h1])).2 (fun e => ?_))
    · have hr := ownsRow_fr (w' := w') h.row (fun k e => hk k (hins k (List.mem_append_left _ (mem_opt.2 e))).1 (hins k (List.mem_append_left _ (mem_opt.2 e))).2 (fun e2 => hself k e2 e))
      simpa using hr
    · rcases List.mem_append.1 hm with h1 | h1
      · exact (hd k (mem_opt.2 e)).1 h1
      · exact (hd k (mem_opt.2 e)).2.1 h1
  have h0 := h.row
  rcases h.row.2 with ⟨e, hn⟩ | ⟨g, cap, cur, rfl, hb, hg, hle, hm, hs, ht⟩
  · omega
  · have c0 := World.ownsRow.cellAt h0 (P.length * 2) (by show _ < _ * 2; omega)
    have c1 := World.ownsRow.cellAt h0 (P.length * 2 + 1) (by show _ < _ * 2; omega)
    rw [List.append_assoc, List.getElem?_append_right (by omega), hx2, Nat.sub_self] at c0
    rw [List.append_assoc, List.getElem?_append_right (by omega), hx2, Nat.add_sub_cancel_left] at c1
    exact ⟨g, cap, pm, qm, rfl, hle, hm, hb, c0, c1, o, fun k hk => ⟨fun e => hself k hk (by rw [e]; rfl), List.mem_append_left _ (List.mem_append_right _ (mem_opt.2 hk))⟩, hkeep⟩
theorem endR_parts2 {w : World} {B : Nat} {r : EndResultD} {us : List Value} {v : Value} {fp : List Nat} (h : endResultC.own w B r ([.int .i64 r.1] ++ (us ++ [v])) fp) (hu : us.length = 12) :
    ∃ fe fd, endC.own w B r.2.1 us fe ∧ msgsC.own w B r.2.2 [v] fd ∧ (∀ k, k ∈ fe → k ∈ fp) ∧ ∀ k, k ∈ fd → k ∈ fp := by
  obtain ⟨us0, ts0, f, g, e1, hf, -, ⟨h1, hf0⟩, us1, ts1, f1, g1, e2, hg, -, hE, hM⟩ := h
  subst h1
  have e3 : us ++ [v] = ts0 := by simpa using e1
  have hl := endC.len (endC.toRep hE)
  have e4 : us ++ [v] = us1 ++ ts1 := e3.trans e2
  obtain ⟨rfl, rfl⟩ := List.append_inj e4 (by rw [hu]; exact hl.symm)
  exact ⟨f1, g1, hE, hM, fun k hk => by rw [hf, hg]; exact List.mem_append_right _ (List.mem_append_left _ hk), fun k hk => by rw [hf, hg]; exact List.mem_append_right _ (List.mem_append_right _ hk)⟩
theorem rd_from {w w' : World} {a : Option Addr} {cap : Nat} {bs : List UInt8} (h : Rd w a cap bs) (hk : ∀ x : Addr, a = some x → w'.heap[x.block]? = w.heap[x.block]?) : Rd w' a cap bs :=
  ⟨h.1, h.2.1, h.2.2.1, fun hp => by
    obtain ⟨b, o, e, hc⟩ := h.2.2.2 hp
    refine ⟨b, o, e, fun i hi => ?_⟩
    rw [World.cell?_of_block (w := w) (a := ⟨b, o + i, none⟩) (hk ⟨b, o, none⟩ e)]
    exact hc i hi⟩
theorem rd_row {w : World} {a : Option Addr} {cap : Nat} {bs : List UInt8} (h : Rd w a cap bs) {g : Nat} (hd : ∀ x, a = some x → x.block ≠ g) (xs : Array Value) : Rd (w.setRow g xs) a cap bs := h.other (grownBy_row w g xs) (fun _ y hy e => hd y hy (by simp at e; exact e.symm))
set_option maxRecDepth 4000 in
set_option maxHeartbeats 4000000 in
theorem l11Turned_c (b : Nat) (p : Option Addr) (q : Nat) (cs : List UInt8) (t : Int) (w : World) (hs0 : Src w b p q cs t) (ht : 0 ≤ t) (ht2 : t ≤ 600000000) (e : EndD) (us : List Value) (fp : List Nat) (B : Nat) (hB : b < B) (hB3 : B ≤ w.heap.size) (K : endC.own w B e us fp) :
    Calls Tryz.prog 49 #[.pointer (some ⟨b, 0, none⟩), .agg us.toArray] w fun x w' => ∃ (e' : EndD) (us' : List Value) (t' : Int), x = .returned (.agg us'.toArray) ∧ (∀ W', (∀ k, B ≤ k → W'.heap[k]? = w'.heap[k]?) → endC.rep W' e' us') ∧ t ≤ t' ∧ t' ≤ t + 300 ∧ Src w' b p q cs t' ∧ w.grownBy w' (some b) := by
  obtain ⟨p1, q1, p2, q2, p3, q3, p4, q4, p5, q5, p6, q6, p7, q7, p8, q8, rfl, -, -, -, -, -, -, -, -⟩ := end_rep (endC.toRep K)
  have HE : Hid (∀ W, w.grownBy W (some b) → endC.own W B e [.int .i64 e.1.1, .slice p1 e.1.2.1.length q1, .int .i64 e.1.2.2.1, .slice p2 e.1.2.2.2.length q2, .int .i64 e.2.1, .int .i64 e.2.2.1, .slice p3 e.2.2.2.1.length q3, .slice p4 e.2.2.2.2.1.length q4, .slice p5 e.2.2.2.2.2.1.length q5, .slice p6 e.2.2.2.2.2.2.1.length q6, .slice p7 e.2.2.2.2.2.2.2.1.length q7, .slice p8 e.2.2.2.2.2.2.2.2.length q8] fp) := fun W hg => endC.other K (Only.grown hg) (fun k hk h => by have h1 := (endC.ins K k hk).1; simp at h; omega)
  have hB2 : Hid (B ≤ w.heap.size) := hB3
  have X := (Arr.new w [.int .i64 e.1.1, .slice p1 e.1.2.1.length q1, .int .i64 e.1.2.2.1, .slice p2 e.1.2.2.2.length q2, .int .i64 e.2.1, .int .i64 e.2.2.1, .slice p3 e.2.2.2.1.length q3, .slice p4 e.2.2.2.2.1.length q4, .slice p5 e.2.2.2.2.2.1.length q5, .slice p6 e.2.2.2.2.2.2.1.length q6, .slice p7 e.2.2.2.2.2.2.2.1.length q7, .slice p8 e.2.2.2.2.2.2.2.2.length q8] 32).old _ (.cells #[.int .i64 0, .slice none 0 0, .int .i64 0, .slice none 0 0, .int .i64 0, .int .i64 0, .slice none 0 0, .slice none 0 0, .slice none 0 0, .slice none 0 0, .slice none 0 0, .slice none 0 0] 32)
  have R := Arr.new (w.alloc (.cells #[.int .i64 e.1.1, .slice p1 e.1.2.1.length q1, .int .i64 e.1.2.2.1, .slice p2 e.1.2.2.2.length q2, .int .i64 e.2.1, .int .i64 e.2.2.1, .slice p3 e.2.2.2.1.length q3, .slice p4 e.2.2.2.2.1.length q4, .slice p5 e.2.2.2.2.2.1.length q5, .slice p6 e.2.2.2.2.2.2.1.length q6, .slice p7 e.2.2.2.2.2.2.2.1.length q7, .slice p8 e.2.2.2.2.2.2.2.2.length q8] 32)) [.int .i64 0, .slice none 0 0, .int .i64 0, .slice none 0 0, .int .i64 0, .int .i64 0, .slice none 0 0, .slice none 0 0, .slice none 0 0, .slice none 0 0, .slice none 0 0, .slice none 0 0] 32
  rw [size_alloc] at R
  have B0 := Below.mk (alloc_below w (.cells #[.int .i64 e.1.1, .slice p1 e.1.2.1.length q1, .int .i64 e.1.2.2.1, .slice p2 e.1.2.2.2.length q2, .int .i64 e.2.1, .int .i64 e.2.2.1, .slice p3 e.2.2.2.1.length q3, .slice p4 e.2.2.2.2.1.length q4, .slice p5 e.2.2.2.2.2.1.length q5, .slice p6 e.2.2.2.2.2.2.1.length q6, .slice p7 e.2.2.2.2.2.2.2.1.length q7, .slice p8 e.2.2.2.2.2.2.2.2.length q8] 32)) (.cells #[.int .i64 0, .slice none 0 0, .int .i64 0, .slice none 0 0, .int .i64 0, .int .i64 0, .slice none 0 0, .slice none 0 0, .slice none 0 0, .slice none 0 0, .slice none 0 0, .slice none 0 0] 32)
  have hb0 : Hid (b < w.heap.size) := hs0.lt
  have hs := hs0.keep B0
  have hres : Hid ((Tryz.prog.info? 32).map (·.size) = some 12) := by show _ = _; kernel_rfl
  clear K hB hs0 hB3
  go_enter Tryz.func49, Tryz.ntmps49
  go_wp2_with fail
  generalize (w.alloc (.cells #[.int .i64 e.1.1, .slice p1 e.1.2.1.length q1, .int .i64 e.1.2.2.1, .slice p2 e.1.2.2.2.length q2, .int .i64 e.2.1, .int .i64 e.2.2.1, .slice p3 e.2.2.2.1.length q3, .slice p4 e.2.2.2.2.1.length q4, .slice p5 e.2.2.2.2.2.1.length q5, .slice p6 e.2.2.2.2.2.2.1.length q6, .slice p7 e.2.2.2.2.2.2.2.1.length q7, .slice p8 e.2.2.2.2.2.2.2.2.length q8] 32)).alloc (.cells #[.int .i64 0, .slice none 0 0, .int .i64 0, .slice none 0 0, .int .i64 0, .int .i64 0, .slice none 0 0, .slice none 0 0, .slice none 0 0, .slice none 0 0, .slice none 0 0, .slice none 0 0] 32) = W at *
  refine (l1Next_c b p q cs t 14 W hs (by omega) (by omega) (by omega) (by omega)).mono ?_
  rintro x w1 ⟨r, rfl, x0, y0, hs1, hg1⟩
  replace X := X.other hg1 (fun e => by have := hb0.out; simp at e; omega)
  replace R := R.other hg1 (fun e => by have := hb0.out; simp at e; omega)
  have hG : w.grownBy w1 (some b) := grownBy_trans (grownBy_low B0 _) hg1
  replace hs := hs1
  clear hs1 hg1 B0
  by_cases h0 : r = 0
  · subst h0
    go_wp2_with fail
    refine (l1Pick_c b p q cs (t + 1) w1.heap.size [0, 1, 2, 3] 4 _ (hs.keep (alloc_below _ _)) (by omega) (by omega) rfl (by decide) (by decide) (by have := hs.lt; omega) (new_ints _ _ _ [0, 1, 2, 3] rfl)).mono ?_
    rintro x w3 ⟨k3, -, rfl, hs3, hg3⟩
    replace X := (X.stay (alloc_below _ _)).other hg3 (fun e => by have := hb0.out; simp at e; omega)
    replace R := (R.stay (alloc_below _ _)).other hg3 (fun e => by have := hb0.out; simp at e; omega)
    replace hG := grownBy_trans hG (grownBy_trans (World.grownBy_alloc _ _ _) hg3)
    replace hs := hs3
    clear hs3
    clear hg3
    have z4 := (X.cell 4).trans (show _ = some _ from rfl)
    have fx := X.frozen
    replace R := R.setOther (a := ⟨w.heap.size, 4, none⟩) (by show w.heap.size + 1 ≠ w.heap.size; omega) (.int .i64 k3)
    replace X := X.set 4 (.int .i64 k3)
    replace hs := hs.other (grownBy_set _ w.heap.size 4 (.int .i64 k3)) (fun k hk => by have := hb0.out; simp at hk; omega)
    replace hG := grownBy_setNew (o := 4) (u := .int .i64 k3) hG (Nat.le_refl _)
    simp only [List.set_cons_zero, List.set_cons_succ] at X
    generalize e6 : (w3.setCell ⟨w.heap.size, 4, none⟩ (.int .i64 k3)) = V at *
    have c0 := (X.cell 0).trans (show _ = some _ from rfl)
    have c1 := (X.cell 1).trans (show _ = some _ from rfl)
    have c2 := (X.cell 2).trans (show _ = some _ from rfl)
    have c3 := (X.cell 3).trans (show _ = some _ from rfl)
    have c4 := (X.cell 4).trans (show _ = some _ from rfl)
    have c5 := (X.cell 5).trans (show _ = some _ from rfl)
    have c6 := (X.cell 6).trans (show _ = some _ from rfl)
    have c7 := (X.cell 7).trans (show _ = some _ from rfl)
    have c8 := (X.cell 8).trans (show _ = some _ from rfl)
    have c9 := (X.cell 9).trans (show _ = some _ from rfl)
    have c10 := (X.cell 10).trans (show _ = some _ from rfl)
    have c11 := (X.cell 11).trans (show _ = some _ from rfl)
    have hF := turned_fin hs hb0.out hG (show w.heap.size ≤ w.heap.size + 1 by omega) #[.int .i64 e.1.1, .slice p1 e.1.2.1.length q1, .int .i64 e.1.2.2.1, .slice p2 e.1.2.2.2.length q2, .int .i64 k3, .int .i64 e.2.2.1, .slice p3 e.2.2.2.1.length q3, .slice p4 e.2.2.2.2.1.length q4, .slice p5 e.2.2.2.2.2.1.length q5, .slice p6 e.2.2.2.2.2.2.1.length q6, .slice p7 e.2.2.2.2.2.2.2.1.length q7, .slice p8 e.2.2.2.2.2.2.2.2.length q8]
    have hKE := HE.out _ hF.2
    have hrep : Hid (∀ W', (∀ k, B ≤ k → W'.heap[k]? = (V.setRow (w.heap.size + 1) #[.int .i64 e.1.1, .slice p1 e.1.2.1.length q1, .int .i64 e.1.2.2.1, .slice p2 e.1.2.2.2.length q2, .int .i64 k3, .int .i64 e.2.2.1, .slice p3 e.2.2.2.1.length q3, .slice p4 e.2.2.2.2.1.length q4, .slice p5 e.2.2.2.2.2.1.length q5, .slice p6 e.2.2.2.2.2.2.1.length q6, .slice p7 e.2.2.2.2.2.2.2.1.length q7, .slice p8 e.2.2.2.2.2.2.2.2.length q8]).heap[k]?) → endC.rep W' (e.1, k3, e.2.2.1, e.2.2.2.1, e.2.2.2.2.1, e.2.2.2.2.2) [.int .i64 e.1.1, .slice p1 e.1.2.1.length q1, .int .i64 e.1.2.2.1, .slice p2 e.1.2.2.2.length q2, .int .i64 k3, .int .i64 e.2.2.1, .slice p3 e.2.2.2.1.length q3, .slice p4 e.2.2.2.2.1.length q4, .slice p5 e.2.2.2.2.2.1.length q5, .slice p6 e.2.2.2.2.2.2.1.length q6, .slice p7 e.2.2.2.2.2.2.2.1.length q7, .slice p8 e.2.2.2.2.2.2.2.2.length q8]) := fun W' hk => by
      obtain ⟨r1, r2, r3, r4, r5, r6, r7, r8⟩ := end_unmk (endC.toRep (endC.fr hKE (fun k h => hk k (endC.ins hKE k h).1)))
      exact end_mk (a := (e.1, k3, e.2.2.1, e.2.2.2.1, e.2.2.2.2.1, e.2.2.2.2.2)) r1 r2 r3 r4 r5 r6 r7 r8
    have N := R.row [.int .i64 e.1.1, .slice p1 e.1.2.1.length q1, .int .i64 e.1.2.2.1, .slice p2 e.1.2.2.2.length q2, .int .i64 k3, .int .i64 e.2.2.1, .slice p3 e.2.2.2.1.length q3, .slice p4 e.2.2.2.2.1.length q4, .slice p5 e.2.2.2.2.2.1.length q5, .slice p6 e.2.2.2.2.2.2.1.length q6, .slice p7 e.2.2.2.2.2.2.2.1.length q7, .slice p8 e.2.2.2.2.2.2.2.2.length q8]
    have d0 := (N.cell 0).trans (show _ = some _ from rfl)
    have d1 := (N.cell 1).trans (show _ = some _ from rfl)
    have d2 := (N.cell 2).trans (show _ = some _ from rfl)
    have d3 := (N.cell 3).trans (show _ = some _ from rfl)
    have d4 := (N.cell 4).trans (show _ = some _ from rfl)
    have d5 := (N.cell 5).trans (show _ = some _ from rfl)
    have d6 := (N.cell 6).trans (show _ = some _ from rfl)
    have d7 := (N.cell 7).trans (show _ = some _ from rfl)
    have d8 := (N.cell 8).trans (show _ = some _ from rfl)
    have d9 := (N.cell 9).trans (show _ = some _ from rfl)
    have d10 := (N.cell 10).trans (show _ = some _ from rfl)
    have d11 := (N.cell 11).trans (show _ = some _ from rfl)
    go_wp2_with (refine wpList_store_row rfl 32 _ _ rfl (w.heap.size + 1) #[.int .i64 e.1.1, .slice p1 e.1.2.1.length q1, .int .i64 e.1.2.2.1, .slice p2 e.1.2.2.2.length q2, .int .i64 k3, .int .i64 e.2.2.1, .slice p3 e.2.2.2.1.length q3, .slice p4 e.2.2.2.2.1.length q4, .slice p5 e.2.2.2.2.2.1.length q5, .slice p6 e.2.2.2.2.2.2.1.length q6, .slice p7 e.2.2.2.2.2.2.2.1.length q7, .slice p8 e.2.2.2.2.2.2.2.2.length q8] rfl rfl 32 #[.int .i64 0, .slice none 0 0, .int .i64 0, .slice none 0 0, .int .i64 0, .int .i64 0, .slice none 0 0, .slice none 0 0, .slice none 0 0, .slice none 0 0, .slice none 0 0, .slice none 0 0] R hres.out rfl (by simp [Value.oneCell']) ?_)
    exact bodyPost_ret (v := .agg #[.int .i64 e.1.1, .slice p1 e.1.2.1.length q1, .int .i64 e.1.2.2.1, .slice p2 e.1.2.2.2.length q2, .int .i64 k3, .int .i64 e.2.2.1, .slice p3 e.2.2.2.1.length q3, .slice p4 e.2.2.2.2.1.length q4, .slice p5 e.2.2.2.2.2.1.length q5, .slice p6 e.2.2.2.2.2.2.1.length q6, .slice p7 e.2.2.2.2.2.2.2.1.length q7, .slice p8 e.2.2.2.2.2.2.2.2.length q8]) (by simp [results, Tryz.results49, go_sem, d0, d1, d2, d3, d4, d5, d6, d7, d8, d9, d10, d11]) rfl ⟨(e.1, k3, e.2.2.1, e.2.2.2.1, e.2.2.2.2.1, e.2.2.2.2.2), [.int .i64 e.1.1, .slice p1 e.1.2.1.length q1, .int .i64 e.1.2.2.1, .slice p2 e.1.2.2.2.length q2, .int .i64 k3, .int .i64 e.2.2.1, .slice p3 e.2.2.2.1.length q3, .slice p4 e.2.2.2.2.1.length q4, .slice p5 e.2.2.2.2.2.1.length q5, .slice p6 e.2.2.2.2.2.2.1.length q6, .slice p7 e.2.2.2.2.2.2.2.1.length q7, .slice p8 e.2.2.2.2.2.2.2.2.length q8], t + 1 + 1, rfl, hrep.out, by omega, by omega, hF.1, hF.2⟩
  · have e0 : (r == 0) = false := by simp [h0]
    clear h0
    by_cases h1 : r = 1
    · subst h1
      go_wp2_with fail
      refine (l1Pick_c b p q cs (t + 1) w1.heap.size [0, 1, 2, 3] 4 _ (hs.keep (alloc_below _ _)) (by omega) (by omega) rfl (by decide) (by decide) (by have := hs.lt; omega) (new_ints _ _ _ [0, 1, 2, 3] rfl)).mono ?_
      rintro x w3 ⟨k3, -, rfl, hs3, hg3⟩
      replace X := (X.stay (alloc_below _ _)).other hg3 (fun e => by have := hb0.out; simp at e; omega)
      replace R := (R.stay (alloc_below _ _)).other hg3 (fun e => by have := hb0.out; simp at e; omega)
      replace hG := grownBy_trans hG (grownBy_trans (World.grownBy_alloc _ _ _) hg3)
      replace hs := hs3
      clear hs3
      clear hg3
      have z5 := (X.cell 5).trans (show _ = some _ from rfl)
      have fx := X.frozen
      replace R := R.setOther (a := ⟨w.heap.size, 5, none⟩) (by show w.heap.size + 1 ≠ w.heap.size; omega) (.int .i64 k3)
      replace X := X.set 5 (.int .i64 k3)
      replace hs := hs.other (grownBy_set _ w.heap.size 5 (.int .i64 k3)) (fun k hk => by have := hb0.out; simp at hk; omega)
      replace hG := grownBy_setNew (o := 5) (u := .int .i64 k3) hG (Nat.le_refl _)
      simp only [List.set_cons_zero, List.set_cons_succ] at X
      generalize e6 : (w3.setCell ⟨w.heap.size, 5, none⟩ (.int .i64 k3)) = V at *
      have c0 := (X.cell 0).trans (show _ = some _ from rfl)
      have c1 := (X.cell 1).trans (show _ = some _ from rfl)
      have c2 := (X.cell 2).trans (show _ = some _ from rfl)
      have c3 := (X.cell 3).trans (show _ = some _ from rfl)
      have c4 := (X.cell 4).trans (show _ = some _ from rfl)
      have c5 := (X.cell 5).trans (show _ = some _ from rfl)
      have c6 := (X.cell 6).trans (show _ = some _ from rfl)
      have c7 := (X.cell 7).trans (show _ = some _ from rfl)
      have c8 := (X.cell 8).trans (show _ = some _ from rfl)
      have c9 := (X.cell 9).trans (show _ = some _ from rfl)
      have c10 := (X.cell 10).trans (show _ = some _ from rfl)
      have c11 := (X.cell 11).trans (show _ = some _ from rfl)
      have hF := turned_fin hs hb0.out hG (show w.heap.size ≤ w.heap.size + 1 by omega) #[.int .i64 e.1.1, .slice p1 e.1.2.1.length q1, .int .i64 e.1.2.2.1, .slice p2 e.1.2.2.2.length q2, .int .i64 e.2.1, .int .i64 k3, .slice p3 e.2.2.2.1.length q3, .slice p4 e.2.2.2.2.1.length q4, .slice p5 e.2.2.2.2.2.1.length q5, .slice p6 e.2.2.2.2.2.2.1.length q6, .slice p7 e.2.2.2.2.2.2.2.1.length q7, .slice p8 e.2.2.2.2.2.2.2.2.length q8]
      have hKE := HE.out _ hF.2
      have hrep : Hid (∀ W', (∀ k, B ≤ k → W'.heap[k]? = (V.setRow (w.heap.size + 1) #[.int .i64 e.1.1, .slice p1 e.1.2.1.length q1, .int .i64 e.1.2.2.1, .slice p2 e.1.2.2.2.length q2, .int .i64 e.2.1, .int .i64 k3, .slice p3 e.2.2.2.1.length q3, .slice p4 e.2.2.2.2.1.length q4, .slice p5 e.2.2.2.2.2.1.length q5, .slice p6 e.2.2.2.2.2.2.1.length q6, .slice p7 e.2.2.2.2.2.2.2.1.length q7, .slice p8 e.2.2.2.2.2.2.2.2.length q8]).heap[k]?) → endC.rep W' (e.1, e.2.1, k3, e.2.2.2.1, e.2.2.2.2.1, e.2.2.2.2.2) [.int .i64 e.1.1, .slice p1 e.1.2.1.length q1, .int .i64 e.1.2.2.1, .slice p2 e.1.2.2.2.length q2, .int .i64 e.2.1, .int .i64 k3, .slice p3 e.2.2.2.1.length q3, .slice p4 e.2.2.2.2.1.length q4, .slice p5 e.2.2.2.2.2.1.length q5, .slice p6 e.2.2.2.2.2.2.1.length q6, .slice p7 e.2.2.2.2.2.2.2.1.length q7, .slice p8 e.2.2.2.2.2.2.2.2.length q8]) := fun W' hk => by
        obtain ⟨r1, r2, r3, r4, r5, r6, r7, r8⟩ := end_unmk (endC.toRep (endC.fr hKE (fun k h => hk k (endC.ins hKE k h).1)))
        exact end_mk (a := (e.1, e.2.1, k3, e.2.2.2.1, e.2.2.2.2.1, e.2.2.2.2.2)) r1 r2 r3 r4 r5 r6 r7 r8
      have N := R.row [.int .i64 e.1.1, .slice p1 e.1.2.1.length q1, .int .i64 e.1.2.2.1, .slice p2 e.1.2.2.2.length q2, .int .i64 e.2.1, .int .i64 k3, .slice p3 e.2.2.2.1.length q3, .slice p4 e.2.2.2.2.1.length q4, .slice p5 e.2.2.2.2.2.1.length q5, .slice p6 e.2.2.2.2.2.2.1.length q6, .slice p7 e.2.2.2.2.2.2.2.1.length q7, .slice p8 e.2.2.2.2.2.2.2.2.length q8]
      have d0 := (N.cell 0).trans (show _ = some _ from rfl)
      have d1 := (N.cell 1).trans (show _ = some _ from rfl)
      have d2 := (N.cell 2).trans (show _ = some _ from rfl)
      have d3 := (N.cell 3).trans (show _ = some _ from rfl)
      have d4 := (N.cell 4).trans (show _ = some _ from rfl)
      have d5 := (N.cell 5).trans (show _ = some _ from rfl)
      have d6 := (N.cell 6).trans (show _ = some _ from rfl)
      have d7 := (N.cell 7).trans (show _ = some _ from rfl)
      have d8 := (N.cell 8).trans (show _ = some _ from rfl)
      have d9 := (N.cell 9).trans (show _ = some _ from rfl)
      have d10 := (N.cell 10).trans (show _ = some _ from rfl)
      have d11 := (N.cell 11).trans (show _ = some _ from rfl)
      go_wp2_with (refine wpList_store_row rfl 32 _ _ rfl (w.heap.size + 1) #[.int .i64 e.1.1, .slice p1 e.1.2.1.length q1, .int .i64 e.1.2.2.1, .slice p2 e.1.2.2.2.length q2, .int .i64 e.2.1, .int .i64 k3, .slice p3 e.2.2.2.1.length q3, .slice p4 e.2.2.2.2.1.length q4, .slice p5 e.2.2.2.2.2.1.length q5, .slice p6 e.2.2.2.2.2.2.1.length q6, .slice p7 e.2.2.2.2.2.2.2.1.length q7, .slice p8 e.2.2.2.2.2.2.2.2.length q8] rfl rfl 32 #[.int .i64 0, .slice none 0 0, .int .i64 0, .slice none 0 0, .int .i64 0, .int .i64 0, .slice none 0 0, .slice none 0 0, .slice none 0 0, .slice none 0 0, .slice none 0 0, .slice none 0 0] R hres.out rfl (by simp [Value.oneCell']) ?_)
      exact bodyPost_ret (v := .agg #[.int .i64 e.1.1, .slice p1 e.1.2.1.length q1, .int .i64 e.1.2.2.1, .slice p2 e.1.2.2.2.length q2, .int .i64 e.2.1, .int .i64 k3, .slice p3 e.2.2.2.1.length q3, .slice p4 e.2.2.2.2.1.length q4, .slice p5 e.2.2.2.2.2.1.length q5, .slice p6 e.2.2.2.2.2.2.1.length q6, .slice p7 e.2.2.2.2.2.2.2.1.length q7, .slice p8 e.2.2.2.2.2.2.2.2.length q8]) (by simp [results, Tryz.results49, go_sem, d0, d1, d2, d3, d4, d5, d6, d7, d8, d9, d10, d11]) rfl ⟨(e.1, e.2.1, k3, e.2.2.2.1, e.2.2.2.2.1, e.2.2.2.2.2), [.int .i64 e.1.1, .slice p1 e.1.2.1.length q1, .int .i64 e.1.2.2.1, .slice p2 e.1.2.2.2.length q2, .int .i64 e.2.1, .int .i64 k3, .slice p3 e.2.2.2.1.length q3, .slice p4 e.2.2.2.2.1.length q4, .slice p5 e.2.2.2.2.2.1.length q5, .slice p6 e.2.2.2.2.2.2.1.length q6, .slice p7 e.2.2.2.2.2.2.2.1.length q7, .slice p8 e.2.2.2.2.2.2.2.2.length q8], t + 1 + 1, rfl, hrep.out, by omega, by omega, hF.1, hF.2⟩
    · have e1 : (r == 1) = false := by simp [h1]
      clear h1
      by_cases h2 : r = 2
      · subst h2
        go_wp2_with fail
        refine (l1Pick_c b p q cs (t + 1) w1.heap.size [0, 31, 32] 3 _ (hs.keep (alloc_below _ _)) (by omega) (by omega) rfl (by decide) (by decide) (by have := hs.lt; omega) (new_ints _ _ _ [0, 31, 32] rfl)).mono ?_
        rintro x w3 ⟨k3, hk3, rfl, hs3, hg3⟩
        replace X := (X.stay (alloc_below _ _)).other hg3 (fun e => by have := hb0.out; simp at e; omega)
        replace R := (R.stay (alloc_below _ _)).other hg3 (fun e => by have := hb0.out; simp at e; omega)
        replace hG := grownBy_trans hG (grownBy_trans (World.grownBy_alloc _ _ _) hg3)
        replace hs := hs3
        clear hs3
        clear hg3
        obtain ⟨n, hn, HN⟩ : ∃ n : Nat, k3 = (n : Int) ∧ Hid (n ≤ 32) := by
          simp only [List.mem_cons, List.not_mem_nil, or_false] at hk3
          exact ⟨k3.toNat, by omega, by show _ ≤ _; omega⟩
        subst hn
        clear hk3
        obtain ⟨i0, hi, hz0', hz1, hz2⟩ := info_parts info8
        have hn32 : n ≤ 32 := HN.out
        have hzl : w.heap.size + 1 < w3.heap.size := R.lt
        go_wp2_with (at_make; refine wpList_make_full _ rfl (.tmp 23) (.tmp 23) 22 rfl w3.heap.size 5 i0 (.int .u8 0) 1 Tryz.underlying22 hi hz0' hz1 .i64 .i64 _ _ n rfl rfl rfl rfl (by rw [hz2]; omega) (by unfold maxLen; omega) (Nat.le_refl _) ?_; intro w5 hown hgrow; refine Hid.out ?_)
        unfold Hid
        have K5 := made_zeros hown
        have hb5 : Below w3.heap.size w3 w5 := ⟨hgrow.os, hgrow.tape, hgrow.output, hgrow.size, fun k hk => hgrow.block k hk (fun e => by cases e)⟩
        replace X := X.stay hb5
        replace R := R.stay hb5
        replace hs := hs.keep hb5
        replace hG := grownBy_trans hG (grownBy_low hb5 _)
        clear hown hgrow hb5 hz0' hz1 hz2 hi
        have z7 := (X.cell 7).trans (show _ = some _ from rfl)
        have fx := X.frozen
        replace R := R.setOther (a := ⟨w.heap.size, 7, none⟩) (by show w.heap.size + 1 ≠ w.heap.size; omega) (.slice (some ⟨w3.heap.size, 0, none⟩) n n)
        replace X := X.set 7 (.slice (some ⟨w3.heap.size, 0, none⟩) n n)
        replace hs := hs.other (grownBy_set _ w.heap.size 7 (.slice (some ⟨w3.heap.size, 0, none⟩) n n)) (fun k hk => by have := hb0.out; simp at hk; omega)
        replace hG := grownBy_setNew (o := 7) (u := .slice (some ⟨w3.heap.size, 0, none⟩) n n) hG (Nat.le_refl _)
        simp only [List.set_cons_zero, List.set_cons_succ] at X
        replace K5 := K5.other (grownBy_set _ w.heap.size 7 (.slice (some ⟨w3.heap.size, 0, none⟩) n n)) (fun k hk e => by have h1 := K5.ge k hk; simp at e; omega)
        generalize e6 : (w5.setCell ⟨w.heap.size, 7, none⟩ (.slice (some ⟨w3.heap.size, 0, none⟩) n n)) = V at *
        have c0 := (X.cell 0).trans (show _ = some _ from rfl)
        have c1 := (X.cell 1).trans (show _ = some _ from rfl)
        have c2 := (X.cell 2).trans (show _ = some _ from rfl)
        have c3 := (X.cell 3).trans (show _ = some _ from rfl)
        have c4 := (X.cell 4).trans (show _ = some _ from rfl)
        have c5 := (X.cell 5).trans (show _ = some _ from rfl)
        have c6 := (X.cell 6).trans (show _ = some _ from rfl)
        have c7 := (X.cell 7).trans (show _ = some _ from rfl)
        have c8 := (X.cell 8).trans (show _ = some _ from rfl)
        have c9 := (X.cell 9).trans (show _ = some _ from rfl)
        have c10 := (X.cell 10).trans (show _ = some _ from rfl)
        have c11 := (X.cell 11).trans (show _ = some _ from rfl)
        have hF := turned_fin hs hb0.out hG (show w.heap.size ≤ w.heap.size + 1 by omega) #[.int .i64 e.1.1, .slice p1 e.1.2.1.length q1, .int .i64 e.1.2.2.1, .slice p2 e.1.2.2.2.length q2, .int .i64 e.2.1, .int .i64 e.2.2.1, .slice p3 e.2.2.2.1.length q3, .slice (some ⟨w3.heap.size, 0, none⟩) n n, .slice p5 e.2.2.2.2.2.1.length q5, .slice p6 e.2.2.2.2.2.2.1.length q6, .slice p7 e.2.2.2.2.2.2.2.1.length q7, .slice p8 e.2.2.2.2.2.2.2.2.length q8]
        have hKE := HE.out _ hF.2
        have hrep : Hid (∀ W', (∀ k, B ≤ k → W'.heap[k]? = (V.setRow (w.heap.size + 1) #[.int .i64 e.1.1, .slice p1 e.1.2.1.length q1, .int .i64 e.1.2.2.1, .slice p2 e.1.2.2.2.length q2, .int .i64 e.2.1, .int .i64 e.2.2.1, .slice p3 e.2.2.2.1.length q3, .slice (some ⟨w3.heap.size, 0, none⟩) n n, .slice p5 e.2.2.2.2.2.1.length q5, .slice p6 e.2.2.2.2.2.2.1.length q6, .slice p7 e.2.2.2.2.2.2.2.1.length q7, .slice p8 e.2.2.2.2.2.2.2.2.length q8]).heap[k]?) → endC.rep W' (e.1, e.2.1, e.2.2.1, e.2.2.2.1, zs n, e.2.2.2.2.2) [.int .i64 e.1.1, .slice p1 e.1.2.1.length q1, .int .i64 e.1.2.2.1, .slice p2 e.1.2.2.2.length q2, .int .i64 e.2.1, .int .i64 e.2.2.1, .slice p3 e.2.2.2.1.length q3, .slice (some ⟨w3.heap.size, 0, none⟩) n n, .slice p5 e.2.2.2.2.2.1.length q5, .slice p6 e.2.2.2.2.2.2.1.length q6, .slice p7 e.2.2.2.2.2.2.2.1.length q7, .slice p8 e.2.2.2.2.2.2.2.2.length q8]) := fun W' hk => by
          obtain ⟨r1, r2, r3, r4, r5, r6, r7, r8⟩ := end_unmk (endC.toRep (endC.fr hKE (fun k h => hk k (endC.ins hKE k h).1)))
          have r4' := rd_from (Rd.own K5) (w' := W') (fun y hy => by cases hy; rw [hk _ (by show B ≤ w3.heap.size; have := hB2.out; omega)]; exact setRow_other _ _ _ _ (by show w3.heap.size ≠ w.heap.size + 1; omega))
          have h := end_mk (a := (e.1, e.2.1, e.2.2.1, e.2.2.2.1, zs n, e.2.2.2.2.2)) r1 r2 r3 r4' r5 r6 r7 r8
          simp only [zs_len] at h
          exact h
        have N := R.row [.int .i64 e.1.1, .slice p1 e.1.2.1.length q1, .int .i64 e.1.2.2.1, .slice p2 e.1.2.2.2.length q2, .int .i64 e.2.1, .int .i64 e.2.2.1, .slice p3 e.2.2.2.1.length q3, .slice (some ⟨w3.heap.size, 0, none⟩) n n, .slice p5 e.2.2.2.2.2.1.length q5, .slice p6 e.2.2.2.2.2.2.1.length q6, .slice p7 e.2.2.2.2.2.2.2.1.length q7, .slice p8 e.2.2.2.2.2.2.2.2.length q8]
        have d0 := (N.cell 0).trans (show _ = some _ from rfl)
        have d1 := (N.cell 1).trans (show _ = some _ from rfl)
        have d2 := (N.cell 2).trans (show _ = some _ from rfl)
        have d3 := (N.cell 3).trans (show _ = some _ from rfl)
        have d4 := (N.cell 4).trans (show _ = some _ from rfl)
        have d5 := (N.cell 5).trans (show _ = some _ from rfl)
        have d6 := (N.cell 6).trans (show _ = some _ from rfl)
        have d7 := (N.cell 7).trans (show _ = some _ from rfl)
        have d8 := (N.cell 8).trans (show _ = some _ from rfl)
        have d9 := (N.cell 9).trans (show _ = some _ from rfl)
        have d10 := (N.cell 10).trans (show _ = some _ from rfl)
        have d11 := (N.cell 11).trans (show _ = some _ from rfl)
        go_wp2_with (refine wpList_store_row rfl 32 _ _ rfl (w.heap.size + 1) #[.int .i64 e.1.1, .slice p1 e.1.2.1.length q1, .int .i64 e.1.2.2.1, .slice p2 e.1.2.2.2.length q2, .int .i64 e.2.1, .int .i64 e.2.2.1, .slice p3 e.2.2.2.1.length q3, .slice (some ⟨w3.heap.size, 0, none⟩) n n, .slice p5 e.2.2.2.2.2.1.length q5, .slice p6 e.2.2.2.2.2.2.1.length q6, .slice p7 e.2.2.2.2.2.2.2.1.length q7, .slice p8 e.2.2.2.2.2.2.2.2.length q8] rfl rfl 32 #[.int .i64 0, .slice none 0 0, .int .i64 0, .slice none 0 0, .int .i64 0, .int .i64 0, .slice none 0 0, .slice none 0 0, .slice none 0 0, .slice none 0 0, .slice none 0 0, .slice none 0 0] R hres.out rfl (by simp [Value.oneCell']) ?_)
        exact bodyPost_ret (v := .agg #[.int .i64 e.1.1, .slice p1 e.1.2.1.length q1, .int .i64 e.1.2.2.1, .slice p2 e.1.2.2.2.length q2, .int .i64 e.2.1, .int .i64 e.2.2.1, .slice p3 e.2.2.2.1.length q3, .slice (some ⟨w3.heap.size, 0, none⟩) n n, .slice p5 e.2.2.2.2.2.1.length q5, .slice p6 e.2.2.2.2.2.2.1.length q6, .slice p7 e.2.2.2.2.2.2.2.1.length q7, .slice p8 e.2.2.2.2.2.2.2.2.length q8]) (by simp [results, Tryz.results49, go_sem, d0, d1, d2, d3, d4, d5, d6, d7, d8, d9, d10, d11]) rfl ⟨(e.1, e.2.1, e.2.2.1, e.2.2.2.1, zs n, e.2.2.2.2.2), [.int .i64 e.1.1, .slice p1 e.1.2.1.length q1, .int .i64 e.1.2.2.1, .slice p2 e.1.2.2.2.length q2, .int .i64 e.2.1, .int .i64 e.2.2.1, .slice p3 e.2.2.2.1.length q3, .slice (some ⟨w3.heap.size, 0, none⟩) n n, .slice p5 e.2.2.2.2.2.1.length q5, .slice p6 e.2.2.2.2.2.2.1.length q6, .slice p7 e.2.2.2.2.2.2.2.1.length q7, .slice p8 e.2.2.2.2.2.2.2.2.length q8], t + 1 + 1, rfl, hrep.out, by omega, by omega, hF.1, hF.2⟩
      · have e2 : (r == 2) = false := by simp [h2]
        clear h2
        by_cases h3 : r = 3
        · subst h3
          go_wp2_with fail
          refine (l6Many_c b p q cs (t + 1) w1 hs (by omega) (by omega)).mono ?_
          rintro x w3 ⟨v, l, t3, rfl, -, -, k1, k2, ⟨xs, fp3, K3⟩, hs3, hg3⟩
          have hzl : Hid (w.heap.size + 1 < w1.heap.size) := R.lt
          replace X := X.other hg3 (fun e => by have := hb0.out; simp at e; omega)
          replace R := R.other hg3 (fun e => by have := hb0.out; simp at e; omega)
          replace hG := grownBy_trans hG hg3
          replace hs := hs3
          clear hg3 hs3
          obtain ⟨pm, qm, rfl, -⟩ := K3.rd
          have z6 := (X.cell 6).trans (show _ = some _ from rfl)
          have fx := X.frozen
          replace R := R.setOther (a := ⟨w.heap.size, 6, none⟩) (by show w.heap.size + 1 ≠ w.heap.size; omega) (.slice pm l.length qm)
          replace X := X.set 6 (.slice pm l.length qm)
          replace hs := hs.other (grownBy_set _ w.heap.size 6 (.slice pm l.length qm)) (fun k hk => by have := hb0.out; simp at hk; omega)
          replace hG := grownBy_setNew (o := 6) (u := .slice pm l.length qm) hG (Nat.le_refl _)
          simp only [List.set_cons_zero, List.set_cons_succ] at X
          replace K3 := K3.fr (w' := w3.setCell ⟨w.heap.size, 6, none⟩ (.slice pm l.length qm)) fun k hk => heap_setCell_other _ _ k _ (by have h1 := (K3.ins k hk).1; have h2 := hzl.out; show k ≠ w.heap.size; omega)
          generalize e6 : (w3.setCell ⟨w.heap.size, 6, none⟩ (.slice pm l.length qm)) = V at *
          have c0 := (X.cell 0).trans (show _ = some _ from rfl)
          have c1 := (X.cell 1).trans (show _ = some _ from rfl)
          have c2 := (X.cell 2).trans (show _ = some _ from rfl)
          have c3 := (X.cell 3).trans (show _ = some _ from rfl)
          have c4 := (X.cell 4).trans (show _ = some _ from rfl)
          have c5 := (X.cell 5).trans (show _ = some _ from rfl)
          have c6 := (X.cell 6).trans (show _ = some _ from rfl)
          have c7 := (X.cell 7).trans (show _ = some _ from rfl)
          have c8 := (X.cell 8).trans (show _ = some _ from rfl)
          have c9 := (X.cell 9).trans (show _ = some _ from rfl)
          have c10 := (X.cell 10).trans (show _ = some _ from rfl)
          have c11 := (X.cell 11).trans (show _ = some _ from rfl)
          have hF := turned_fin hs hb0.out hG (show w.heap.size ≤ w.heap.size + 1 by omega) #[.int .i64 e.1.1, .slice p1 e.1.2.1.length q1, .int .i64 e.1.2.2.1, .slice p2 e.1.2.2.2.length q2, .int .i64 e.2.1, .int .i64 e.2.2.1, .slice pm l.length qm, .slice p4 e.2.2.2.2.1.length q4, .slice p5 e.2.2.2.2.2.1.length q5, .slice p6 e.2.2.2.2.2.2.1.length q6, .slice p7 e.2.2.2.2.2.2.2.1.length q7, .slice p8 e.2.2.2.2.2.2.2.2.length q8]
          have hKE := HE.out _ hF.2
          have hrep : Hid (∀ W', (∀ k, B ≤ k → W'.heap[k]? = (V.setRow (w.heap.size + 1) #[.int .i64 e.1.1, .slice p1 e.1.2.1.length q1, .int .i64 e.1.2.2.1, .slice p2 e.1.2.2.2.length q2, .int .i64 e.2.1, .int .i64 e.2.2.1, .slice pm l.length qm, .slice p4 e.2.2.2.2.1.length q4, .slice p5 e.2.2.2.2.2.1.length q5, .slice p6 e.2.2.2.2.2.2.1.length q6, .slice p7 e.2.2.2.2.2.2.2.1.length q7, .slice p8 e.2.2.2.2.2.2.2.2.length q8]).heap[k]?) → endC.rep W' (e.1, e.2.1, e.2.2.1, l, e.2.2.2.2.1, e.2.2.2.2.2) [.int .i64 e.1.1, .slice p1 e.1.2.1.length q1, .int .i64 e.1.2.2.1, .slice p2 e.1.2.2.2.length q2, .int .i64 e.2.1, .int .i64 e.2.2.1, .slice pm l.length qm, .slice p4 e.2.2.2.2.1.length q4, .slice p5 e.2.2.2.2.2.1.length q5, .slice p6 e.2.2.2.2.2.2.1.length q6, .slice p7 e.2.2.2.2.2.2.2.1.length q7, .slice p8 e.2.2.2.2.2.2.2.2.length q8]) := fun W' hk => by
            obtain ⟨r1, r2, r3, r4, r5, r6, r7, r8⟩ := end_unmk (endC.toRep (endC.fr hKE (fun k h => hk k (endC.ins hKE k h).1)))
            have r3' : RdL msgC W' pm qm l := by
              obtain ⟨pz, qz, ez, rz⟩ := OwnL.rd (K3.fr (w' := W') fun k h => (by have h1 := (K3.ins k h).1; have h2 := hzl.out; have h3 := hB2.out; rw [hk k (by omega)]; exact setRow_other _ _ _ _ (by omega)))
              cases ez
              exact rz
            exact end_mk (a := (e.1, e.2.1, e.2.2.1, l, e.2.2.2.2.1, e.2.2.2.2.2)) r1 r2 r3' r4 r5 r6 r7 r8
          have N := R.row [.int .i64 e.1.1, .slice p1 e.1.2.1.length q1, .int .i64 e.1.2.2.1, .slice p2 e.1.2.2.2.length q2, .int .i64 e.2.1, .int .i64 e.2.2.1, .slice pm l.length qm, .slice p4 e.2.2.2.2.1.length q4, .slice p5 e.2.2.2.2.2.1.length q5, .slice p6 e.2.2.2.2.2.2.1.length q6, .slice p7 e.2.2.2.2.2.2.2.1.length q7, .slice p8 e.2.2.2.2.2.2.2.2.length q8]
          have d0 := (N.cell 0).trans (show _ = some _ from rfl)
          have d1 := (N.cell 1).trans (show _ = some _ from rfl)
          have d2 := (N.cell 2).trans (show _ = some _ from rfl)
          have d3 := (N.cell 3).trans (show _ = some _ from rfl)
          have d4 := (N.cell 4).trans (show _ = some _ from rfl)
          have d5 := (N.cell 5).trans (show _ = some _ from rfl)
          have d6 := (N.cell 6).trans (show _ = some _ from rfl)
          have d7 := (N.cell 7).trans (show _ = some _ from rfl)
          have d8 := (N.cell 8).trans (show _ = some _ from rfl)
          have d9 := (N.cell 9).trans (show _ = some _ from rfl)
          have d10 := (N.cell 10).trans (show _ = some _ from rfl)
          have d11 := (N.cell 11).trans (show _ = some _ from rfl)
          go_wp2_with (refine wpList_store_row rfl 32 _ _ rfl (w.heap.size + 1) #[.int .i64 e.1.1, .slice p1 e.1.2.1.length q1, .int .i64 e.1.2.2.1, .slice p2 e.1.2.2.2.length q2, .int .i64 e.2.1, .int .i64 e.2.2.1, .slice pm l.length qm, .slice p4 e.2.2.2.2.1.length q4, .slice p5 e.2.2.2.2.2.1.length q5, .slice p6 e.2.2.2.2.2.2.1.length q6, .slice p7 e.2.2.2.2.2.2.2.1.length q7, .slice p8 e.2.2.2.2.2.2.2.2.length q8] rfl rfl 32 #[.int .i64 0, .slice none 0 0, .int .i64 0, .slice none 0 0, .int .i64 0, .int .i64 0, .slice none 0 0, .slice none 0 0, .slice none 0 0, .slice none 0 0, .slice none 0 0, .slice none 0 0] R hres.out rfl (by simp [Value.oneCell']) ?_)
          exact bodyPost_ret (v := .agg #[.int .i64 e.1.1, .slice p1 e.1.2.1.length q1, .int .i64 e.1.2.2.1, .slice p2 e.1.2.2.2.length q2, .int .i64 e.2.1, .int .i64 e.2.2.1, .slice pm l.length qm, .slice p4 e.2.2.2.2.1.length q4, .slice p5 e.2.2.2.2.2.1.length q5, .slice p6 e.2.2.2.2.2.2.1.length q6, .slice p7 e.2.2.2.2.2.2.2.1.length q7, .slice p8 e.2.2.2.2.2.2.2.2.length q8]) (by simp [results, Tryz.results49, go_sem, d0, d1, d2, d3, d4, d5, d6, d7, d8, d9, d10, d11]) rfl ⟨(e.1, e.2.1, e.2.2.1, l, e.2.2.2.2.1, e.2.2.2.2.2), [.int .i64 e.1.1, .slice p1 e.1.2.1.length q1, .int .i64 e.1.2.2.1, .slice p2 e.1.2.2.2.length q2, .int .i64 e.2.1, .int .i64 e.2.2.1, .slice pm l.length qm, .slice p4 e.2.2.2.2.1.length q4, .slice p5 e.2.2.2.2.2.1.length q5, .slice p6 e.2.2.2.2.2.2.1.length q6, .slice p7 e.2.2.2.2.2.2.2.1.length q7, .slice p8 e.2.2.2.2.2.2.2.2.length q8], t3, rfl, hrep.out, by omega, by omega, hF.1, hF.2⟩
        · have e3 : (r == 3) = false := by simp [h3]
          clear h3
          by_cases h4 : r = 4
          · subst h4
            go_wp2_with fail
            refine (l11Bent_c b p q cs (t + 1) w1 hs (by omega) (by omega)).mono ?_
            rintro x w3 ⟨pu, pv, qu, qv, s, t3, rfl, -, -, ru, rv, lu, lv, k1, k2, hs3, hg3⟩
            have hzl : Hid (w.heap.size + 1 < w1.heap.size) := R.lt
            replace X := X.other hg3 (fun e => by have := hb0.out; simp at e; omega)
            replace R := R.other hg3 (fun e => by have := hb0.out; simp at e; omega)
            replace hG := grownBy_trans hG hg3
            replace hs := hs3
            clear hg3 hs3
            have HLU : Hid (∀ y, pu = some y → y.block ≠ w.heap.size ∧ y.block ≠ w.heap.size + 1 ∧ B ≤ y.block) := fun y hy => by have h1 := lu y hy; have h2 := hzl.out; have h3 := hB2.out; omega
            have HLV : Hid (∀ y, pv = some y → y.block ≠ w.heap.size ∧ y.block ≠ w.heap.size + 1 ∧ B ≤ y.block) := fun y hy => by have h1 := lv y hy; have h2 := hzl.out; have h3 := hB2.out; omega
            clear lu lv
            have z0 := (X.cell 0).trans (show _ = some _ from rfl)
            have z1 := (X.cell 1).trans (show _ = some _ from rfl)
            have z2 := (X.cell 2).trans (show _ = some _ from rfl)
            have z3 := (X.cell 3).trans (show _ = some _ from rfl)
            have fx := X.frozen
            replace R := R.setOther (a := ⟨w.heap.size, 0, none⟩) (by show w.heap.size + 1 ≠ w.heap.size; omega) (.int .i64 s.1)
            replace X := X.set 0 (.int .i64 s.1)
            replace hs := hs.other (grownBy_set _ w.heap.size 0 (.int .i64 s.1)) (fun k hk => by have := hb0.out; simp at hk; omega)
            replace hG := grownBy_setNew (o := 0) (u := .int .i64 s.1) hG (Nat.le_refl _)
            replace R := R.setOther (a := ⟨w.heap.size, 1, none⟩) (by show w.heap.size + 1 ≠ w.heap.size; omega) (.slice pu s.2.1.length qu)
            replace X := X.set 1 (.slice pu s.2.1.length qu)
            replace hs := hs.other (grownBy_set _ w.heap.size 1 (.slice pu s.2.1.length qu)) (fun k hk => by have := hb0.out; simp at hk; omega)
            replace hG := grownBy_setNew (o := 1) (u := .slice pu s.2.1.length qu) hG (Nat.le_refl _)
            replace R := R.setOther (a := ⟨w.heap.size, 2, none⟩) (by show w.heap.size + 1 ≠ w.heap.size; omega) (.int .i64 s.2.2.1)
            replace X := X.set 2 (.int .i64 s.2.2.1)
            replace hs := hs.other (grownBy_set _ w.heap.size 2 (.int .i64 s.2.2.1)) (fun k hk => by have := hb0.out; simp at hk; omega)
            replace hG := grownBy_setNew (o := 2) (u := .int .i64 s.2.2.1) hG (Nat.le_refl _)
            replace R := R.setOther (a := ⟨w.heap.size, 3, none⟩) (by show w.heap.size + 1 ≠ w.heap.size; omega) (.slice pv s.2.2.2.length qv)
            replace X := X.set 3 (.slice pv s.2.2.2.length qv)
            replace hs := hs.other (grownBy_set _ w.heap.size 3 (.slice pv s.2.2.2.length qv)) (fun k hk => by have := hb0.out; simp at hk; omega)
            replace hG := grownBy_setNew (o := 3) (u := .slice pv s.2.2.2.length qv) hG (Nat.le_refl _)
            simp only [List.set_cons_zero, List.set_cons_succ] at X
            replace ru := rd_set ru (d := ⟨w.heap.size, 0, none⟩) (fun y hy => (HLU.out y hy).1) (.int .i64 s.1)
            replace rv := rd_set rv (d := ⟨w.heap.size, 0, none⟩) (fun y hy => (HLV.out y hy).1) (.int .i64 s.1)
            replace ru := rd_set ru (d := ⟨w.heap.size, 1, none⟩) (fun y hy => (HLU.out y hy).1) (.slice pu s.2.1.length qu)
            replace rv := rd_set rv (d := ⟨w.heap.size, 1, none⟩) (fun y hy => (HLV.out y hy).1) (.slice pu s.2.1.length qu)
            replace ru := rd_set ru (d := ⟨w.heap.size, 2, none⟩) (fun y hy => (HLU.out y hy).1) (.int .i64 s.2.2.1)
            replace rv := rd_set rv (d := ⟨w.heap.size, 2, none⟩) (fun y hy => (HLV.out y hy).1) (.int .i64 s.2.2.1)
            replace ru := rd_set ru (d := ⟨w.heap.size, 3, none⟩) (fun y hy => (HLU.out y hy).1) (.slice pv s.2.2.2.length qv)
            replace rv := rd_set rv (d := ⟨w.heap.size, 3, none⟩) (fun y hy => (HLV.out y hy).1) (.slice pv s.2.2.2.length qv)
            generalize e6 : ((((w3.setCell ⟨w.heap.size, 0, none⟩ (.int .i64 s.1)).setCell ⟨w.heap.size, 1, none⟩ (.slice pu s.2.1.length qu)).setCell ⟨w.heap.size, 2, none⟩ (.int .i64 s.2.2.1)).setCell ⟨w.heap.size, 3, none⟩ (.slice pv s.2.2.2.length qv)) = V at *
            have c0 := (X.cell 0).trans (show _ = some _ from rfl)
            have c1 := (X.cell 1).trans (show _ = some _ from rfl)
            have c2 := (X.cell 2).trans (show _ = some _ from rfl)
            have c3 := (X.cell 3).trans (show _ = some _ from rfl)
            have c4 := (X.cell 4).trans (show _ = some _ from rfl)
            have c5 := (X.cell 5).trans (show _ = some _ from rfl)
            have c6 := (X.cell 6).trans (show _ = some _ from rfl)
            have c7 := (X.cell 7).trans (show _ = some _ from rfl)
            have c8 := (X.cell 8).trans (show _ = some _ from rfl)
            have c9 := (X.cell 9).trans (show _ = some _ from rfl)
            have c10 := (X.cell 10).trans (show _ = some _ from rfl)
            have c11 := (X.cell 11).trans (show _ = some _ from rfl)
            have hF := turned_fin hs hb0.out hG (show w.heap.size ≤ w.heap.size + 1 by omega) #[.int .i64 s.1, .slice pu s.2.1.length qu, .int .i64 s.2.2.1, .slice pv s.2.2.2.length qv, .int .i64 e.2.1, .int .i64 e.2.2.1, .slice p3 e.2.2.2.1.length q3, .slice p4 e.2.2.2.2.1.length q4, .slice p5 e.2.2.2.2.2.1.length q5, .slice p6 e.2.2.2.2.2.2.1.length q6, .slice p7 e.2.2.2.2.2.2.2.1.length q7, .slice p8 e.2.2.2.2.2.2.2.2.length q8]
            have hKE := HE.out _ hF.2
            have hrep : Hid (∀ W', (∀ k, B ≤ k → W'.heap[k]? = (V.setRow (w.heap.size + 1) #[.int .i64 s.1, .slice pu s.2.1.length qu, .int .i64 s.2.2.1, .slice pv s.2.2.2.length qv, .int .i64 e.2.1, .int .i64 e.2.2.1, .slice p3 e.2.2.2.1.length q3, .slice p4 e.2.2.2.2.1.length q4, .slice p5 e.2.2.2.2.2.1.length q5, .slice p6 e.2.2.2.2.2.2.1.length q6, .slice p7 e.2.2.2.2.2.2.2.1.length q7, .slice p8 e.2.2.2.2.2.2.2.2.length q8]).heap[k]?) → endC.rep W' (s, e.2.1, e.2.2.1, e.2.2.2.1, e.2.2.2.2.1, e.2.2.2.2.2) [.int .i64 s.1, .slice pu s.2.1.length qu, .int .i64 s.2.2.1, .slice pv s.2.2.2.length qv, .int .i64 e.2.1, .int .i64 e.2.2.1, .slice p3 e.2.2.2.1.length q3, .slice p4 e.2.2.2.2.1.length q4, .slice p5 e.2.2.2.2.2.1.length q5, .slice p6 e.2.2.2.2.2.2.1.length q6, .slice p7 e.2.2.2.2.2.2.2.1.length q7, .slice p8 e.2.2.2.2.2.2.2.2.length q8]) := fun W' hk => by
              obtain ⟨r1, r2, r3, r4, r5, r6, r7, r8⟩ := end_unmk (endC.toRep (endC.fr hKE (fun k h => hk k (endC.ins hKE k h).1)))
              have ru' := rd_from ru (w' := W') (fun y hy => by rw [hk _ (HLU.out y hy).2.2]; exact setRow_other _ _ _ _ (HLU.out y hy).2.1)
              have rv' := rd_from rv (w' := W') (fun y hy => by rw [hk _ (HLV.out y hy).2.2]; exact setRow_other _ _ _ _ (HLV.out y hy).2.1)
              exact end_mk (a := (s, e.2.1, e.2.2.1, e.2.2.2.1, e.2.2.2.2.1, e.2.2.2.2.2)) ru' rv' r3 r4 r5 r6 r7 r8
            have N := R.row [.int .i64 s.1, .slice pu s.2.1.length qu, .int .i64 s.2.2.1, .slice pv s.2.2.2.length qv, .int .i64 e.2.1, .int .i64 e.2.2.1, .slice p3 e.2.2.2.1.length q3, .slice p4 e.2.2.2.2.1.length q4, .slice p5 e.2.2.2.2.2.1.length q5, .slice p6 e.2.2.2.2.2.2.1.length q6, .slice p7 e.2.2.2.2.2.2.2.1.length q7, .slice p8 e.2.2.2.2.2.2.2.2.length q8]
            have d0 := (N.cell 0).trans (show _ = some _ from rfl)
            have d1 := (N.cell 1).trans (show _ = some _ from rfl)
            have d2 := (N.cell 2).trans (show _ = some _ from rfl)
            have d3 := (N.cell 3).trans (show _ = some _ from rfl)
            have d4 := (N.cell 4).trans (show _ = some _ from rfl)
            have d5 := (N.cell 5).trans (show _ = some _ from rfl)
            have d6 := (N.cell 6).trans (show _ = some _ from rfl)
            have d7 := (N.cell 7).trans (show _ = some _ from rfl)
            have d8 := (N.cell 8).trans (show _ = some _ from rfl)
            have d9 := (N.cell 9).trans (show _ = some _ from rfl)
            have d10 := (N.cell 10).trans (show _ = some _ from rfl)
            have d11 := (N.cell 11).trans (show _ = some _ from rfl)
            go_wp2_with (refine wpList_store_row rfl 32 _ _ rfl (w.heap.size + 1) #[.int .i64 s.1, .slice pu s.2.1.length qu, .int .i64 s.2.2.1, .slice pv s.2.2.2.length qv, .int .i64 e.2.1, .int .i64 e.2.2.1, .slice p3 e.2.2.2.1.length q3, .slice p4 e.2.2.2.2.1.length q4, .slice p5 e.2.2.2.2.2.1.length q5, .slice p6 e.2.2.2.2.2.2.1.length q6, .slice p7 e.2.2.2.2.2.2.2.1.length q7, .slice p8 e.2.2.2.2.2.2.2.2.length q8] rfl rfl 32 #[.int .i64 0, .slice none 0 0, .int .i64 0, .slice none 0 0, .int .i64 0, .int .i64 0, .slice none 0 0, .slice none 0 0, .slice none 0 0, .slice none 0 0, .slice none 0 0, .slice none 0 0] R hres.out rfl (by simp [Value.oneCell']) ?_)
            exact bodyPost_ret (v := .agg #[.int .i64 s.1, .slice pu s.2.1.length qu, .int .i64 s.2.2.1, .slice pv s.2.2.2.length qv, .int .i64 e.2.1, .int .i64 e.2.2.1, .slice p3 e.2.2.2.1.length q3, .slice p4 e.2.2.2.2.1.length q4, .slice p5 e.2.2.2.2.2.1.length q5, .slice p6 e.2.2.2.2.2.2.1.length q6, .slice p7 e.2.2.2.2.2.2.2.1.length q7, .slice p8 e.2.2.2.2.2.2.2.2.length q8]) (by simp [results, Tryz.results49, go_sem, d0, d1, d2, d3, d4, d5, d6, d7, d8, d9, d10, d11]) rfl ⟨(s, e.2.1, e.2.2.1, e.2.2.2.1, e.2.2.2.2.1, e.2.2.2.2.2), [.int .i64 s.1, .slice pu s.2.1.length qu, .int .i64 s.2.2.1, .slice pv s.2.2.2.length qv, .int .i64 e.2.1, .int .i64 e.2.2.1, .slice p3 e.2.2.2.1.length q3, .slice p4 e.2.2.2.2.1.length q4, .slice p5 e.2.2.2.2.2.1.length q5, .slice p6 e.2.2.2.2.2.2.1.length q6, .slice p7 e.2.2.2.2.2.2.2.1.length q7, .slice p8 e.2.2.2.2.2.2.2.2.length q8], t3, rfl, hrep.out, by omega, by omega, hF.1, hF.2⟩
          · have e4 : (r == 4) = false := by simp [h4]
            clear h4
            have c0 := (X.cell 0).trans (show _ = some _ from rfl)
            have c1 := (X.cell 1).trans (show _ = some _ from rfl)
            have c2 := (X.cell 2).trans (show _ = some _ from rfl)
            have c3 := (X.cell 3).trans (show _ = some _ from rfl)
            have c4 := (X.cell 4).trans (show _ = some _ from rfl)
            have c5 := (X.cell 5).trans (show _ = some _ from rfl)
            have c6 := (X.cell 6).trans (show _ = some _ from rfl)
            have c7 := (X.cell 7).trans (show _ = some _ from rfl)
            have c8 := (X.cell 8).trans (show _ = some _ from rfl)
            have c9 := (X.cell 9).trans (show _ = some _ from rfl)
            have c10 := (X.cell 10).trans (show _ = some _ from rfl)
            have c11 := (X.cell 11).trans (show _ = some _ from rfl)
            have hF := turned_fin hs hb0.out hG (show w.heap.size ≤ w.heap.size + 1 by omega) #[.int .i64 e.1.1, .slice p1 e.1.2.1.length q1, .int .i64 e.1.2.2.1, .slice p2 e.1.2.2.2.length q2, .int .i64 e.2.1, .int .i64 e.2.2.1, .slice p3 e.2.2.2.1.length q3, .slice p4 e.2.2.2.2.1.length q4, .slice p5 e.2.2.2.2.2.1.length q5, .slice p6 e.2.2.2.2.2.2.1.length q6, .slice p7 e.2.2.2.2.2.2.2.1.length q7, .slice p8 e.2.2.2.2.2.2.2.2.length q8]
            have hKE := HE.out _ hF.2
            have hrep : Hid (∀ W', (∀ k, B ≤ k → W'.heap[k]? = (w1.setRow (w.heap.size + 1) #[.int .i64 e.1.1, .slice p1 e.1.2.1.length q1, .int .i64 e.1.2.2.1, .slice p2 e.1.2.2.2.length q2, .int .i64 e.2.1, .int .i64 e.2.2.1, .slice p3 e.2.2.2.1.length q3, .slice p4 e.2.2.2.2.1.length q4, .slice p5 e.2.2.2.2.2.1.length q5, .slice p6 e.2.2.2.2.2.2.1.length q6, .slice p7 e.2.2.2.2.2.2.2.1.length q7, .slice p8 e.2.2.2.2.2.2.2.2.length q8]).heap[k]?) → endC.rep W' (e.1, e.2.1, e.2.2.1, e.2.2.2.1, e.2.2.2.2.1, e.2.2.2.2.2) [.int .i64 e.1.1, .slice p1 e.1.2.1.length q1, .int .i64 e.1.2.2.1, .slice p2 e.1.2.2.2.length q2, .int .i64 e.2.1, .int .i64 e.2.2.1, .slice p3 e.2.2.2.1.length q3, .slice p4 e.2.2.2.2.1.length q4, .slice p5 e.2.2.2.2.2.1.length q5, .slice p6 e.2.2.2.2.2.2.1.length q6, .slice p7 e.2.2.2.2.2.2.2.1.length q7, .slice p8 e.2.2.2.2.2.2.2.2.length q8]) := fun W' hk => by
              obtain ⟨r1, r2, r3, r4, r5, r6, r7, r8⟩ := end_unmk (endC.toRep (endC.fr hKE (fun k h => hk k (endC.ins hKE k h).1)))
              exact end_mk (a := (e.1, e.2.1, e.2.2.1, e.2.2.2.1, e.2.2.2.2.1, e.2.2.2.2.2)) r1 r2 r3 r4 r5 r6 r7 r8
            have N := R.row [.int .i64 e.1.1, .slice p1 e.1.2.1.length q1, .int .i64 e.1.2.2.1, .slice p2 e.1.2.2.2.length q2, .int .i64 e.2.1, .int .i64 e.2.2.1, .slice p3 e.2.2.2.1.length q3, .slice p4 e.2.2.2.2.1.length q4, .slice p5 e.2.2.2.2.2.1.length q5, .slice p6 e.2.2.2.2.2.2.1.length q6, .slice p7 e.2.2.2.2.2.2.2.1.length q7, .slice p8 e.2.2.2.2.2.2.2.2.length q8]
            have d0 := (N.cell 0).trans (show _ = some _ from rfl)
            have d1 := (N.cell 1).trans (show _ = some _ from rfl)
            have d2 := (N.cell 2).trans (show _ = some _ from rfl)
            have d3 := (N.cell 3).trans (show _ = some _ from rfl)
            have d4 := (N.cell 4).trans (show _ = some _ from rfl)
            have d5 := (N.cell 5).trans (show _ = some _ from rfl)
            have d6 := (N.cell 6).trans (show _ = some _ from rfl)
            have d7 := (N.cell 7).trans (show _ = some _ from rfl)
            have d8 := (N.cell 8).trans (show _ = some _ from rfl)
            have d9 := (N.cell 9).trans (show _ = some _ from rfl)
            have d10 := (N.cell 10).trans (show _ = some _ from rfl)
            have d11 := (N.cell 11).trans (show _ = some _ from rfl)
            go_wp2_with (refine wpList_store_row rfl 32 _ _ rfl (w.heap.size + 1) #[.int .i64 e.1.1, .slice p1 e.1.2.1.length q1, .int .i64 e.1.2.2.1, .slice p2 e.1.2.2.2.length q2, .int .i64 e.2.1, .int .i64 e.2.2.1, .slice p3 e.2.2.2.1.length q3, .slice p4 e.2.2.2.2.1.length q4, .slice p5 e.2.2.2.2.2.1.length q5, .slice p6 e.2.2.2.2.2.2.1.length q6, .slice p7 e.2.2.2.2.2.2.2.1.length q7, .slice p8 e.2.2.2.2.2.2.2.2.length q8] rfl rfl 32 #[.int .i64 0, .slice none 0 0, .int .i64 0, .slice none 0 0, .int .i64 0, .int .i64 0, .slice none 0 0, .slice none 0 0, .slice none 0 0, .slice none 0 0, .slice none 0 0, .slice none 0 0] R hres.out rfl (by simp [Value.oneCell']) ?_)
            exact bodyPost_ret (v := .agg #[.int .i64 e.1.1, .slice p1 e.1.2.1.length q1, .int .i64 e.1.2.2.1, .slice p2 e.1.2.2.2.length q2, .int .i64 e.2.1, .int .i64 e.2.2.1, .slice p3 e.2.2.2.1.length q3, .slice p4 e.2.2.2.2.1.length q4, .slice p5 e.2.2.2.2.2.1.length q5, .slice p6 e.2.2.2.2.2.2.1.length q6, .slice p7 e.2.2.2.2.2.2.2.1.length q7, .slice p8 e.2.2.2.2.2.2.2.2.length q8]) (by simp [results, Tryz.results49, go_sem, d0, d1, d2, d3, d4, d5, d6, d7, d8, d9, d10, d11]) rfl ⟨(e.1, e.2.1, e.2.2.1, e.2.2.2.1, e.2.2.2.2.1, e.2.2.2.2.2), [.int .i64 e.1.1, .slice p1 e.1.2.1.length q1, .int .i64 e.1.2.2.1, .slice p2 e.1.2.2.2.length q2, .int .i64 e.2.1, .int .i64 e.2.2.1, .slice p3 e.2.2.2.1.length q3, .slice p4 e.2.2.2.2.1.length q4, .slice p5 e.2.2.2.2.2.1.length q5, .slice p6 e.2.2.2.2.2.2.1.length q6, .slice p7 e.2.2.2.2.2.2.2.1.length q7, .slice p8 e.2.2.2.2.2.2.2.2.length q8], t + 1, rfl, hrep.out, by omega, by omega, hF.1, hF.2⟩
end Go.Proofs.YtiabacnmmojfjaaGreatDoor

