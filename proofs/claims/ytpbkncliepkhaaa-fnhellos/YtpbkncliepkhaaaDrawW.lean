/- The draws of chapter 6: l6Draw, l6Bent, l6Many, l6Lists, DrawPackMsgs, DrawUnpackMsgs, DrawPackBlocks, DrawUnpackBlocks: what comes out owns its memory; its bounds, no more. -/
import Derived.Test.YtpbkncliepkhaaaJoint14
import Derived.Test.YtpbkncliepkhaaaJoint13
import Derived.Test.YtpbkncliepkhaaaWireB
import Derived.Test.YtpbkncliepkhaaaGen
namespace Go.Proofs.Ytpbkncliepkhaaa
open Go.ChangeShapes Go.WideShapes Go.ChangeAt Go.RowKit

/-- A store into a block that is new. -/
theorem grownBy_setNew {w v : World} {row : Option Nat} {blk o : Nat} {u : Value} (hg : w.grownBy v row) (h : w.heap.size ≤ blk) : w.grownBy (v.setCell ⟨blk, o, none⟩ u) row :=
  have hs := grownBy_set v blk o u
  ⟨hs.os.trans hg.os, hs.tape.trans hg.tape, hs.output.trans hg.output, Nat.le_trans hg.size hs.size, fun k hk hne => (hs.block k (Nat.lt_of_lt_of_le hk hg.size) (fun e => by simp at e; omega)).trans (hg.block k hk hne)⟩

theorem grownBy_none {w v : World} (h : w.grownBy v none) (row : Option Nat) : w.grownBy v row := ⟨h.os, h.tape, h.output, h.size, fun k hk _ => h.block k hk (fun e => by cases e)⟩
theorem grownBy_new {w v v' : World} {r row : Option Nat} (h : w.grownBy v r) (k : v.grownBy v' row) (hr : ∀ j, row = some j → w.heap.size ≤ j) : w.grownBy v' r :=
  ⟨k.os.trans h.os, k.tape.trans h.tape, k.output.trans h.output, Nat.le_trans h.size k.size, fun i hi hn => (k.block i (Nat.lt_of_lt_of_le hi h.size) (fun e => by have := hr i e.symm; omega)).trans (h.block i hi hn)⟩
theorem grown_below {w v : World} (h : w.grownBy v none) : Below w.heap.size w v := ⟨h.os, h.tape, h.output, h.size, fun k hk => h.block k hk (fun e => by cases e)⟩
theorem OwnL.draw {α : Type} {e : TypeId} {c : Cod α} {w w' : World} {B b : Nat} {v : Value} {l : List α} {xs : List Value} {fp : List Nat} (h : OwnL e c w B v l xs fp) (hg : w.grownBy w' (some b)) (hb : b < B) : OwnL e c w' B v l xs fp :=
  h.other (Only.grown hg) (fun k hk e => by have := (h.ins k hk).1; simp at e; omega)
/-- The answer's cells are written last. -/
theorem bent_end {w v : World} {b : Nat} {p : Option Addr} {q : Nat} {cs : List UInt8} {t : Int} {u : Value} {bs : List UInt8} (ho : Own v (w.heap.size + 1) u bs) (hs : Src v b p q cs t) (hb : b < w.heap.size) (hg : w.grownBy v (some b)) (x y : Value) :
    Own ((v.setCell ⟨w.heap.size, 0, none⟩ x).setCell ⟨w.heap.size, 1, none⟩ y) w.heap.size u bs ∧ Src ((v.setCell ⟨w.heap.size, 0, none⟩ x).setCell ⟨w.heap.size, 1, none⟩ y) b p q cs t ∧ w.grownBy ((v.setCell ⟨w.heap.size, 0, none⟩ x).setCell ⟨w.heap.size, 1, none⟩ y) (some b) :=
  ⟨((ho.set (a := ⟨w.heap.size, 0, none⟩) (Nat.lt_succ_self _) _).set (a := ⟨w.heap.size, 1, none⟩) (Nat.lt_succ_self _) _).lower (B' := w.heap.size) (Nat.le_succ _),
   (hs.other (grownBy_set _ _ _ _) (fun k hk => by simp at hk; omega)).other (grownBy_set _ _ _ _) (fun k hk => by simp at hk; omega),
   grownBy_setNew (grownBy_setNew hg (Nat.le_refl _)) (Nat.le_refl _)⟩

set_option maxRecDepth 4000 in
set_option maxHeartbeats 1000000 in
theorem l6Draw_c (b : Nat) (p : Option Addr) (q : Nat) (cs : List UInt8) (t : Int) (w : World) (hs : Src w b p q cs t) (ht : 0 ≤ t) (ht2 : t ≤ 800000000) :
    Calls Try.prog 61 #[.pointer (some ⟨b, 0, none⟩)] w fun e w' => ∃ (k : Int) (u : Value) (bs : List UInt8) (t' : Int), e = .returned (.agg #[.int .i64 k, u]) ∧ 0 ≤ k ∧ k ≤ 255 ∧ bs.length ≤ 8 ∧ t ≤ t' ∧ t' ≤ t + 20 ∧ Own w' w.heap.size u bs ∧ Src w' b p q cs t' ∧ w.grownBy w' (some b) := by
  have A0 := Arr.new w [.int .i64 0, .slice none 0 0] 25
  have hb0 : Hid (b < w.heap.size) := hs.lt
  go_enter Try.func61, Try.ntmps61
  go_wp2_with fail
  refine (l1Next_c b p q cs t 256 _ (hs.keep (alloc_below _ _)) (by omega) (by omega) (by omega) (by omega)).mono ?_
  rintro e v0 ⟨k, rfl, x0, y0, hs0, hg0⟩
  have A1 := A0.other hg0 (fun e => by have := hb0.out; simp at e; omega)
  have hg : w.grownBy v0 (some b) := grownBy_trans (World.grownBy_alloc _ _ _) hg0
  clear hg0 A0 hs
  go_wp2_with fail
  refine (l1Next_c b p q cs (t + 1) 9 v0 hs0 (by omega) (by omega) (by omega) (by omega)).mono ?_
  rintro e v1 ⟨n, rfl, x1, y1, hs1, hg1⟩
  replace A1 := A1.other hg1 (fun e => by have := hb0.out; simp at e; omega)
  replace hg := grownBy_trans hg hg1
  clear hg1 hs0
  go_wp2_with fail
  refine (l1Some_c b p q cs (t + 1 + 1) n v1 hs1 (by omega) (by omega) x1 (by omega)).mono ?_
  rintro e v2 ⟨u, bs, rfl, hl, ho, hs2, hg2⟩
  have hlt : Hid (w.heap.size < v1.heap.size) := A1.lt
  replace A1 := A1.other hg2 (fun e => by have := hb0.out; simp at e; omega)
  replace hg := grownBy_trans hg hg2
  have HL : Hid (bs.length = n.toNat) := hl
  have c0 := A1.cell 0
  have c1 := A1.cell 1
  have fz := A1.frozen
  simp at c0 c1
  obtain ⟨pu, qu, rfl, -⟩ := ho.rd
  clear hg2 hs1 hl
  go_wp2_with fail
  have S1 : Src ((v2.setCell ⟨w.heap.size, 0, none⟩ (.int .i64 k)).setCell ⟨w.heap.size, 1, none⟩ (.slice pu bs.length qu)) b p q cs (t + 1 + 1 + n) := (hs2.other (grownBy_set _ _ _ _) (fun k hk => by simp at hk; have := hb0.out; omega)).other (grownBy_set _ _ _ _) (fun k hk => by simp at hk; have := hb0.out; omega)
  exact bodyPost_ret (v := .agg #[.int .i64 k, .slice pu bs.length qu]) (by simp [results, Try.results61, go_sem, c0, c1]) rfl ⟨k, _, bs, t + 1 + 1 + n, rfl, x0, by omega, by have := HL.out; omega, by omega, by omega, ((ho.set (a := ⟨w.heap.size, 0, none⟩) hlt.out _).set (a := ⟨w.heap.size, 1, none⟩) hlt.out _).lower (B' := w.heap.size) (Nat.le_of_lt hlt.out), S1, grownBy_setNew (grownBy_setNew hg (Nat.le_refl _)) (Nat.le_refl _)⟩

set_option maxRecDepth 4000 in
set_option maxHeartbeats 1000000 in
theorem l6Bent_c (b : Nat) (p : Option Addr) (q : Nat) (cs : List UInt8) (t : Int) (w : World) (hs : Src w b p q cs t) (ht : 0 ≤ t) (ht2 : t ≤ 800000000) :
    Calls Try.prog 38 #[.pointer (some ⟨b, 0, none⟩)] w fun e w' => ∃ (k : Int) (u : Value) (bs : List UInt8) (t' : Int), e = .returned (.agg #[.int .i64 k, u]) ∧ -1 ≤ k ∧ k ≤ 256 ∧ bs.length ≤ 161 ∧ t ≤ t' ∧ t' ≤ t + 40 ∧ Own w' w.heap.size u bs ∧ Src w' b p q cs t' ∧ w.grownBy w' (some b) := by
  have hb0 : Hid (b < w.heap.size) := hs.lt
  have A0 := Arr.new w [.int .i64 0, .slice none 0 0] 25
  go_enter Try.func38, Try.ntmps38
  go_wp2_with fail
  refine (l6Draw_c b p q cs t _ (hs.keep (alloc_below _ _)) (by omega) (by omega)).mono ?_
  rintro e w1 ⟨k, u, bs, t1, rfl, hk0, hk1, hbl, ht3, ht4, ho, hs1, hg1⟩
  rw [size_alloc] at ho
  replace A0 := A0.other hg1 (fun e => by have := hb0.out; simp at e; omega)
  replace hg1 := grownBy_trans (World.grownBy_alloc w _ _) hg1
  obtain ⟨pu, qu, rfl, -⟩ := ho.rd
  have hlo : Hid (∀ k, (Value.slice pu bs.length qu).ownBlock = some k → k < w1.heap.size) := fun k hk => ho.lt k hk
  have A1 := Arr.new w1 [.int .i64 k, .slice pu bs.length qu] 25
  have hb1 : Hid (b < w1.heap.size) := hs1.lt
  have hw1 : Hid (w.heap.size < w1.heap.size) := A0.lt
  go_wp2_with fail
  refine (l1Next_c b p q cs t1 8 _ (hs1.keep (alloc_below _ _)) (by omega) (by omega) (by omega) (by omega)).mono ?_
  rintro e w2 ⟨r, rfl, x0, y0, hs2, hg2⟩
  replace A1 := A1.other hg2 (fun e => by have := hb1.out; simp at e; omega)
  replace A0 := (A0.stay (alloc_below _ _)).other hg2 (fun e => by have := hb0.out; simp at e; omega)
  replace ho := (ho.stay (alloc_below _ _)).other hg2 (fun k hk e => by have := ho.ge k hk; have := hb0.out; simp at e; omega)
  have hg : w.grownBy w2 (some b) := grownBy_trans hg1 (grownBy_trans (World.grownBy_alloc _ _ _) hg2)
  have c0 := A1.cell 0
  have c1 := A1.cell 1
  have d0 := A0.cell 0
  have d1 := A0.cell 1
  have fz := A1.frozen
  have fy := A0.frozen
  have hlt := A1.lt
  simp at c0 c1 d0 d1
  clear hg1 hg2 hs hs1
  by_cases h0 : r = 0
  · subst h0
    go_wp2_with fail
    refine (l1Pick_c b p q cs (t1 + 1) w2.heap.size [-1, 256] 2 _ (hs2.keep (alloc_below _ _)) (by omega) (by omega) rfl (by decide) (by decide) (by have := hs2.lt; omega) (new_ints _ _ _ [-1, 256] rfl)).mono ?_
    rintro e w3 ⟨k3, hk3, rfl, hs3, hg3⟩
    have hR : Hid (-1 ≤ k3 ∧ k3 ≤ 256) := by
      show _ ∧ _
      simp only [List.mem_cons, List.not_mem_nil, or_false] at hk3
      omega
    clear hk3
    replace A1 := (A1.stay (alloc_below _ _)).other hg3 (fun e => by have := hb1.out; simp at e; omega)
    replace A0 := (A0.stay (alloc_below _ _)).other hg3 (fun e => by have := hb0.out; simp at e; omega)
    replace ho := (ho.stay (alloc_below _ _)).other hg3 (fun k hk e => by have := ho.ge k hk; have := hb0.out; simp at e; omega)
    replace hg := grownBy_trans hg (grownBy_trans (World.grownBy_alloc _ _ _) hg3)
    have hgs := grownBy_set w3 w1.heap.size 0 (.int .i64 k3)
    have hE := bent_end (ho.other hgs (fun k hk e => by have := hlo.out k hk; simp at e; omega)) (hs3.other hgs (fun k hk => by simp at hk; have := hb1.out; omega)) hb0.out (grownBy_setNew hg (Nat.le_of_lt hw1.out)) (.int .i64 k3) (.slice pu bs.length qu)
    have c0 := A1.cell 0
    have c1 := A1.cell 1
    have d0 := A0.cell 0
    have d1 := A0.cell 1
    have fz := A1.frozen
    have fy := A0.frozen
    simp at c0 c1 d0 d1
    have hnw : w.heap.size ≠ w1.heap.size := by have := hw1.out; omega
    clear hgs hg hs3 ho hg3 hs2
    go_wp2_with fail
    exact bodyPost_ret (v := .agg #[.int .i64 k3, .slice pu bs.length qu]) (by simp [results, Try.results38, go_sem, d0, d1]) rfl ⟨k3, _, bs, t1 + 1 + 1, rfl, hR.out.1, hR.out.2, by omega, by omega, by omega, hE⟩
  · by_cases h1 : r = 1
    · subst h1
      obtain ⟨i0, hi, hz0, hz1, hz2⟩ := info_parts info8
      go_wp2_with fail
      refine (l1Pick_c b p q cs (t1 + 1) w2.heap.size [160, 161] 2 _ (hs2.keep (alloc_below _ _)) (by omega) (by omega) rfl (by decide) (by decide) (by have := hs2.lt; omega) (new_ints _ _ _ [160, 161] rfl)).mono ?_
      rintro e w3 ⟨k3, hk3, rfl, hs3, hg3⟩
      obtain ⟨n, rfl, hn⟩ : ∃ n : Nat, k3 = n ∧ n ≤ 161 := by
        simp only [List.mem_cons, List.not_mem_nil, or_false] at hk3
        exact ⟨k3.toNat, by omega, by omega⟩
      clear hk3
      replace A1 := (A1.stay (alloc_below _ _)).other hg3 (fun e => by have := hb1.out; simp at e; omega)
      replace A0 := (A0.stay (alloc_below _ _)).other hg3 (fun e => by have := hb0.out; simp at e; omega)
      replace hg := grownBy_trans hg (grownBy_trans (World.grownBy_alloc _ _ _) hg3)
      have hsz : w1.heap.size + 1 ≤ w3.heap.size := A1.lt
      clear ho
      go_wp2_with (at_make; go_loud (refine wpList_make_full _ rfl (.tmp 18) (.tmp 18) 22 rfl (w1.heap.size + 1) 5 i0 (.int .u8 0) 1 Try.underlying22 hi hz0 hz1 .i64 .i64 _ _ n rfl rfl rfl rfl (by rw [hz2]; omega) (by unfold maxLen; omega) hsz ?_); intro w4 hown hgrow; have ho4 := made_zeros hown; clear hown; replace A1 := A1.other hgrow (fun e => by simp at e); replace A0 := A0.other hgrow (fun e => by simp at e); replace hs3 := hs3.other hgrow (fun k hk => by simp at hk); have hlo4 : Hid (∀ k, (Value.slice (some ⟨w3.heap.size, 0, none⟩) n n).ownBlock = some k → w1.heap.size + 1 ≤ k) := (fun k hk => ho4.ge k hk); have c0 := A1.cell 0; have c1 := A1.cell 1; have d0 := A0.cell 0; have d1 := A0.cell 1; have fz := A1.frozen; have fy := A0.frozen; simp at c0 c1 d0 d1; have hnw : w.heap.size ≠ w1.heap.size := (by have := hw1.out; omega))
      have hgs := grownBy_set w4 w1.heap.size 1 (.slice (some ⟨w3.heap.size, 0, none⟩) n n)
      have hE := bent_end ((ho4.lower (B' := w.heap.size + 1) (by have := hw1.out; omega)).other hgs (fun k hk e => by have := hlo4.out k hk; simp at e; omega)) (hs3.other hgs (fun k hk => by simp at hk; have := hb1.out; omega)) hb0.out (grownBy_setNew (grownBy_trans hg (grownBy_none hgrow _)) (Nat.le_of_lt hw1.out)) (.int .i64 k) (.slice (some ⟨w3.heap.size, 0, none⟩) n n)
      exact bodyPost_ret (v := .agg #[.int .i64 k, .slice (some ⟨w3.heap.size, 0, none⟩) n n]) (by simp [results, Try.results38, go_sem, d0, d1]) rfl ⟨k, _, zs n, t1 + 1 + 1, rfl, by omega, by omega, by rw [zs_len]; omega, by omega, by omega, hE⟩
    · have e0 : (r == 0) = false := by simp [h0]
      have e1 : (r == 1) = false := by simp [h1]
      have hE := bent_end ho hs2 hb0.out hg (.int .i64 k) (.slice pu bs.length qu)
      go_wp2_with fail
      exact bodyPost_ret (v := .agg #[.int .i64 k, .slice pu bs.length qu]) (by simp [results, Try.results38, go_sem, d0, d1]) rfl ⟨k, _, bs, t1 + 1, rfl, by omega, by omega, by omega, by omega, by omega, hE⟩





theorem blksN_bound2 {l : List BlkD} (hl : l.length ≤ 9) (ha : ∀ a ∈ l, a.length ≤ 121) : (blksN l).length ≤ 2000 := by
  have h : ∀ m : List BlkD, (∀ a ∈ m, a.length ≤ 121) → (blksN m).length ≤ 122 * m.length := fun m => by
    induction m with
    | nil => intro _; simp [blksN]
    | cons a m ih =>
      intro h
      rw [blksN_cons, List.length_append, blkW_len, List.length_cons]
      have h2 := h a List.mem_cons_self
      have h3 := ih fun b hb => h b (List.mem_cons_of_mem _ hb)
      omega
  have := h l ha
  omega

theorem packAll_bound2 {l : List MsgD} (hl : l.length ≤ 13) (ha : ∀ a ∈ l, a.2.length ≤ 161) : (packAll l).length ≤ 3000 := by
  have h : ∀ m : List MsgD, (∀ a ∈ m, a.2.length ≤ 161) → (packAll m).length ≤ 165 * m.length := fun m => by
    induction m with
    | nil => intro _; simp [packAll]
    | cons a m ih =>
      intro h
      rw [packAll_cons, List.length_append, packW_len, List.length_cons]
      have h2 := h a List.mem_cons_self
      have h3 := ih fun b hb => h b (List.mem_cons_of_mem _ hb)
      omega
  have := h l ha
  omega
theorem w6_xor8 (a b : UInt8) : bits .xor .u8 (a.toNat : Int) (b.toNat : Int) = ((a ^^^ b).toNat : Int) := by
  rw [u8_xor_nat _ _ a.toNat_lt b.toNat_lt, UInt8.toNat_xor]
end Go.Proofs.Ytpbkncliepkhaaa

