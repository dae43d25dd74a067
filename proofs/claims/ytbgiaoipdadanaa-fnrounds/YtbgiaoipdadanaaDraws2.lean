/- The contracts of the draws of bytes and of texts: some bytes, at most so many; some text. -/
import Derived.Test.YtbgiaoipdadanaaDraws
import Derived.Test.YtbgiaoipdadanaaHexSpec
import Derived.Test.YtbgiaoipdadanaaCopy
import Derived.Deep.AppendLies
namespace Go.Proofs.Ytbgiaoipdadanaa
open Go.ChangeShapes Go.WideShapes Go.ChangeAt Go.RowKit

/-- Behind a call that writes, of what lay there, block b alone: a step that writes new blocks alone. -/
theorem grownBy_step {w x y : World} {b : Nat} {row : Option Nat} (h : w.grownBy x (some b)) (k : x.grownBy y row) (hr : ∀ j, row = some j → w.heap.size ≤ j ∨ j = b) : w.grownBy y (some b) :=
  ⟨k.os.trans h.os, k.tape.trans h.tape, k.output.trans h.output, Nat.le_trans h.size k.size, fun i hi hne =>
    (k.block i (Nat.lt_of_lt_of_le hi h.size) (fun e => by
      rcases hr i e.symm with h1 | h1
      · omega
      · exact hne (by rw [h1]))).trans (h.block i hi hne)⟩

set_option maxHeartbeats 1000000 in
theorem l1Chance_c (b : Nat) (p : Option Addr) (q : Nat) (cs : List UInt8) (t n : Int) (w : World) (hs : Src w b p q cs t) (ht : 0 ≤ t) (ht2 : t ≤ 1000000000) (hn : 1 ≤ n) (hn2 : n ≤ 1000000) :
    Calls Try.prog 39 #[.pointer (some ⟨b, 0, none⟩), .int .i64 n] w fun e w' => ∃ r : Bool, e = .returned (.bool r) ∧ Src w' b p q cs (t + 1) ∧ w.grownBy w' (some b) := by
  go_enter Try.func39, Try.ntmps39
  go_wp2_with fail
  refine (l1Next_c b p q cs t n w hs ht ht2 hn (by omega)).mono ?_
  rintro e w1 ⟨r, rfl, hr0, hr1, hs1, hg1⟩
  go_wp2
  go_ret
  exact ⟨_, rfl, hs1, hg1⟩

set_option maxHeartbeats 2000000 in
theorem l1Some_c (b : Nat) (p : Option Addr) (q : Nat) (cs : List UInt8) (t n : Int) (w : World) (hs : Src w b p q cs t) (ht : 0 ≤ t) (ht2 : t ≤ 900000000) (hn : 0 ≤ n) (hn2 : n ≤ 1000000) :
    Calls Try.prog 36 #[.pointer (some ⟨b, 0, none⟩), .int .i64 n] w fun e w' => ∃ (u : Value) (bs : List UInt8), e = .returned u ∧ bs.length = n.toNat ∧ Own w' w.heap.size u bs ∧ Src w' b p q cs (t + n) ∧ w.grownBy w' (some b) := by
  obtain ⟨i0, hi, hz0, hz1, hz2⟩ := info_parts info8
  have hbw := hs.lt
  go_enter Try.func36, Try.ntmps36
  go_wp2
  go_loopw [1, 5] (fun m v wr => ∃ (k : Nat) (bs : List UInt8), (k : Int) ≤ n ∧ m = .int .i64 (n - k) ∧ bs.length = k ∧ Own wr w.heap.size v bs ∧ Src wr b p q cs (t + k) ∧ w.grownBy wr (some b))
    (fun m _ _ => (intOf m).toNat)
  case atStart => exact ⟨0, [], by omega, by simp, rfl, ⟨by simp, .inr ⟨w.heap.size, 0, #[], rfl, Nat.le_refl _, heap_alloc_new w _, Nat.le_refl _, by simp [maxLen], by simp, by simp⟩⟩, by simpa using hs.keep (alloc_below _ _), World.grownBy_alloc _ _ _⟩
  case round =>
    obtain ⟨k, bs, hk, rfl, hbs, ho, hs1, hg⟩ := hrel
    obtain ⟨pv, cv, rfl, -⟩ := ho.rd
    by_cases hend : (k : Int) = n
    · have hge : n - (k : Int) ≤ 0 := by omega
      have HE : Hid ((k : Int) = n) := hend
      clear hend
      go_wp2
      go_ret
      exact ⟨_, bs, rfl, by have := HE.out; omega, ho, by have := HE.out; rw [← this]; exact hs1, hg⟩
    · have hpos : 0 < n - (k : Int) := by omega
      go_wp2_with fail
      refine (l1Next_c b p q cs (t + k) 256 wr hs1 (by omega) (by omega) (by omega) (by omega)).mono ?_
      rintro e w1 ⟨r, rfl, hr0, hr1, hs2, hg2⟩
      have ho1 := ho.other hg2 (fun j hj e => by have := ho.ge j hj; simp at e; omega)
      have ho2 : w1.ownsRow w.heap.size 5 1 (.slice pv k cv) k (bs.map u8v) := by have h := ho1; unfold Own at h; rw [hbs] at h; exact h
      have hge : Hid (∀ j, (Value.slice pv k cv).ownBlock = some j → w.heap.size ≤ j) := fun j hj => (World.ownsRow.lt ho2 j hj).1
      have hsz : w.heap.size ≤ w1.heap.size := Nat.le_trans hg.size hg2.size
      have hkk : k ≤ 1000000 := by omega
      rw [hbs]
      go_wp2_with (first
        | (at_builtin; refine wpList_append_lies _ rfl (.tmp 11) (.tmp 15) 22 rfl w.heap.size 5 i0 (.int .u8 0) 1 1 Try.underlying22 hi hz0 hz1 hz2 rfl (by decide) (.slice pv k cv) k (bs.map u8v) rfl (World.ownsRow.alloc ho2 _) ⟨w1.heap.size, 0, none⟩ 1 1 [.int .u8 r] rfl rfl (cell_one_new w1 _ _) (by intro u hu; simp at hu; subst hu; rfl) (by decide) (by unfold maxLen; omega) (by omega) (by simp; omega) (w1.heap.size + 1) (by simp) ?_; intro g cap2 w3 hown3 hgrow3 hat3 hlt3)
        | go_in)
      have er : r = ((UInt8.ofNat r.toNat).toNat : Int) := by rw [UInt8.toNat_ofNat']; omega
      have R : Own w3 w.heap.size (.slice (some ⟨g, 0, none⟩) (k + 1) cap2) (bs ++ [UInt8.ofNat r.toNat]) := by
        refine own_one ?_
        rw [← er, hbs]
        exact hown3
      have RS : Src w3 b p q cs (t + k + 1) := (hs2.keep (alloc_below _ _)).other hgrow3 (fun j hj => by have := hge.out j hj; omega)
      have RG : w.grownBy w3 (some b) := grownBy_step (grownBy_step (grownBy_step hg hg2 (fun j hj => .inr (by simpa using hj.symm))) (World.grownBy_alloc _ _ none) (fun j hj => by simp at hj)) hgrow3 (fun j hj => .inl (hge.out j hj))
      go_roundw
      case rel => exact ⟨k + 1, bs ++ [UInt8.ofNat r.toNat], by omega, by go_num, by simp [hbs], R, by rw [show t + ((k + 1 : Nat) : Int) = t + k + 1 by omega]; exact RS, RG⟩
      case measure => simp [intOf]; omega

set_option maxHeartbeats 1000000 in
theorem drawHex_c (p : Option Addr) (q : Nat) (cs : List UInt8) (w : World) (hr : Rd w p q cs) :
    Calls Try.prog 19 #[.slice p cs.length q] w fun e w' => ∃ (u : Value) (bs : List UInt8), e = .returned u ∧ bs.length ≤ 601 ∧ Own w' w.heap.size u bs ∧ Below w.heap.size w w' := by
  obtain ⟨i0, hi, hz0, hz1, hz2⟩ := info_parts info8
  go_enter Try.func19, Try.ntmps19
  go_wp2_with fail
  refine (l1Source_c p q cs w hr).mono ?_
  rintro e w1 ⟨rfl, hs1, hb1, hz1'⟩
  go_wp2_with fail
  refine (l1Chance_c _ p q cs 0 20 w1 hs1 (by omega) (by omega) (by omega) (by omega)).mono ?_
  rintro e w2 ⟨r, rfl, hs2, hg2⟩
  have hb2 := below_of_grown hb1 hg2
  cases r
  · go_wp2_with fail
    refine (l1Next_c _ p q cs (0 + 1) 12 w2 hs2 (by omega) (by omega) (by omega) (by omega)).mono ?_
    rintro e w3 ⟨n, rfl, a0, a1, hs3, hg3⟩
    have hb3 := below_of_grown hb2 hg3
    go_wp2_with fail
    refine (l1Some_c _ p q cs (0 + 1 + 1) n w3 hs3 (by omega) (by omega) a0 (by omega)).mono ?_
    rintro e w4 ⟨u, bs, rfl, hl, ho, hs4, hg4⟩
    go_wp2
    go_ret
    exact ⟨u, bs, rfl, by omega, ho.lower hb3.size, below_of_grown hb3 hg4⟩
  · have hsz := hb2.size
    go_wp2_with (first
      | (at_make; refine wpList_make_full _ rfl (.const (.int .i64 601)) (.const (.int .i64 601)) 22 rfl w.heap.size 5 i0 (.int .u8 0) 1 Try.underlying22 hi hz0 hz1 .i64 .i64 _ _ 601 rfl rfl rfl rfl (by rw [hz2]; decide) (by unfold maxLen; decide) hsz ?_; intro w3 hown hgrow)
      | go_in)
    go_ret
    exact ⟨_, zs 601, rfl, Nat.le_of_eq (zs_len 601), made_zeros hown, hb2.grown hgrow hsz (fun k hk => by simp at hk)⟩

set_option maxHeartbeats 2000000 in
theorem drawBoh_c (p : Option Addr) (q : Nat) (cs : List UInt8) (w : World) (hr : Rd w p q cs) :
    Calls Try.prog 15 #[.slice p cs.length q] w fun e w' => ∃ l : List UInt8, e = .returned (.string (strB l)) ∧ l.length ≤ 1202 ∧ Below w.heap.size w w' := by
  obtain ⟨i0, hi, hz0, hz1, hz2⟩ := info_parts info8
  go_enter Try.func15, Try.ntmps15
  go_wp2_with fail
  refine (l1Source_c p q cs w hr).mono ?_
  rintro e w1 ⟨rfl, hs1, hb1, hz1'⟩
  go_wp2_with fail
  refine (l1Next_c _ p q cs 0 9 w1 hs1 (by omega) (by omega) (by omega) (by omega)).mono ?_
  rintro e w2 ⟨n, rfl, a0, a1, hs2, hg2⟩
  have hb2 := below_of_grown hb1 hg2
  go_wp2_with fail
  refine (l1Some_c _ p q cs (0 + 1) n w2 hs2 (by omega) (by omega) a0 (by omega)).mono ?_
  rintro e w3 ⟨u, bs, rfl, hl, ho, hs3, hg3⟩
  have hb3 := below_of_grown hb2 hg3
  obtain ⟨pb, cb, rfl, -⟩ := ho.rd
  have hll : bs.length ≤ 8 := by omega
  clear hl
  go_wp2_with fail
  refine (l1Hex_c pb cb bs w3 (Rd.own ho) (by omega)).mono ?_
  rintro e w4 ⟨rfl, hb4⟩
  have hs4 := hs3.keep hb4
  replace hb4 := Below.step hb3 hb4
  replace hll : (hexL bs).length ≤ 16 := by rw [hexL_len]; omega
  generalize hexL bs = l at *
  clear ho hb1 hb2 hb3 hs1 hs2 hs3 hg2 hg3
  go_wp2_with fail
  refine (l1Next_c _ p q cs (0 + 1 + n) 6 w4 hs4 (by omega) (by omega) (by omega) (by omega)).mono ?_
  rintro e w5 ⟨r, rfl, b0, b1, hs5, hg5⟩
  have hb5 := below_of_grown hb4 hg5
  clear hs4 hg5 hb4
  by_cases h0 : r = 0
  · subst h0
    have hlt := hs5.lt
    have hne : Hid ((some w.heap.size : Option Nat) ≠ some w5.heap.size) := fun e => by simp at e; omega
    go_wp2_with fail
    refine (l1Next_c _ p q cs (0 + 1 + n + 1) 4 _ (hs5.keep (alloc_below _ _)) (by omega) (by omega) (by omega) (by omega)).mono ?_
    rintro e w6 ⟨i, rfl, c0, c1, hs6, hg6⟩
    have hb6 := below_of_grown (Below.mk hb5 _) hg6
    replace hne := hne.out
    rcases (show i = 0 ∨ i = 1 ∨ i = 2 ∨ i = 3 by omega) with rfl | rfl | rfl | rfl
    · have hc : w6.cell? ⟨w5.heap.size, 0, none⟩ = some (.string { data := #[97] }) := cell_other (World.cell?_alloc_new _ _ _ _) hg6 hne
      have ha : ∀ w, (Op.stringOp .add (strB l) { data := #[97] }).run Try.prog w = .ok (.string (strB (l ++ [97]))) w := run_add l [97] (by simp; omega)
      go_wp2
      go_ret
      exact ⟨l ++ [97], rfl, by simp; omega, hb6⟩
    · have hc : w6.cell? ⟨w5.heap.size, 1, none⟩ = some (.string { data := #[71, 48] }) := cell_other (World.cell?_alloc_new _ _ _ _) hg6 hne
      have ha : ∀ w, (Op.stringOp .add (strB l) { data := #[71, 48] }).run Try.prog w = .ok (.string (strB (l ++ [71, 48]))) w := run_add l [71, 48] (by simp; omega)
      go_wp2
      go_ret
      exact ⟨l ++ [71, 48], rfl, by simp; omega, hb6⟩
    · have hc : w6.cell? ⟨w5.heap.size, 2, none⟩ = some (.string { data := #[65, 66] }) := cell_other (World.cell?_alloc_new _ _ _ _) hg6 hne
      have ha : ∀ w, (Op.stringOp .add (strB l) { data := #[65, 66] }).run Try.prog w = .ok (.string (strB (l ++ [65, 66]))) w := run_add l [65, 66] (by simp; omega)
      go_wp2
      go_ret
      exact ⟨l ++ [65, 66], rfl, by simp; omega, hb6⟩
    · have hc : w6.cell? ⟨w5.heap.size, 3, none⟩ = some (.string { data := #[32, 32] }) := cell_other (World.cell?_alloc_new _ _ _ _) hg6 hne
      have ha : ∀ w, (Op.stringOp .add (strB l) { data := #[32, 32] }).run Try.prog w = .ok (.string (strB (l ++ [32, 32]))) w := run_add l [32, 32] (by simp; omega)
      go_wp2
      go_ret
      exact ⟨l ++ [32, 32], rfl, by simp; omega, hb6⟩
  · have q0 : (r == 0) = false := by rw [beq_eq_false_iff_ne]; exact h0
    by_cases h1 : r = 1
    · subst h1
      have hsz := hb5.size
      go_wp2_with (first
        | (at_make; refine wpList_make_full _ rfl (.const (.int .i64 1202)) (.const (.int .i64 1202)) 22 rfl w.heap.size 5 i0 (.int .u8 0) 1 Try.underlying22 hi hz0 hz1 .i64 .i64 _ _ 1202 rfl rfl rfl rfl (by rw [hz2]; decide) (by unfold maxLen; decide) hsz ?_; intro w6 hown hgrow; have ho6 := made_zeros hown; clear hown; have es := run_str (P := Try.prog) (Rd.own ho6) (src := 22) (dst := 9) (e := 5) Try.underlying22 Try.underlying5 Try.underlying9; rw [zs_len] at es; clear ho6)
        | go_in)
      go_ret
      exact ⟨zs 1202, rfl, Nat.le_of_eq (zs_len 1202), hb5.grown hgrow hsz (fun k hk => by simp at hk)⟩
    · have q1 : (r == 1) = false := by rw [beq_eq_false_iff_ne]; exact h1
      go_wp2
      go_ret
      exact ⟨l, rfl, by omega, hb5⟩
end Go.Proofs.Ytbgiaoipdadanaa
