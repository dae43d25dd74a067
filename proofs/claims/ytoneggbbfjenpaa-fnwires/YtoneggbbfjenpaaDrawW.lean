/- The draws of chapter 6: l6Draw, l6Bent, l6Many, l6Lists, DrawPackMsgs, DrawUnpackMsgs, DrawPackBlocks, DrawUnpackBlocks: what comes out owns its memory; its bounds, no more. -/
import Derived.Test.YtoneggbbfjenpaaDraws2
import Derived.Test.YtoneggbbfjenpaaWireU
import Derived.Test.YtoneggbbfjenpaaWireB
import Derived.Test.YtoneggbbfjenpaaGen
namespace Go.Proofs.Ytoneggbbfjenpaa
open Go.ChangeShapes Go.WideShapes Go.ChangeAt Go.RowKit

/-- A store into a block that is new. -/
theorem grownBy_setNew {w v : World} {row : Option Nat} {blk o : Nat} {u : Value} (hg : w.grownBy v row) (h : w.heap.size ≤ blk) : w.grownBy (v.setCell ⟨blk, o, none⟩ u) row :=
  have hs := grownBy_set v blk o u
  ⟨hs.os.trans hg.os, hs.tape.trans hg.tape, hs.output.trans hg.output, Nat.le_trans hg.size hs.size, fun k hk hne => (hs.block k (Nat.lt_of_lt_of_le hk hg.size) (fun e => by simp at e; omega)).trans (hg.block k hk hne)⟩

theorem grownBy_none {w v : World} (h : w.grownBy v none) (row : Option Nat) : w.grownBy v row := ⟨h.os, h.tape, h.output, h.size, fun k hk _ => h.block k hk (fun e => by cases e)⟩
theorem grownBy_new {w v v' : World} {r row : Option Nat} (h : w.grownBy v r) (k : v.grownBy v' row) (hr : ∀ j, row = some j → w.heap.size ≤ j) : w.grownBy v' r :=
  ⟨k.os.trans h.os, k.tape.trans h.tape, k.output.trans h.output, Nat.le_trans h.size k.size, fun i hi hn => (k.block i (Nat.lt_of_lt_of_le hi h.size) (fun e => by have := hr i e.symm; omega)).trans (h.block i hi hn)⟩
theorem grown_below {w v : World} (h : w.grownBy v none) : Below w.heap.size w v := ⟨h.os, h.tape, h.output, h.size, fun k hk => h.block k hk (fun e => by cases e)⟩
theorem OwnL.draw {α : Type} {e : TypeId} {c : Cod α} {w w' : World} {B b : Nat} {v : Value} {l : List α} {xs : List Value} {fp : List Nat} (h : OwnL e c w B v l xs fp) (hg : w.grownBy w' (some b)) (hb : b < B) : OwnL e c w' B v l xs fp :=
  h.other (Only.grown hg) (fun k hk e => by have := (h.ins k hk).1; simp at e; omega)
/-- The answer's cells are written last. -/
theorem bent_end {w v : World} {b : Nat} {p : Option Addr} {q : Nat} {cs : List UInt8} {t : Int} {u : Value} {bs : List UInt8} (ho : Own v (w.heap.size + 1) u bs) (hs : Src v b p q cs t) (hb : b < w.heap.size) (hg : w.grownBy v (some b)) (x y : Value) :
    Own ((v.setCell ⟨w.heap.size, 0, none⟩ x).setCell ⟨w.heap.size, 1, none⟩ y) w.heap.size u bs ∧ Src ((v.setCell ⟨w.heap.size, 0, none⟩ x).setCell ⟨w.heap.size, 1, none⟩ y) b p q cs t ∧ w.grownBy ((v.setCell ⟨w.heap.size, 0, none⟩ x).setCell ⟨w.heap.size, 1, none⟩ y) (some b) :=
  ⟨((ho.set (a := ⟨w.heap.size, 0, none⟩) (Nat.lt_succ_self _) _).set (a := ⟨w.heap.size, 1, none⟩) (Nat.lt_succ_self _) _).lower (B' := w.heap.size) (Nat.le_succ _),
   (hs.other (grownBy_set _ _ _ _) (fun k hk => by simp at hk; omega)).other (grownBy_set _ _ _ _) (fun k hk => by simp at hk; omega),
   grownBy_setNew (grownBy_setNew hg (Nat.le_refl _)) (Nat.le_refl _)⟩

set_option maxRecDepth 4000 in
set_option maxHeartbeats 1000000 in
theorem l6Draw_c (b : Nat) (p : Option Addr) (q : Nat) (cs : List UInt8) (t : Int) (w : World) (hs : Src w b p q cs t) (ht : 0 ≤ t) (ht2 : t ≤ 800000000) :
    Calls Try.prog 64 #[.pointer (some ⟨b, 0, none⟩)] w fun e w' => ∃ (k : Int) (u : Value) (bs : List UInt8) (t' : Int), e = .returned (.agg #[.int .i64 k, u]) ∧ 0 ≤ k ∧ k ≤ 255 ∧ bs.length ≤ 8 ∧ t ≤ t' ∧ t' ≤ t + 20 ∧ Own w' w.heap.size u bs ∧ Src w' b p q cs t' ∧ w.grownBy w' (some b) := by
  have A0 := Arr.new w [.int .i64 0, .slice none 0 0] 36
  have hb0 : Hid (b < w.heap.size) := hs.lt
  go_enter Try.func64, Try.ntmps64
  go_wp2_with fail
  refine (l1Next_c b p q cs t 256 _ (hs.keep (alloc_below _ _)) (by omega) (by omega) (by omega) (by omega)).mono ?_
  rintro e v0 ⟨k, rfl, x0, y0, hs0, hg0⟩
  have A1 := A0.other hg0 (fun e => by have := hb0.out; simp at e; omega)
  have hg : w.grownBy v0 (some b) := grownBy_trans (World.grownBy_alloc _ _ _) hg0
  clear hg0 A0 hs
  go_wp2_with fail
  refine (l1Next_c b p q cs (t + 1) 9 v0 hs0 (by omega) (by omega) (by omega) (by omega)).mono ?_
  rintro e v1 ⟨n, rfl, x1, y1, hs1, hg1⟩
  replace A1 := A1.other hg1 (fun e => by have := hb0.out; simp at e; omega)
  replace hg := grownBy_trans hg hg1
  clear hg1 hs0
  go_wp2_with fail
  refine (l1Some_c b p q cs (t + 1 + 1) n v1 hs1 (by omega) (by omega) x1 (by omega)).mono ?_
  rintro e v2 ⟨u, bs, rfl, hl, ho, hs2, hg2⟩
  have hlt : Hid (w.heap.size < v1.heap.size) := A1.lt
  replace A1 := A1.other hg2 (fun e => by have := hb0.out; simp at e; omega)
  replace hg := grownBy_trans hg hg2
  have HL : Hid (bs.length = n.toNat) := hl
  have c0 := A1.cell 0
  have c1 := A1.cell 1
  have fz := A1.frozen
  simp at c0 c1
  obtain ⟨pu, qu, rfl, -⟩ := ho.rd
  clear hg2 hs1 hl
  go_wp2_with fail
  have S1 : Src ((v2.setCell ⟨w.heap.size, 0, none⟩ (.int .i64 k)).setCell ⟨w.heap.size, 1, none⟩ (.slice pu bs.length qu)) b p q cs (t + 1 + 1 + n) := (hs2.other (grownBy_set _ _ _ _) (fun k hk => by simp at hk; have := hb0.out; omega)).other (grownBy_set _ _ _ _) (fun k hk => by simp at hk; have := hb0.out; omega)
  exact bodyPost_ret (v := .agg #[.int .i64 k, .slice pu bs.length qu]) (by simp [results, Try.results64, go_sem, c0, c1]) rfl ⟨k, _, bs, t + 1 + 1 + n, rfl, x0, by omega, by have := HL.out; omega, by omega, by omega, ((ho.set (a := ⟨w.heap.size, 0, none⟩) hlt.out _).set (a := ⟨w.heap.size, 1, none⟩) hlt.out _).lower (B' := w.heap.size) (Nat.le_of_lt hlt.out), S1, grownBy_setNew (grownBy_setNew hg (Nat.le_refl _)) (Nat.le_refl _)⟩

set_option maxRecDepth 4000 in
set_option maxHeartbeats 1000000 in
theorem l6Bent_c (b : Nat) (p : Option Addr) (q : Nat) (cs : List UInt8) (t : Int) (w : World) (hs : Src w b p q cs t) (ht : 0 ≤ t) (ht2 : t ≤ 800000000) :
    Calls Try.prog 65 #[.pointer (some ⟨b, 0, none⟩)] w fun e w' => ∃ (k : Int) (u : Value) (bs : List UInt8) (t' : Int), e = .returned (.agg #[.int .i64 k, u]) ∧ -1 ≤ k ∧ k ≤ 256 ∧ bs.length ≤ 161 ∧ t ≤ t' ∧ t' ≤ t + 40 ∧ Own w' w.heap.size u bs ∧ Src w' b p q cs t' ∧ w.grownBy w' (some b) := by
  have hb0 : Hid (b < w.heap.size) := hs.lt
  have A0 := Arr.new w [.int .i64 0, .slice none 0 0] 36
  go_enter Try.func65, Try.ntmps65
  go_wp2_with fail
  refine (l6Draw_c b p q cs t _ (hs.keep (alloc_below _ _)) (by omega) (by omega)).mono ?_
  rintro e w1 ⟨k, u, bs, t1, rfl, hk0, hk1, hbl, ht3, ht4, ho, hs1, hg1⟩
  rw [size_alloc] at ho
  replace A0 := A0.other hg1 (fun e => by have := hb0.out; simp at e; omega)
  replace hg1 := grownBy_trans (World.grownBy_alloc w _ _) hg1
  obtain ⟨pu, qu, rfl, -⟩ := ho.rd
  have hlo : Hid (∀ k, (Value.slice pu bs.length qu).ownBlock = some k → k < w1.heap.size) := fun k hk => ho.lt k hk
  have A1 := Arr.new w1 [.int .i64 k, .slice pu bs.length qu] 36
  have hb1 : Hid (b < w1.heap.size) := hs1.lt
  have hw1 : Hid (w.heap.size < w1.heap.size) := A0.lt
  go_wp2_with fail
  refine (l1Next_c b p q cs t1 8 _ (hs1.keep (alloc_below _ _)) (by omega) (by omega) (by omega) (by omega)).mono ?_
  rintro e w2 ⟨r, rfl, x0, y0, hs2, hg2⟩
  replace A1 := A1.other hg2 (fun e => by have := hb1.out; simp at e; omega)
  replace A0 := (A0.stay (alloc_below _ _)).other hg2 (fun e => by have := hb0.out; simp at e; omega)
  replace ho := (ho.stay (alloc_below _ _)).other hg2 (fun k hk e => by have := ho.ge k hk; have := hb0.out; simp at e; omega)
  have hg : w.grownBy w2 (some b) := grownBy_trans hg1 (grownBy_trans (World.grownBy_alloc _ _ _) hg2)
  have c0 := A1.cell 0
  have c1 := A1.cell 1
  have d0 := A0.cell 0
  have d1 := A0.cell 1
  have fz := A1.frozen
  have fy := A0.frozen
  have hlt := A1.lt
  simp at c0 c1 d0 d1
  clear hg1 hg2 hs hs1
  by_cases h0 : r = 0
  · subst h0
    go_wp2_with fail
    refine (l1Pick_c b p q cs (t1 + 1) w2.heap.size [-1, 256] 2 _ (hs2.keep (alloc_below _ _)) (by omega) (by omega) rfl (by decide) (by decide) (by have := hs2.lt; omega) (new_ints _ _ _ [-1, 256] rfl)).mono ?_
    rintro e w3 ⟨k3, hk3, rfl, hs3, hg3⟩
    have hR : Hid (-1 ≤ k3 ∧ k3 ≤ 256) := by
      show _ ∧ _
      simp only [List.mem_cons, List.not_mem_nil, or_false] at hk3
      omega
    clear hk3
    replace A1 := (A1.stay (alloc_below _ _)).other hg3 (fun e => by have := hb1.out; simp at e; omega)
    replace A0 := (A0.stay (alloc_below _ _)).other hg3 (fun e => by have := hb0.out; simp at e; omega)
    replace ho := (ho.stay (alloc_below _ _)).other hg3 (fun k hk e => by have := ho.ge k hk; have := hb0.out; simp at e; omega)
    replace hg := grownBy_trans hg (grownBy_trans (World.grownBy_alloc _ _ _) hg3)
    have hgs := grownBy_set w3 w1.heap.size 0 (.int .i64 k3)
    have hE := bent_end (ho.other hgs (fun k hk e => by have := hlo.out k hk; simp at e; omega)) (hs3.other hgs (fun k hk => by simp at hk; have := hb1.out; omega)) hb0.out (grownBy_setNew hg (Nat.le_of_lt hw1.out)) (.int .i64 k3) (.slice pu bs.length qu)
    have c0 := A1.cell 0
    have c1 := A1.cell 1
    have d0 := A0.cell 0
    have d1 := A0.cell 1
    have fz := A1.frozen
    have fy := A0.frozen
    simp at c0 c1 d0 d1
    have hnw : w.heap.size ≠ w1.heap.size := by have := hw1.out; omega
    clear hgs hg hs3 ho hg3 hs2
    go_wp2_with fail
    exact bodyPost_ret (v := .agg #[.int .i64 k3, .slice pu bs.length qu]) (by simp [results, Try.results65, go_sem, d0, d1]) rfl ⟨k3, _, bs, t1 + 1 + 1, rfl, hR.out.1, hR.out.2, by omega, by omega, by omega, hE⟩
  · by_cases h1 : r = 1
    · subst h1
      obtain ⟨i0, hi, hz0, hz1, hz2⟩ := info_parts info8
      go_wp2_with fail
      refine (l1Pick_c b p q cs (t1 + 1) w2.heap.size [160, 161] 2 _ (hs2.keep (alloc_below _ _)) (by omega) (by omega) rfl (by decide) (by decide) (by have := hs2.lt; omega) (new_ints _ _ _ [160, 161] rfl)).mono ?_
      rintro e w3 ⟨k3, hk3, rfl, hs3, hg3⟩
      obtain ⟨n, rfl, hn⟩ : ∃ n : Nat, k3 = n ∧ n ≤ 161 := by
        simp only [List.mem_cons, List.not_mem_nil, or_false] at hk3
        exact ⟨k3.toNat, by omega, by omega⟩
      clear hk3
      replace A1 := (A1.stay (alloc_below _ _)).other hg3 (fun e => by have := hb1.out; simp at e; omega)
      replace A0 := (A0.stay (alloc_below _ _)).other hg3 (fun e => by have := hb0.out; simp at e; omega)
      replace hg := grownBy_trans hg (grownBy_trans (World.grownBy_alloc _ _ _) hg3)
      have hsz : w1.heap.size + 1 ≤ w3.heap.size := A1.lt
      clear ho
      go_wp2_with (at_make; go_loud (refine wpList_make_full _ rfl (.tmp 18) (.tmp 18) 22 rfl (w1.heap.size + 1) 5 i0 (.int .u8 0) 1 Try.underlying22 hi hz0 hz1 .i64 .i64 _ _ n rfl rfl rfl rfl (by rw [hz2]; omega) (by unfold maxLen; omega) hsz ?_); intro w4 hown hgrow; have ho4 := made_zeros hown; clear hown; replace A1 := A1.other hgrow (fun e => by simp at e); replace A0 := A0.other hgrow (fun e => by simp at e); replace hs3 := hs3.other hgrow (fun k hk => by simp at hk); have hlo4 : Hid (∀ k, (Value.slice (some ⟨w3.heap.size, 0, none⟩) n n).ownBlock = some k → w1.heap.size + 1 ≤ k) := (fun k hk => ho4.ge k hk); have c0 := A1.cell 0; have c1 := A1.cell 1; have d0 := A0.cell 0; have d1 := A0.cell 1; have fz := A1.frozen; have fy := A0.frozen; simp at c0 c1 d0 d1; have hnw : w.heap.size ≠ w1.heap.size := (by have := hw1.out; omega))
      have hgs := grownBy_set w4 w1.heap.size 1 (.slice (some ⟨w3.heap.size, 0, none⟩) n n)
      have hE := bent_end ((ho4.lower (B' := w.heap.size + 1) (by have := hw1.out; omega)).other hgs (fun k hk e => by have := hlo4.out k hk; simp at e; omega)) (hs3.other hgs (fun k hk => by simp at hk; have := hb1.out; omega)) hb0.out (grownBy_setNew (grownBy_trans hg (grownBy_none hgrow _)) (Nat.le_of_lt hw1.out)) (.int .i64 k) (.slice (some ⟨w3.heap.size, 0, none⟩) n n)
      exact bodyPost_ret (v := .agg #[.int .i64 k, .slice (some ⟨w3.heap.size, 0, none⟩) n n]) (by simp [results, Try.results65, go_sem, d0, d1]) rfl ⟨k, _, zs n, t1 + 1 + 1, rfl, by omega, by omega, by rw [zs_len]; omega, by omega, by omega, hE⟩
    · have e0 : (r == 0) = false := by simp [h0]
      have e1 : (r == 1) = false := by simp [h1]
      have hE := bent_end ho hs2 hb0.out hg (.int .i64 k) (.slice pu bs.length qu)
      go_wp2_with fail
      exact bodyPost_ret (v := .agg #[.int .i64 k, .slice pu bs.length qu]) (by simp [results, Try.results65, go_sem, d0, d1]) rfl ⟨k, _, bs, t1 + 1, rfl, by omega, by omega, by omega, by omega, by omega, hE⟩

/-- Nils. -/
theorem nils_all (w : World) (B : Nat) : ∀ n, OwnAll bytC w B (List.replicate n []) (List.replicate n (.slice none 0 0)) []
  | 0 => ⟨rfl, rfl⟩
  | n + 1 => ⟨[.slice none 0 0], List.replicate n (.slice none 0 0), [], [], rfl, rfl, ⟨_, rfl, Own_nil _ _, rfl⟩, nils_all w B n⟩
set_option maxRecDepth 4000 in
set_option maxHeartbeats 1000000 in
theorem l6Lists_c (b : Nat) (p : Option Addr) (q : Nat) (cs : List UInt8) (t : Int) (w : World) (hs : Src w b p q cs t) (ht : 0 ≤ t) (ht2 : t ≤ 800000000) :
    Calls Try.prog 56 #[.pointer (some ⟨b, 0, none⟩)] w fun e w' => ∃ (v : Value) (l : List BlkD) (t' : Int), e = .returned v ∧ l.length ≤ 9 ∧ (∀ a ∈ l, a.length ≤ 121) ∧ t ≤ t' ∧ t' ≤ t + 100 ∧ (∃ xs fp, OwnL 22 bytC w' w.heap.size v l xs fp) ∧ Src w' b p q cs t' ∧ w.grownBy w' (some b) := by
  have hb0 : Hid (b < w.heap.size) := hs.lt
  have O1 := none_ownB w w.heap.size (Nat.le_refl _)
  go_enter Try.func56, Try.ntmps56
  go_wp2_with fail
  refine (l1Next_c b p q cs t 5 _ (hs.keep (alloc_below _ _)) (by omega) (by omega) (by omega) (by omega)).mono ?_
  rintro e w1 ⟨r, rfl, x0, y0, hs1, hg1⟩
  replace O1 := O1.draw hg1 hb0.out
  have hg : w.grownBy w1 (some b) := grownBy_trans (World.grownBy_alloc _ _ _) hg1
  clear hs hg1
  go_wp2_with fail
  go_loopw [3, 4] (fun v i wr => ∃ (k : Nat) (l : List BlkD) (t' : Int), (k : Int) + l.length ≤ 4 ∧ i = .int .i64 k ∧ (∀ a ∈ l, a.length ≤ 121) ∧ t ≤ t' ∧ t' ≤ t + 1 + 10 * (l.length : Int) ∧ (∃ xs fp, OwnL 22 bytC wr w.heap.size v l xs fp) ∧ Src wr b p q cs t' ∧ w.grownBy wr (some b))
    (fun _ i _ => (intOf i).toNat)
  case atStart => exact ⟨r.toNat, [], t + 1, by simp; omega, by rw [Int.toNat_of_nonneg x0], fun a ha => (by cases ha), by omega, by simp, ⟨_, _, O1⟩, hs1, hg⟩
  case round =>
    clear O1 hs1 hg
    obtain ⟨k, l, t1, hkl, rfl, hall, ht3, ht4, ⟨xs, fp, ho⟩, hs1, hg⟩ := hrel
    have HA : Hid (∀ a ∈ l, a.length ≤ 121) := hall
    clear hall
    obtain ⟨po, qo, rfl, hord⟩ := ho.rd
    have hqo1 : l.length ≤ qo := hord.1
    have hqo2 : qo ≤ 2 ^ 63 - 1 := hord.2.1
    clear hord
    by_cases hk : 0 < k
    · have hkI : 0 < (k : Int) := by omega
      go_wp2_with fail
      refine (l1Next_c b p q cs t1 9 _ hs1 (by omega) (by omega) (by omega) (by omega)).mono ?_
      rintro e w2 ⟨n, rfl, x2, y2, hs2, hg2⟩
      replace ho := ho.draw hg2 hb0.out
      replace hg := grownBy_trans hg hg2
      clear hg2 hs1
      go_wp2_with fail
      refine (l1Some_c b p q cs (t1 + 1) n w2 hs2 (by omega) (by omega) x2 (by omega)).mono ?_
      rintro e w3 ⟨u3, bs, rfl, hl3, k3, hs3, hg3⟩
      obtain ⟨pv, qv, rfl, -⟩ := k3.rd
      have HL3 : Hid (bs.length = n.toNat) := hl3
      have hlow : Hid (∀ j, (Value.slice pv bs.length qv).ownBlock = some j → w2.heap.size ≤ j) := fun j hj => k3.ge j hj
      have hinsO : Hid (∀ j, j ∈ (Value.slice po l.length qo).ownBlock.toList ++ fp → j < w2.heap.size) := fun j hj => (ho.ins j hj).2
      have hz2w : Hid (w.heap.size ≤ w2.heap.size) := hg.size
      replace ho := ho.draw hg3 hb0.out
      replace hg := grownBy_trans hg hg3
      generalize hnb : bs.length = m at *
      have hb4 := alloc_below w3 (.cells #[.slice pv m qv] 22)
      have hnew : ∀ j u, [Value.slice pv m qv][j]? = some u → (w3.alloc (.cells #[.slice pv m qv] 22)).cell? ((⟨w3.heap.size, 0, none⟩ : Addr).add j) = some u := fun j u hj => (Arr.new w3 [.slice pv m qv] 22).cells j u hj
      have k5 := k3.stay hb4
      have ho5 := ho.stay hb4
      have hs5 := hs3.keep hb4
      have hg5 : w.grownBy (w3.alloc (.cells #[.slice pv m qv] 22)) (some b) := grownBy_trans hg (World.grownBy_alloc _ _ _)
      have hrow5 : Hid ((w3.alloc (.cells #[.slice pv m qv] 22)).ownsRow w.heap.size 22 1 (.slice po l.length qo) l.length xs) := ho5.row
      obtain ⟨i0, hi, hz0, hz1, hz2⟩ := info_parts infoBlk
      have HBm : Hid (bs.length = m) := hnb
      clear hg3 hs2 k3 ho hs3 hg hb4 hnb hl3
      go_wp2_with (at_builtin; go_loud (refine wpList_append_lies _ rfl (.tmp 12) (.tmp 17) 39 rfl w.heap.size 22 i0 (.slice none 0 0) 1 24 Try.underlying39 hi hz0 hz1 hz2 rfl (by decide) (.slice po l.length qo) l.length xs rfl hrow5.out ⟨w3.heap.size, 0, none⟩ 1 1 [.slice pv m qv] rfl rfl hnew (by intro u hu; simp at hu; subst hu; rfl) (by decide) (by unfold maxLen; omega) (by omega) hg5.size (w3.alloc (.cells #[.slice pv m qv] 22)).heap.size rfl ?_); intro g6 c6 w6 hown6 hgrow6 hat6 hlt6)
      have ka := blk_own_mk (a := bs) (k5.lower (B' := w.heap.size) hz2w.out)
      have OP := ho5.push ka (fun j hj hj2 => by
        have h1 := hlow.out j (mem_opt.1 hj)
        have h2 := hinsO.out j hj2
        omega) (k := l.length + 1) (v' := .slice (some ⟨g6, 0, none⟩) (l.length + 1) c6) (g := g6) hown6 (by simp) hgrow6 rfl hat6
      have hS6 := hs5.other hgrow6 (fun k hk => by have := (ho5.ins k (List.mem_append_left _ (mem_opt.2 hk))).1; have := hb0.out; omega)
      have hG6 := grownBy_new hg5 hgrow6 (fun k hk => (ho5.ins k (List.mem_append_left _ (mem_opt.2 hk))).1)
      clear ho5 k5 hown6 hgrow6 hat6 hnew hrow5 ka hs5 hg5
      go_wp2_with fail
      go_roundw
      case rel =>
        refine ⟨k - 1, l ++ [bs], t1 + 1 + n, by rw [List.length_append, List.length_singleton]; omega, by go_num, fun a ha => ?_, by omega, by rw [List.length_append, List.length_singleton]; omega, ⟨_, _, OP⟩, hS6, hG6⟩
        rcases List.mem_append.1 ha with h | h
        · exact HA.out a h
        · rw [List.mem_singleton.1 h]; have := HL3.out; have := HBm.out; omega
      case measure => simp [intOf]; omega
    · have hkI : ¬ 0 < (k : Int) := by omega
      go_wp2_with fail
      refine (l1Next_c b p q cs t1 12 _ hs1 (by omega) (by omega) (by omega) (by omega)).mono ?_
      rintro e w2 ⟨n, rfl, x2, y2, hs2, hg2⟩
      replace ho := ho.draw hg2 hb0.out
      replace hg := grownBy_trans hg hg2
      clear hg2 hs1
      by_cases h0 : n = 0
      · subst h0
        go_wp2_with fail
        refine (l1Pick_c b p q cs (t1 + 1) w2.heap.size [120, 121] 2 _ (hs2.keep (alloc_below _ _)) (by omega) (by omega) rfl (by decide) (by decide) (by have := hs2.lt; omega) (new_ints _ _ _ [120, 121] rfl)).mono ?_
        rintro e w3 ⟨k3, hk3, rfl, hs3, hg3⟩
        obtain ⟨m, rfl, hm⟩ : ∃ m : Nat, k3 = m ∧ m ≤ 121 := by
          simp only [List.mem_cons, List.not_mem_nil, or_false] at hk3
          exact ⟨k3.toNat, by omega, by omega⟩
        clear hk3
        replace ho := (ho.stay (alloc_below _ _)).draw hg3 hb0.out
        replace hg := grownBy_trans hg (grownBy_trans (World.grownBy_alloc _ _ _) hg3)
        have hz3w : Hid (w.heap.size ≤ w3.heap.size) := hg.size
        have hinsO : Hid (∀ j, j ∈ (Value.slice po l.length qo).ownBlock.toList ++ fp → j < w3.heap.size) := fun j hj => (ho.ins j hj).2
        obtain ⟨i0, hi, hz0, hz1, hz2⟩ := info_parts info8
        obtain ⟨j0, hj, hy0, hy1, hy2⟩ := info_parts infoBlk
        clear hg3 hs2
        go_wp2_with (first
          | (at_make; refine wpList_make_full _ rfl (.tmp 26) (.tmp 26) 22 rfl w3.heap.size 5 i0 (.int .u8 0) 1 Try.underlying22 hi hz0 hz1 .i64 .i64 _ _ m rfl rfl rfl rfl (by rw [hz2]; omega) (by unfold maxLen; omega) (Nat.le_refl _) ?_; intro w4 hown hgrow; have k4 := made_zeros hown; clear hown; have hbw := grown_below hgrow; have k5 := k4.stay (alloc_below w4 (.cells #[.slice (some ⟨w3.heap.size, 0, none⟩) m m] 22)); have hb5 := Below.step hbw (alloc_below w4 (.cells #[.slice (some ⟨w3.heap.size, 0, none⟩) m m] 22)); have ho5 := ho.stay hb5; have hs5 := hs3.keep hb5; have hg5 := grownBy_trans hg (below_grown hb5 (some b)); have hnew : ∀ j u, [Value.slice (some ⟨w3.heap.size, 0, none⟩) m m][j]? = some u → (w4.alloc (.cells #[.slice (some ⟨w3.heap.size, 0, none⟩) m m] 22)).cell? ((⟨w4.heap.size, 0, none⟩ : Addr).add j) = some u := (fun j u hj => (Arr.new w4 [.slice (some ⟨w3.heap.size, 0, none⟩) m m] 22).cells j u hj); have hrow5 : Hid ((w4.alloc (.cells #[.slice (some ⟨w3.heap.size, 0, none⟩) m m] 22)).ownsRow w.heap.size 22 1 (.slice po l.length qo) l.length xs) := ho5.row; clear hbw hb5 k4 hgrow ho hs3 hg)
          | (at_builtin; refine wpList_append_lies _ rfl (.tmp 23) (.tmp 28) 39 rfl w.heap.size 22 j0 (.slice none 0 0) 1 24 Try.underlying39 hj hy0 hy1 hy2 rfl (by decide) (.slice po l.length qo) l.length xs rfl hrow5.out ⟨w4.heap.size, 0, none⟩ 1 1 [.slice (some ⟨w3.heap.size, 0, none⟩) m m] rfl rfl hnew (by intro u hu; simp at hu; subst hu; rfl) (by decide) (by unfold maxLen; omega) (by omega) hg5.size (w4.alloc (.cells #[.slice (some ⟨w3.heap.size, 0, none⟩) m m] 22)).heap.size rfl ?_; intro g6 c6 w6 hown6 hgrow6 hat6 hlt6))
        have hlow : Hid (∀ j, (Value.slice (some ⟨w3.heap.size, 0, none⟩) m m).ownBlock = some j → w3.heap.size ≤ j) := fun j hj => k5.ge j hj
        have ka := blk_own_mk (a := zs m) (k5.lower (B' := w.heap.size) hz3w.out)
        have OP := ho5.push ka (fun j hj hj2 => by
          have h1 := hlow.out j (mem_opt.1 hj)
          have h2 := hinsO.out j hj2
          omega) (k := l.length + 1) (v' := .slice (some ⟨g6, 0, none⟩) (l.length + 1) c6) (g := g6) hown6 (by simp) hgrow6 rfl hat6
        have hS6 := hs5.other hgrow6 (fun k hk => by have := (ho5.ins k (List.mem_append_left _ (mem_opt.2 hk))).1; have := hb0.out; omega)
        have hG6 := grownBy_new hg5 hgrow6 (fun k hk => (ho5.ins k (List.mem_append_left _ (mem_opt.2 hk))).1)
        go_ret
        refine ⟨_, l ++ [zs m], t1 + 1 + 1, rfl, by rw [List.length_append, List.length_singleton]; omega, fun a ha => ?_, by omega, by omega, ⟨_, _, OP⟩, hS6, hG6⟩
        rcases List.mem_append.1 ha with h | h
        · exact HA.out a h
        · rw [List.mem_singleton.1 h, zs_len]; omega
      · by_cases h1 : n = 1
        · subst h1
          obtain ⟨i0, hi, hz0, hz1, hz2⟩ := info_parts infoBlk
          have hsz : w.heap.size ≤ w2.heap.size := hg.size
          go_wp2_with (at_make; go_loud (refine wpList_make_full _ rfl (.const (.int .i64 9)) (.const (.int .i64 9)) 39 rfl w.heap.size 22 i0 (.slice none 0 0) 1 Try.underlying39 hi hz0 hz1 .i64 .i64 _ _ 9 rfl rfl rfl rfl (by rw [hz2]; decide) (by unfold maxLen; decide) hsz ?_); intro w4 hown hgrow)
          have hbw := grown_below hgrow
          rw [show (madeCells (Value.cells (.slice none 0 0)) (9 * 1)).toList = List.replicate 9 (.slice none 0 0) by kernel_rfl] at hown
          go_ret
          exact ⟨_, List.replicate 9 [], t1 + 1, rfl, by decide, fun a ha => by rw [List.eq_of_mem_replicate ha]; decide, by omega, by omega, ⟨_, _, ⟨hown, nils_all _ _ 9, by simp [Value.ownBlock]⟩⟩, hs2.keep hbw, grownBy_trans hg (below_grown hbw _)⟩
        · have e0 : (n == 0) = false := by simp [h0]
          have e1 : (n == 1) = false := by simp [h1]
          go_wp2
          go_ret
          exact ⟨_, l, t1 + 1, rfl, by omega, HA.out, by omega, by omega, ⟨_, _, ho⟩, hs2, hg⟩

/-- Messages of nothing. -/
theorem zeroM_all (w : World) (B : Nat) : ∀ n, OwnAll msgC w B (List.replicate n (0, [])) (List.replicate n [Value.int .i64 0, .slice none 0 0]).flatten []
  | 0 => ⟨rfl, rfl⟩
  | n + 1 => ⟨[.int .i64 0, .slice none 0 0], (List.replicate n [Value.int .i64 0, .slice none 0 0]).flatten, [], [], rfl, rfl, msg_own_mk (a := (0, [])) (v := .slice none 0 0) (Own_nil _ _), zeroM_all w B n⟩
set_option maxRecDepth 4000 in
set_option maxHeartbeats 1000000 in
theorem l6Many_c (b : Nat) (p : Option Addr) (q : Nat) (cs : List UInt8) (t : Int) (w : World) (hs : Src w b p q cs t) (ht : 0 ≤ t) (ht2 : t ≤ 700000000) :
    Calls Try.prog 47 #[.pointer (some ⟨b, 0, none⟩)] w fun e w' => ∃ (v : Value) (l : List MsgD) (t' : Int), e = .returned v ∧ l.length ≤ 13 ∧ (∀ a ∈ l, a.2.length ≤ 161) ∧ t ≤ t' ∧ t' ≤ t + 200 ∧ (∃ xs fp, OwnL 36 msgC w' w.heap.size v l xs fp) ∧ Src w' b p q cs t' ∧ w.grownBy w' (some b) := by
  have hb0 : Hid (b < w.heap.size) := hs.lt
  have O1 := none_ownM w w.heap.size (Nat.le_refl _)
  go_enter Try.func47, Try.ntmps47
  go_wp2_with fail
  refine (l1Next_c b p q cs t 5 _ (hs.keep (alloc_below _ _)) (by omega) (by omega) (by omega) (by omega)).mono ?_
  rintro e w1 ⟨r, rfl, x0, y0, hs1, hg1⟩
  replace O1 := O1.draw hg1 hb0.out
  have hg : w.grownBy w1 (some b) := grownBy_trans (World.grownBy_alloc _ _ _) hg1
  clear hs hg1
  go_wp2_with fail
  go_loopw [3, 4] (fun v i wr => ∃ (k : Nat) (l : List MsgD) (t' : Int), (k : Int) + l.length ≤ 4 ∧ i = .int .i64 k ∧ (∀ a ∈ l, a.2.length ≤ 161) ∧ t ≤ t' ∧ t' ≤ t + 1 + 20 * (l.length : Int) ∧ (∃ xs fp, OwnL 36 msgC wr w.heap.size v l xs fp) ∧ Src wr b p q cs t' ∧ w.grownBy wr (some b))
    (fun _ i _ => (intOf i).toNat)
  case atStart => exact ⟨r.toNat, [], t + 1, by simp; omega, by rw [Int.toNat_of_nonneg x0], fun a ha => (by cases ha), by omega, by simp, ⟨_, _, O1⟩, hs1, hg⟩
  case round =>
    clear O1 hs1 hg
    obtain ⟨k, l, t1, hkl, rfl, hall, ht3, ht4, ⟨xs, fp, ho⟩, hs1, hg⟩ := hrel
    have HA : Hid (∀ a ∈ l, a.2.length ≤ 161) := hall
    clear hall
    obtain ⟨po, qo, rfl, hord⟩ := ho.rd
    have hqo1 : l.length ≤ qo := hord.1
    have hqo2 : qo ≤ 2 ^ 63 - 1 := hord.2.1
    clear hord
    have hinsO : Hid (∀ j, j ∈ (Value.slice po l.length qo).ownBlock.toList ++ fp → j < wr.heap.size) := fun j hj => (ho.ins j hj).2
    have hz2w : Hid (w.heap.size ≤ wr.heap.size) := hg.size
    obtain ⟨i0, hi, hz0, hz1, hz2⟩ := info_parts infoMsg
    by_cases hk : 0 < k
    · have hkI : 0 < (k : Int) := by omega
      go_wp2_with fail
      refine (l6Draw_c b p q cs t1 _ hs1 (by omega) (by omega)).mono ?_
      rintro e w3 ⟨kd, u3, bs, t3, rfl, hk0, hk1, hl3, ht5, ht6, k3, hs3, hg3⟩
      obtain ⟨pv, qv, rfl, -⟩ := k3.rd
      have HL3 : Hid (bs.length ≤ 8) := hl3
      have hlow : Hid (∀ j, (Value.slice pv bs.length qv).ownBlock = some j → wr.heap.size ≤ j) := fun j hj => k3.ge j hj
      replace ho := ho.draw hg3 hb0.out
      replace hg := grownBy_trans hg hg3
      obtain ⟨m, HBm⟩ : ∃ m, Hid (bs.length = m) := ⟨_, rfl⟩
      rw [HBm.out] at k3 hlow ⊢
      have hb4 := alloc_below w3 (.cells #[.int .i64 kd, .slice pv m qv] 36)
      have hnew : ∀ j u, [Value.int .i64 kd, .slice pv m qv][j]? = some u → (w3.alloc (.cells #[.int .i64 kd, .slice pv m qv] 36)).cell? ((⟨w3.heap.size, 0, none⟩ : Addr).add j) = some u := fun j u hj => (Arr.new w3 [.int .i64 kd, .slice pv m qv] 36).cells j u hj
      have k5 := k3.stay hb4
      have ho5 := ho.stay hb4
      have hs5 := hs3.keep hb4
      have hg5 : w.grownBy (w3.alloc (.cells #[.int .i64 kd, .slice pv m qv] 36)) (some b) := grownBy_trans hg (World.grownBy_alloc _ _ _)
      have hrow5 : Hid ((w3.alloc (.cells #[.int .i64 kd, .slice pv m qv] 36)).ownsRow w.heap.size 36 2 (.slice po l.length qo) l.length xs) := ho5.row
      clear hg3 k3 ho hs3 hg hb4 hl3 hs1
      go_wp2_with (at_builtin; go_loud (refine wpList_append_lies _ rfl (.tmp 12) (.tmp 15) 25 rfl w.heap.size 36 i0 (.agg #[.int .i64 0, .slice none 0 0]) 2 32 Try.underlying25 hi hz0 hz1 hz2 rfl (by decide) (.slice po l.length qo) l.length xs rfl hrow5.out ⟨w3.heap.size, 0, none⟩ 1 1 [.int .i64 kd, .slice pv m qv] rfl rfl hnew (by intro u hu; simp at hu; rcases hu with rfl | rfl <;> rfl) (by decide) (by unfold maxLen; omega) (by omega) hg5.size (w3.alloc (.cells #[.int .i64 kd, .slice pv m qv] 36)).heap.size rfl ?_); intro g6 c6 w6 hown6 hgrow6 hat6 hlt6)
      have ka := msg_own_mk (a := (kd, bs)) (k5.lower (B' := w.heap.size) hz2w.out)
      have OP := ho5.push ka (fun j hj hj2 => by
        have h1 := hlow.out j (mem_opt.1 hj)
        have h2 := hinsO.out j hj2
        omega) (k := l.length + 1) (v' := .slice (some ⟨g6, 0, none⟩) (l.length + 1) c6) (g := g6) hown6 (by simp) hgrow6 rfl hat6
      have hS6 := hs5.other hgrow6 (fun k hk => by have := (ho5.ins k (List.mem_append_left _ (mem_opt.2 hk))).1; have := hb0.out; omega)
      have hG6 := grownBy_new hg5 hgrow6 (fun k hk => (ho5.ins k (List.mem_append_left _ (mem_opt.2 hk))).1)
      clear ho5 k5 hown6 hgrow6 hat6 hnew hrow5 ka hs5 hg5
      go_wp2_with fail
      go_roundw
      case rel =>
        refine ⟨k - 1, l ++ [(kd, bs)], t3, by rw [List.length_append, List.length_singleton]; omega, by go_num, fun a ha => ?_, by omega, by rw [List.length_append, List.length_singleton]; omega, ⟨_, _, OP⟩, hS6, hG6⟩
        rcases List.mem_append.1 ha with h | h
        · exact HA.out a h
        · rw [List.mem_singleton.1 h]; have := HL3.out; show bs.length ≤ 161; omega
      case measure => simp [intOf]; omega
    · have hkI : ¬ 0 < (k : Int) := by omega
      go_wp2_with fail
      refine (l1Next_c b p q cs t1 12 _ hs1 (by omega) (by omega) (by omega) (by omega)).mono ?_
      rintro e w2 ⟨n, rfl, x2, y2, hs2, hg2⟩
      replace ho := ho.draw hg2 hb0.out
      replace hg := grownBy_trans hg hg2
      have hz22 : Hid (wr.heap.size ≤ w2.heap.size) := hg2.size
      clear hg2 hs1
      by_cases h0 : n = 0
      · subst h0
        go_wp2_with fail
        refine (l6Bent_c b p q cs (t1 + 1) _ hs2 (by omega) (by omega)).mono ?_
        rintro e w3 ⟨kd, u3, bs, t3, rfl, hk0, hk1, hl3, ht5, ht6, k3, hs3, hg3⟩
        obtain ⟨pv, qv, rfl, -⟩ := k3.rd
        have HL3 : Hid (bs.length ≤ 161) := hl3
        have hlow : Hid (∀ j, (Value.slice pv bs.length qv).ownBlock = some j → w2.heap.size ≤ j) := fun j hj => k3.ge j hj
        replace ho := ho.draw hg3 hb0.out
        have hz2v : Hid (w.heap.size ≤ w2.heap.size) := hg.size
        replace hg := grownBy_trans hg hg3
        obtain ⟨m, HBm⟩ : ∃ m, Hid (bs.length = m) := ⟨_, rfl⟩
        rw [HBm.out] at k3 hlow ⊢
        have hb4 := alloc_below w3 (.cells #[.int .i64 kd, .slice pv m qv] 36)
        have hnew : ∀ j u, [Value.int .i64 kd, .slice pv m qv][j]? = some u → (w3.alloc (.cells #[.int .i64 kd, .slice pv m qv] 36)).cell? ((⟨w3.heap.size, 0, none⟩ : Addr).add j) = some u := fun j u hj => (Arr.new w3 [.int .i64 kd, .slice pv m qv] 36).cells j u hj
        have k5 := k3.stay hb4
        have ho5 := ho.stay hb4
        have hs5 := hs3.keep hb4
        have hg5 : w.grownBy (w3.alloc (.cells #[.int .i64 kd, .slice pv m qv] 36)) (some b) := grownBy_trans hg (World.grownBy_alloc _ _ _)
        have hrow5 : Hid ((w3.alloc (.cells #[.int .i64 kd, .slice pv m qv] 36)).ownsRow w.heap.size 36 2 (.slice po l.length qo) l.length xs) := ho5.row
        clear hg3 k3 ho hs3 hg hb4 hl3 hs2
        go_wp2_with (at_builtin; go_loud (refine wpList_append_lies _ rfl (.tmp 21) (.tmp 24) 25 rfl w.heap.size 36 i0 (.agg #[.int .i64 0, .slice none 0 0]) 2 32 Try.underlying25 hi hz0 hz1 hz2 rfl (by decide) (.slice po l.length qo) l.length xs rfl hrow5.out ⟨w3.heap.size, 0, none⟩ 1 1 [.int .i64 kd, .slice pv m qv] rfl rfl hnew (by intro u hu; simp at hu; rcases hu with rfl | rfl <;> rfl) (by decide) (by unfold maxLen; omega) (by omega) hg5.size (w3.alloc (.cells #[.int .i64 kd, .slice pv m qv] 36)).heap.size rfl ?_); intro g6 c6 w6 hown6 hgrow6 hat6 hlt6)
        have ka := msg_own_mk (a := (kd, bs)) (k5.lower (B' := w.heap.size) hz2v.out)
        have OP := ho5.push ka (fun j hj hj2 => by
          have h1 := hlow.out j (mem_opt.1 hj)
          have h2 := hinsO.out j hj2
          have h3 := hz22.out
          omega) (k := l.length + 1) (v' := .slice (some ⟨g6, 0, none⟩) (l.length + 1) c6) (g := g6) hown6 (by simp) hgrow6 rfl hat6
        have hS6 := hs5.other hgrow6 (fun k hk => by have := (ho5.ins k (List.mem_append_left _ (mem_opt.2 hk))).1; have := hb0.out; omega)
        have hG6 := grownBy_new hg5 hgrow6 (fun k hk => (ho5.ins k (List.mem_append_left _ (mem_opt.2 hk))).1)
        go_ret
        refine ⟨_, l ++ [(kd, bs)], t3, rfl, by rw [List.length_append, List.length_singleton]; omega, fun a ha => ?_, by omega, by omega, ⟨_, _, OP⟩, hS6, hG6⟩
        rcases List.mem_append.1 ha with h | h
        · exact HA.out a h
        · rw [List.mem_singleton.1 h]; exact HL3.out
      · by_cases h1 : n = 1
        · subst h1
          have hsz : w.heap.size ≤ w2.heap.size := hg.size
          go_wp2_with (at_make; go_loud (refine wpList_make_full _ rfl (.const (.int .i64 13)) (.const (.int .i64 13)) 25 rfl w.heap.size 36 i0 (.agg #[.int .i64 0, .slice none 0 0]) 2 Try.underlying25 hi hz0 hz1 .i64 .i64 _ _ 13 rfl rfl rfl rfl (by rw [hz2]; decide) (by unfold maxLen; decide) hsz ?_); intro w4 hown hgrow)
          have hbw := grown_below hgrow
          rw [show (madeCells (Value.cells (.agg #[.int .i64 0, .slice none 0 0])) (13 * 2)).toList = (List.replicate 13 [Value.int .i64 0, .slice none 0 0]).flatten by kernel_rfl] at hown
          go_ret
          exact ⟨_, List.replicate 13 (0, []), t1 + 1, rfl, by decide, fun a ha => by rw [List.eq_of_mem_replicate ha]; decide, by omega, by omega, ⟨_, _, ⟨hown, zeroM_all _ _ 13, by simp [Value.ownBlock]⟩⟩, hs2.keep hbw, grownBy_trans hg (below_grown hbw _)⟩
        · have e0 : (n == 0) = false := by simp [h0]
          have e1 : (n == 1) = false := by simp [h1]
          go_wp2
          go_ret
          exact ⟨_, l, t1 + 1, rfl, by omega, HA.out, by omega, by omega, ⟨_, _, ho⟩, hs2, hg⟩

set_option maxRecDepth 4000 in
set_option maxHeartbeats 1000000 in
theorem drawPS_c (p : Option Addr) (q : Nat) (cs : List UInt8) (w : World) (hr : Rd w p q cs) :
    Calls Try.prog 15 #[.slice p cs.length q] w fun e w' => ∃ (v : Value) (l : List MsgD), e = .returned v ∧ l.length ≤ 13 ∧ (∀ a ∈ l, a.2.length ≤ 161) ∧ (∃ xs fp, OwnL 36 msgC w' w.heap.size v l xs fp) ∧ Below w.heap.size w w' := by
  go_enter Try.func15, Try.ntmps15
  go_wp2_with fail
  refine (l1Source_c p q cs w hr).mono ?_
  rintro e w1 ⟨rfl, hs, hb, hlt⟩
  go_wp2_with fail
  refine (l6Many_c w.heap.size p q cs 0 w1 hs (by omega) (by omega)).mono ?_
  rintro e w2 ⟨v, l, t', rfl, hl, ha, -, -, ⟨xs, fp, ho⟩, -, hg⟩
  go_wp2
  go_ret
  exact ⟨v, l, rfl, hl, ha, ⟨xs, fp, ho.low (Nat.le_of_lt hlt)⟩, hb.grown hg (Nat.le_of_lt hlt) (fun k hk => by simp at hk; omega)⟩

set_option maxRecDepth 4000 in
set_option maxHeartbeats 1000000 in
theorem drawPB_c (p : Option Addr) (q : Nat) (cs : List UInt8) (w : World) (hr : Rd w p q cs) :
    Calls Try.prog 24 #[.slice p cs.length q] w fun e w' => ∃ (v : Value) (l : List BlkD), e = .returned v ∧ l.length ≤ 9 ∧ (∀ a ∈ l, a.length ≤ 121) ∧ (∃ xs fp, OwnL 22 bytC w' w.heap.size v l xs fp) ∧ Below w.heap.size w w' := by
  go_enter Try.func24, Try.ntmps24
  go_wp2_with fail
  refine (l1Source_c p q cs w hr).mono ?_
  rintro e w1 ⟨rfl, hs, hb, hlt⟩
  go_wp2_with fail
  refine (l6Lists_c w.heap.size p q cs 0 w1 hs (by omega) (by omega)).mono ?_
  rintro e w2 ⟨v, l, t', rfl, hl, ha, -, -, ⟨xs, fp, ho⟩, -, hg⟩
  go_wp2
  go_ret
  exact ⟨v, l, rfl, hl, ha, ⟨xs, fp, ho.low (Nat.le_of_lt hlt)⟩, hb.grown hg (Nat.le_of_lt hlt) (fun k hk => by simp at hk; omega)⟩

theorem blksN_bound2 {l : List BlkD} (hl : l.length ≤ 9) (ha : ∀ a ∈ l, a.length ≤ 121) : (blksN l).length ≤ 2000 := by
  have h : ∀ m : List BlkD, (∀ a ∈ m, a.length ≤ 121) → (blksN m).length ≤ 122 * m.length := fun m => by
    induction m with
    | nil => intro _; simp [blksN]
    | cons a m ih =>
      intro h
      rw [blksN_cons, List.length_append, blkW_len, List.length_cons]
      have h2 := h a List.mem_cons_self
      have h3 := ih fun b hb => h b (List.mem_cons_of_mem _ hb)
      omega
  have := h l ha
  omega
set_option maxRecDepth 4000 in
set_option maxHeartbeats 1000000 in
theorem drawUB_c (p : Option Addr) (q : Nat) (cs : List UInt8) (w : World) (hr : Rd w p q cs) :
    Calls Try.prog 20 #[.slice p cs.length q] w fun e w' => ∃ (p1 : Option Addr) (q1 : Nat) (bs : List UInt8), e = .returned (.slice p1 bs.length q1) ∧ bs.length ≤ 2000 ∧ Rd w' p1 q1 bs ∧ Below w.heap.size w w' := by
  go_enter Try.func20, Try.ntmps20
  go_wp2_with fail
  refine (l1Source_c p q cs w hr).mono ?_
  rintro e w1 ⟨rfl, hs, hb, hlt⟩
  have hltH : Hid (w.heap.size < w1.heap.size) := hlt
  clear hlt
  go_wp2_with fail
  refine (l6Lists_c w.heap.size p q cs 0 w1 hs (by omega) (by omega)).mono ?_
  rintro e w2 ⟨v, l, t2, rfl, hl, ha, ht0, ht1, ⟨xs, fp, ho⟩, hs2, hg2⟩
  have BW := hb.grown hg2 (Nat.le_of_lt hltH.out) (fun k hk => by simp at hk; omega)
  have hw2 : Hid (w.heap.size < w2.heap.size) := Nat.lt_of_lt_of_le hltH.out hg2.size
  obtain ⟨p2, q2, rfl, r2⟩ := ho.rd
  have HB : Hid ((blksN l).length ≤ 2000) := blksN_bound2 hl ha
  have K : Hid (Calls Try.prog 55 #[.slice p2 l.length q2] w2 fun e w' => ∃ u, e = .returned u ∧ Own w' w2.heap.size u (blksN l) ∧ Below w2.heap.size w2 w') := l6Blocks_c l p2 q2 w2 r2 (by have := HB.out; omega)
  clear hb hg2 hs ha ho r2
  go_wp2_with fail
  refine K.out.mono ?_
  rintro e w3 ⟨u3, rfl, k3, hb3⟩
  replace hs2 := hs2.keep hb3
  replace BW := Below.step BW hb3
  generalize blksN l = bs at *
  obtain ⟨p3, q3, rfl, r3⟩ := k3.rd
  have hq1 := r3.1
  have hq2 : q3 ≤ 2 ^ 63 - 1 := r3.2.1
  have hnb : Hid (∀ k, (Value.slice p3 bs.length q3).ownBlock = some k → w.heap.size < k) := fun k hk => by have := k3.ge k hk; have := hw2.out; omega
  clear K hb3
  by_cases h0 : bs = []
  · subst h0
    go_wp2_with fail
    go_ret
    exact ⟨p3, q3, [], rfl, by decide, r3, BW⟩
  · have hI : 0 < (bs.length : Int) := by have := List.length_pos_iff.2 h0; omega
    go_wp2_with fail
    refine (l1Chance_c w.heap.size p q cs t2 3 w3 hs2 (by omega) (by omega) (by omega) (by omega)).mono ?_
    rintro e w4 ⟨r, rfl, hs4, hg4⟩
    replace r3 := r3.other hg4 (fun _ y hy e => by
      have h2 : (Value.slice p3 bs.length q3).ownBlock = some y.block := by rw [hy]; rfl
      have := hnb.out _ h2
      simp at e
      omega)
    replace BW := BW.grown hg4 BW.size (fun k hk => by simp at hk; omega)
    clear k3 hg4 hs2
    cases r with
    | false =>
      go_wp2
      go_ret
      exact ⟨p3, q3, bs, rfl, HB.out, r3, BW⟩
    | true =>
      go_wp2_with fail
      refine (l1Next_c w.heap.size p q cs (t2 + 1) (bs.length : Int) w4 hs4 (by omega) (by omega) (by omega) (by have := HB.out; omega)).mono ?_
      rintro e w5 ⟨n, rfl, x0, y0, hs5, hg5⟩
      obtain ⟨n, rfl⟩ := Int.eq_ofNat_of_zero_le x0
      replace r3 := r3.other hg5 (fun _ y hy e => by
        have h2 : (Value.slice p3 bs.length q3).ownBlock = some y.block := by rw [hy]; rfl
        have := hnb.out _ h2
        simp at e
        omega)
      replace BW := BW.grown hg5 BW.size (fun k hk => by simp at hk; omega)
      have hlen : Hid ((bs.take n).length = n) := by show _ = _; rw [List.length_take]; omega
      have rT := r3.take n
      obtain ⟨b3, o3, rfl, -⟩ := r3.2.2.2 (by omega)
      clear hg5 hs5 r3 hs4
      go_wp2
      go_ret
      exact ⟨some ⟨b3, o3, none⟩, q3, bs.take n, by rw [hlen.out]; rfl, by have := HB.out; have := hlen.out; omega, rT, BW⟩

theorem packAll_bound2 {l : List MsgD} (hl : l.length ≤ 13) (ha : ∀ a ∈ l, a.2.length ≤ 161) : (packAll l).length ≤ 3000 := by
  have h : ∀ m : List MsgD, (∀ a ∈ m, a.2.length ≤ 161) → (packAll m).length ≤ 165 * m.length := fun m => by
    induction m with
    | nil => intro _; simp [packAll]
    | cons a m ih =>
      intro h
      rw [packAll_cons, List.length_append, packW_len, List.length_cons]
      have h2 := h a List.mem_cons_self
      have h3 := ih fun b hb => h b (List.mem_cons_of_mem _ hb)
      omega
  have := h l ha
  omega
theorem w6_xor8 (a b : UInt8) : bits .xor .u8 (a.toNat : Int) (b.toNat : Int) = ((a ^^^ b).toNat : Int) := by
  rw [u8_xor_nat _ _ a.toNat_lt b.toNat_lt, UInt8.toNat_xor]
set_option maxRecDepth 4000 in
set_option maxHeartbeats 1000000 in
theorem drawUM_c (p : Option Addr) (q : Nat) (cs : List UInt8) (w : World) (hr : Rd w p q cs) :
    Calls Try.prog 10 #[.slice p cs.length q] w fun e w' => ∃ (p1 : Option Addr) (q1 : Nat) (bs : List UInt8), e = .returned (.slice p1 bs.length q1) ∧ bs.length ≤ 3000 ∧ Rd w' p1 q1 bs ∧ Below w.heap.size w w' := by
  go_enter Try.func10, Try.ntmps10
  go_wp2_with fail
  refine (l1Source_c p q cs w hr).mono ?_
  rintro e w1 ⟨rfl, hs, hb, hlt⟩
  have hltH : Hid (w.heap.size < w1.heap.size) := hlt
  clear hlt
  go_wp2_with fail
  refine (l6Many_c w.heap.size p q cs 0 w1 hs (by omega) (by omega)).mono ?_
  rintro e w2 ⟨v, l, t2, rfl, hl, ha, ht0, ht1, ⟨xs, fp, ho⟩, hs2, hg2⟩
  have BW := hb.grown hg2 (Nat.le_of_lt hltH.out) (fun k hk => by simp at hk; omega)
  have hw2 : Hid (w.heap.size < w2.heap.size) := Nat.lt_of_lt_of_le hltH.out hg2.size
  obtain ⟨p2, q2, rfl, r2⟩ := ho.rd
  have HB : Hid ((packAll l).length ≤ 3000) := packAll_bound2 hl ha
  have K : Hid (Calls Try.prog 46 #[.slice p2 l.length q2] w2 fun e w' => ∃ u, e = .returned u ∧ Own w' w2.heap.size u (packAll l) ∧ Below w2.heap.size w2 w') := l6PackAll_c l p2 q2 w2 r2 (fun a h => by have := ha a h; omega) (by have := HB.out; omega)
  clear hb hg2 hs ha ho r2
  go_wp2_with fail
  refine K.out.mono ?_
  rintro e w3 ⟨u3, rfl, k3, hb3⟩
  replace hs2 := hs2.keep hb3
  replace BW := Below.step BW hb3
  generalize packAll l = bs at *
  obtain ⟨p3, q3, rfl, r3⟩ := k3.rd
  have hq1 := r3.1
  have hq2 : q3 ≤ 2 ^ 63 - 1 := r3.2.1
  have hnb : Hid (∀ k, (Value.slice p3 bs.length q3).ownBlock = some k → w.heap.size < k) := fun k hk => by have := k3.ge k hk; have := hw2.out; omega
  clear K hb3
  by_cases h0 : bs = []
  · subst h0
    go_wp2_with fail
    go_ret
    exact ⟨p3, q3, [], rfl, by decide, r3, BW⟩
  · have hI : 0 < (bs.length : Int) := by have := List.length_pos_iff.2 h0; omega
    go_wp2_with fail
    refine (l1Next_c w.heap.size p q cs t2 5 w3 hs2 (by omega) (by omega) (by omega) (by omega)).mono ?_
    rintro e w4 ⟨r, rfl, x1, y1, hs4, hg4⟩
    replace k3 := k3.other hg4 (fun k hk e => by have := hnb.out k hk; simp at e; omega)
    replace BW := BW.grown hg4 BW.size (fun k hk => by simp at hk; omega)
    clear hg4 hs2 r3
    by_cases hr0 : r = 0
    · subst hr0
      go_wp2_with fail
      refine (l1Next_c w.heap.size p q cs (t2 + 1) (bs.length : Int) w4 hs4 (by omega) (by omega) (by omega) (by have := HB.out; omega)).mono ?_
      rintro e w5 ⟨n, rfl, x0, y0, hs5, hg5⟩
      obtain ⟨n, rfl⟩ := Int.eq_ofNat_of_zero_le x0
      replace k3 := k3.other hg5 (fun k hk e => by have := hnb.out k hk; simp at e; omega)
      replace BW := BW.grown hg5 BW.size (fun k hk => by simp at hk; omega)
      have hlen : Hid ((bs.take n).length = n) := by show _ = _; rw [List.length_take]; omega
      have r3 := Rd.own k3
      have rT := r3.take n
      obtain ⟨b3, o3, rfl, -⟩ := r3.2.2.2 (by omega)
      clear hg5 hs5 r3 hs4 k3
      go_wp2
      go_ret
      exact ⟨some ⟨b3, o3, none⟩, q3, bs.take n, by rw [hlen.out]; rfl, by have := HB.out; have := hlen.out; omega, rT, BW⟩
    · by_cases hr1 : r = 1
      · subst hr1
        obtain ⟨g, e3⟩ : ∃ g, p3 = some ⟨g, 0, none⟩ := by
          rcases k3.2 with ⟨e, hz⟩ | ⟨g, cap, cur, e, -⟩
          · omega
          · simp at e; exact ⟨g, e.1⟩
        subst e3
        have hgb : w.heap.size < g := hnb.out g rfl
        have hne := Gen.But.some w.heap.size w4
        go_wp2_with fail
        refine Gen.wp_region_pick (Gen.But.pre w.heap.size) [0, 1, 2, 3, 7] 13 8 1 rfl rfl rfl (by kernel_rfl) (by kernel_rfl) (by kernel_rfl) (by kernel_rfl) ?_
        simp only [opsAt, List.getElem?_toArray, List.getElem?_cons_zero, List.getElem?_cons_succ]
        repeat (go_big_quiet_step (fail))
        refine wpQuiet_nil ?_
        refine Gen.wpM_only (i := 4) (by kernel_rfl) ?_
        refine Gen.mOp_call rfl (by go_simp) 48 _ #[.pointer (some ⟨w.heap.size, 0, none⟩), .int .i64 (bs.length : Int)] (fun w => by go_simp) rfl ?_
        rintro _ ⟨n1, rfl⟩
        refine (l1Next_c w.heap.size p q cs (t2 + 1) (bs.length : Int) _ (hs4.drewN n1) (by omega) (by omega) (by omega) (by have := HB.out; omega)).mono ?_
        rintro e w5 ⟨x, rfl, x0, y0, hs5, hg5⟩
        refine ⟨_, rfl, ⟨⟨w5, hg5⟩, rfl⟩, ?_⟩
        obtain ⟨x, rfl⟩ := Int.eq_ofNat_of_zero_le x0
        have hxl : x < bs.length := by omega
        have hgw : w4.grownBy w5 (some w.heap.size) := grownBy_trans (grownBy_drewN w4 n1 _) hg5
        replace k3 := k3.other hgw (fun k hk e => by have := hnb.out k hk; simp at e; omega)
        replace BW := BW.grown hgw BW.size (fun k hk => by simp at hk; omega)
        have cx := World.ownsRow.cellAt k3 x (by omega)
        rw [u8v_at hxl] at cx
        have gx := Gen.But.cell cx (show g ≠ w.heap.size by omega)
        have hne5 := Gen.But.some w.heap.size w5
        unfold at8 at gx cx
        have hxI : (x : Int) < (bs.length : Int) := by omega
        clear hgw hg5 hne hs4
        refine Gen.wpM_more (Gen.But.pre w.heap.size) [5, 6] 7 5 rfl (by kernel_rfl) (by kernel_rfl) (by kernel_rfl) (by kernel_rfl) ?_
        simp only [opsAt, List.getElem?_toArray, List.getElem?_cons_zero, List.getElem?_cons_succ]
        go_simp
        repeat (go_big_quiet_step (fail))
        refine wpQuiet_nil ?_
        refine Gen.wpM_only (i := 8) (by kernel_rfl) ?_
        refine Gen.mOp_call rfl (by go_simp) 48 _ #[.pointer (some ⟨w.heap.size, 0, none⟩), .int .i64 255] (fun w => by go_simp) rfl ?_
        rintro _ ⟨n2, rfl⟩
        refine (l1Next_c w.heap.size p q cs (t2 + 1 + 1) 255 _ (hs5.drewN n2) (by omega) (by omega) (by omega) (by omega)).mono ?_
        rintro e w6 ⟨y, rfl, x6, y6, hs6, hg6⟩
        refine ⟨_, rfl, ⟨⟨w6, hg6⟩, rfl⟩, ?_⟩
        obtain ⟨y, rfl⟩ := Int.eq_ofNat_of_zero_le x6
        have hgw : w5.grownBy w6 (some w.heap.size) := grownBy_trans (grownBy_drewN w5 n2 _) hg6
        replace k3 := k3.other hgw (fun k hk e => by have := hnb.out k hk; simp at e; omega)
        replace BW := BW.grown hgw BW.size (fun k hk => by simp at hk; omega)
        have hne6 := Gen.But.some w.heap.size w6
        clear hgw hg6 hne5 hs5 gx cx
        have hyI : (1 + (y : Int)) % 256 = 1 + (y : Int) := by omega
        obtain ⟨z, hz⟩ : ∃ z : UInt8, 1 + (y : Int) = ((z.toNat : Nat) : Int) := ⟨UInt8.ofNat (1 + y), by rw [UInt8.toNat_ofNat']; omega⟩
        have hxo : bits .xor .u8 ((bs.getD x 0).toNat : Int) (1 + (y : Int)) = ((bs.getD x 0 ^^^ z).toNat : Int) := by rw [hz]; exact w6_xor8 (bs.getD x 0) z
        have HX : Hid (bits .xor .u8 (((bs[x]'hxl).toNat : Nat) : Int) (1 + (y : Int)) = ((bs.getD x 0 ^^^ z).toNat : Int)) := by rw [← hxo, show bs.getD x 0 = bs[x]'hxl by simp [hxl]]; exact rfl
        clear hz
        refine Gen.wpM_more (Gen.But.pre w.heap.size) [9, 10, 11, 12] 4 0 rfl (by kernel_rfl) (by kernel_rfl) (by kernel_rfl) (by kernel_rfl) ?_
        simp only [opsAt, List.getElem?_toArray, List.getElem?_cons_zero, List.getElem?_cons_succ]
        go_simp
        repeat (go_big_quiet_step (fail))
        refine wpQuiet_nil ?_
        refine Gen.wpM_end (by kernel_rfl) rfl (by kernel_rfl) (by decide) ?_
        rintro _ ⟨n3, rfl⟩
        simp only [List.drop_succ_cons, List.drop_zero]
        replace k3 : Own (w6.drewN n3) w2.heap.size (.slice (some ⟨g, 0, none⟩) bs.length q3) bs := k3
        replace BW : Below w.heap.size w (w6.drewN n3) := BW.trans ⟨rfl, rfl, rfl, Nat.le_refl _, fun _ _ => rfl⟩
        generalize w6.drewN n3 = w7 at *
        have cx := World.ownsRow.cellAt k3 x (by omega)
        rw [u8v_at hxl] at cx
        unfold at8 at cx
        have fx := World.ownsRow.frozenAt k3 x
        generalize bs.getD x 0 = y0 at *
        have R := World.ownsRow.stored k3 x (u8v (y0 ^^^ z))
        have hR : Own (w7.setCell ⟨g, x, none⟩ (u8v (y0 ^^^ z))) w2.heap.size (.slice (some ⟨g, 0, none⟩) bs.length q3) (bs.set x (y0 ^^^ z)) := by
          unfold Own
          rw [List.length_set, List.map_set]
          exact R.1
        have BW7 := BW.grown (grownBy_set w7 g x (u8v (y0 ^^^ z))) BW.size (fun k hk => by simp at hk; omega)
        have rz := Rd.own hR
        have HLS : Hid ((bs.set x (y0 ^^^ z)).length = bs.length) := List.length_set
        unfold u8v at rz BW7
        generalize bs.set x (y0 ^^^ z) = sd2 at *
        clear R hR k3 BW
        go_wp2
        go_ret
        rw [HX.out]
        exact ⟨_, q3, sd2, by rw [HLS.out]; rfl, by have := HLS.out; have := HB.out; omega, rz, BW7⟩
      · have e0 : (r == 0) = false := by simp [hr0]
        have e1 : (r == 1) = false := by simp [hr1]
        go_wp2
        go_ret
        exact ⟨p3, q3, bs, rfl, HB.out, Rd.own k3, BW⟩
end Go.Proofs.Ytoneggbbfjenpaa
