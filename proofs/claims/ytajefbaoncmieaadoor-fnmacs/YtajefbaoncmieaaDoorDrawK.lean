/- The contracts of the draws of chapter 3: keys, data, labels, contexts, numbers: within bounds, no more. -/
import Derived.Test.YtajefbaoncmieaaDoorDrawD
import Derived.Test.YtajefbaoncmieaaDoorMac
import Derived.Test.YtajefbaoncmieaaDoorArr
namespace Go.Proofs.YtajefbaoncmieaaDoor
open Go.ChangeShapes Go.WideShapes Go.ChangeAt Go.RowKit

set_option maxRecDepth 4000 in
set_option maxHeartbeats 1000000 in
theorem l3DrawKey_c (b : Nat) (p : Option Addr) (q : Nat) (cs : List UInt8) (t : Int) (w : World) (hs : Src w b p q cs t) (ht : 0 ≤ t) (ht2 : t ≤ 800000000) :
    Calls Tryd.prog 34 #[.pointer (some ⟨b, 0, none⟩)] w fun e w' => ∃ (u : Value) (bs : List UInt8) (t' : Int), e = .returned u ∧ bs.length ≤ 65 ∧ t ≤ t' ∧ t' ≤ t + 1000 ∧ Own w' w.heap.size u bs ∧ Src w' b p q cs t' ∧ w.grownBy w' (some b) := by
  go_enter Tryd.func34, Tryd.ntmps34
  go_wp2_with fail
  refine (l1Pick_c b p q cs t w.heap.size [32, 32, 32, 0, 1, 20, 64, 65] 8 _ (hs.keep (alloc_below _ _)) ht (by omega) rfl (by decide) (by decide) (by have := hs.lt; omega) (new_ints _ _ _ [32, 32, 32, 0, 1, 20, 64, 65] rfl)).mono ?_
  rintro e w5 ⟨k, hk, rfl, hs5, hg5⟩
  have hR : Hid (0 ≤ k ∧ k ≤ 65) := by
    show _ ∧ _
    simp only [List.mem_cons, List.not_mem_nil, or_false] at hk
    omega
  clear hk
  have hg : w.grownBy w5 (some b) := grownBy_trans (World.grownBy_alloc _ _ _) hg5
  clear hg5
  go_wp2_with fail
  refine (l1Some_c b p q cs (t + 1) k w5 hs5 (by omega) (by omega) hR.out.1 (by have := hR.out.2; omega)).mono ?_
  rintro e w6 ⟨u, bs, rfl, hl, ho, hs6, hg6⟩
  go_wp2
  go_ret
  have h1 := hR.out.1
  have h2 := hR.out.2
  exact ⟨u, bs, _, rfl, by omega, by omega, by omega, ho.lower hg.size, hs6, grownBy_trans hg hg6⟩

set_option maxRecDepth 4000 in
set_option maxHeartbeats 1000000 in
theorem l3DrawData_c (b : Nat) (p : Option Addr) (q : Nat) (cs : List UInt8) (t : Int) (w : World) (hs : Src w b p q cs t) (ht : 0 ≤ t) (ht2 : t ≤ 800000000) :
    Calls Tryd.prog 35 #[.pointer (some ⟨b, 0, none⟩)] w fun e w' => ∃ (u : Value) (bs : List UInt8) (t' : Int), e = .returned u ∧ bs.length ≤ 501 ∧ t ≤ t' ∧ t' ≤ t + 1000 ∧ Own w' w.heap.size u bs ∧ Src w' b p q cs t' ∧ w.grownBy w' (some b) := by
  obtain ⟨i0, hi, hz0, hz1, hz2⟩ := info_parts info8
  go_enter Tryd.func35, Tryd.ntmps35
  go_wp2_with fail
  refine (l1Chance_c b p q cs t 30 w hs (by omega) (by omega) (by omega) (by omega)).mono ?_
  rintro e w2 ⟨r, rfl, hs2, hg2⟩
  have hsz := hg2.size
  cases r
  · go_wp2_with fail
    refine (l1Next_c b p q cs (t + 1) 20 w2 hs2 (by omega) (by omega) (by omega) (by omega)).mono ?_
    rintro e w3 ⟨n, rfl, a0, a1, hs3, hg3⟩
    go_wp2_with fail
    refine (l1Next_c b p q cs (t + 1 + 1) 90 w3 hs3 (by omega) (by omega) (by omega) (by omega)).mono ?_
    rintro e w4 ⟨m, rfl, b0, b1, hs4, hg4⟩
    go_wp2_with fail
    refine (l1Pick_c b p q cs (t + 1 + 1 + 1) w4.heap.size [n, m, 0, 32] 4 _ (hs4.keep (alloc_below _ _)) (by omega) (by omega) rfl (by decide) (by decide) (by have := hs4.lt; omega) (new_ints _ _ _ [n, m, 0, 32] rfl)).mono ?_
    rintro e w5 ⟨k, hk, rfl, hs5, hg5⟩
    have hR : Hid (0 ≤ k ∧ k ≤ 200) := by
      show _ ∧ _
      simp only [List.mem_cons, List.not_mem_nil, or_false] at hk
      omega
    clear hk
    have hg : w.grownBy w5 (some b) := grownBy_trans hg2 (grownBy_trans hg3 (grownBy_trans hg4 (grownBy_trans (World.grownBy_alloc _ _ _) hg5)))
    clear hg2 hg3 hg4 hg5 hs2 hs3 hs4 a0 a1 b0 b1
    go_wp2_with fail
    refine (l1Some_c b p q cs (t + 1 + 1 + 1 + 1) k w5 hs5 (by omega) (by omega) hR.out.1 (by have := hR.out.2; omega)).mono ?_
    rintro e w6 ⟨u, bs, rfl, hl, ho, hs6, hg6⟩
    go_wp2
    go_ret
    have h1 := hR.out.1
    have h2 := hR.out.2
    exact ⟨u, bs, _, rfl, by omega, by omega, by omega, ho.lower hg.size, hs6, grownBy_trans hg hg6⟩
  · go_wp2_with (first
      | (at_make; refine wpList_make_full _ rfl (.const (.int .i64 501)) (.const (.int .i64 501)) 22 rfl w.heap.size 5 i0 (.int .u8 0) 1 Tryd.underlying22 hi hz0 hz1 .i64 .i64 _ _ 501 rfl rfl rfl rfl (by rw [hz2]; decide) (by unfold maxLen; decide) hsz ?_; intro w3 hown hgrow)
      | go_in)
    go_ret
    exact ⟨_, zs 501, t + 1, rfl, Nat.le_of_eq (zs_len 501), by omega, by omega, made_zeros hown, hs2.other hgrow (fun k hk => by simp at hk), grownBy_step hg2 hgrow (fun k hk => by simp at hk)⟩

/-- A row that was drawn ahead of other draws. -/
theorem Own.draw {w w' : World} {B b : Nat} {v : Value} {bs : List UInt8} (h : Own w B v bs) (hg : w.grownBy w' (some b)) (hb : b < B) : Own w' B v bs :=
  h.other hg (fun k hk e => by have := h.ge k hk; simp at e; omega)

set_option maxRecDepth 4000 in
set_option maxHeartbeats 1000000 in
theorem drawMac_c (p : Option Addr) (q : Nat) (cs : List UInt8) (w : World) (hr : Rd w p q cs) :
    Calls Tryd.prog 15 #[.slice p cs.length q] w fun e w' => ∃ (p1 p2 : Option Addr) (q1 q2 : Nat) (key data : List UInt8), e = .returned (.tuple #[.slice p1 key.length q1, .slice p2 data.length q2]) ∧ Rd w' p1 q1 key ∧ Rd w' p2 q2 data ∧ key.length ≤ 65 ∧ data.length ≤ 501 ∧ Below w.heap.size w w' := by
  go_enter Tryd.func15, Tryd.ntmps15
  go_wp2_with fail
  refine (l1Source_c p q cs w hr).mono ?_
  rintro e w1 ⟨rfl, hs1, hb1, hz1⟩
  go_wp2_with fail
  refine (l3DrawKey_c _ p q cs 0 w1 hs1 (by omega) (by omega)).mono ?_
  rintro e w2 ⟨u, key, t2, rfl, hl, ht0, ht1, ho, hs2, hg2⟩
  obtain ⟨p1, q1, rfl, -⟩ := ho.rd
  go_wp2_with fail
  refine (l3DrawData_c _ p q cs t2 w2 hs2 (by omega) (by omega)).mono ?_
  rintro e w3 ⟨u3, data, t3, rfl, hl3, -, -, ho3, -, hg3⟩
  obtain ⟨p2, q2, rfl, -⟩ := ho3.rd
  replace ho := ho.draw hg3 hz1
  go_wp2
  go_ret2
  exact ⟨p1, p2, q1, q2, key, data, rfl, Rd.own ho, Rd.own ho3, hl, hl3, below_of_grown (below_of_grown hb1 hg2) hg3⟩

set_option maxRecDepth 4000 in
set_option maxHeartbeats 1000000 in
theorem l3Context_c (b : Nat) (p : Option Addr) (q : Nat) (cs : List UInt8) (t : Int) (w : World) (hs : Src w b p q cs t) (ht : 0 ≤ t) (ht2 : t ≤ 800000000) :
    Calls Tryd.prog 41 #[.pointer (some ⟨b, 0, none⟩)] w fun e w' => ∃ (u : Value) (bs : List UInt8) (t' : Int), e = .returned u ∧ bs.length ≤ 101 ∧ t ≤ t' ∧ t' ≤ t + 1000 ∧ Own w' w.heap.size u bs ∧ Src w' b p q cs t' ∧ w.grownBy w' (some b) := by
  go_enter Tryd.func41, Tryd.ntmps41
  go_wp2_with fail
  refine (l1Next_c b p q cs t 9 w hs (by omega) (by omega) (by omega) (by omega)).mono ?_
  rintro e w3 ⟨n, rfl, a0, a1, hs3, hg3⟩
  go_wp2_with fail
  refine (l1Pick_c b p q cs (t + 1) w3.heap.size [32, 0, n, 100, 101] 5 _ (hs3.keep (alloc_below _ _)) (by omega) (by omega) rfl (by decide) (by decide) (by have := hs3.lt; omega) (new_ints _ _ _ [32, 0, n, 100, 101] rfl)).mono ?_
  rintro e w5 ⟨k, hk, rfl, hs5, hg5⟩
  have hR : Hid (0 ≤ k ∧ k ≤ 101) := by
    show _ ∧ _
    simp only [List.mem_cons, List.not_mem_nil, or_false] at hk
    omega
  clear hk
  have hg : w.grownBy w5 (some b) := grownBy_trans hg3 (grownBy_trans (World.grownBy_alloc _ _ _) hg5)
  clear hg3 hg5 hs3 a0 a1
  go_wp2_with fail
  refine (l1Some_c b p q cs (t + 1 + 1) k w5 hs5 (by omega) (by omega) hR.out.1 (by have := hR.out.2; omega)).mono ?_
  rintro e w6 ⟨u, bs, rfl, hl, ho, hs6, hg6⟩
  go_wp2
  go_ret
  have h1 := hR.out.1
  have h2 := hR.out.2
  exact ⟨u, bs, _, rfl, by omega, by omega, by omega, ho.lower hg.size, hs6, grownBy_trans hg hg6⟩

set_option maxRecDepth 4000 in
set_option maxHeartbeats 1000000 in
theorem l3DrawN_c (b : Nat) (p : Option Addr) (q : Nat) (cs : List UInt8) (t : Int) (w : World) (hs : Src w b p q cs t) (ht : 0 ≤ t) (ht2 : t ≤ 800000000) :
    Calls Tryd.prog 42 #[.pointer (some ⟨b, 0, none⟩)] w fun e w' => ∃ k : Int, e = .returned (.int .i64 k) ∧ -1 ≤ k ∧ k ≤ 256 ∧ Src w' b p q cs (t + 1 + 1) ∧ w.grownBy w' (some b) := by
  go_enter Tryd.func42, Tryd.ntmps42
  go_wp2_with fail
  refine (l1Next_c b p q cs t 100 w hs (by omega) (by omega) (by omega) (by omega)).mono ?_
  rintro e w3 ⟨n, rfl, a0, a1, hs3, hg3⟩
  go_wp2_with fail
  refine (l1Pick_c b p q cs (t + 1) w3.heap.size [32, 16, 12, n, 0, 255, 256, -1] 8 _ (hs3.keep (alloc_below _ _)) (by omega) (by omega) rfl (by decide) (by decide) (by have := hs3.lt; omega) (new_ints _ _ _ [32, 16, 12, n, 0, 255, 256, -1] rfl)).mono ?_
  rintro e w5 ⟨k, hk, rfl, hs5, hg5⟩
  have hR : Hid (-1 ≤ k ∧ k ≤ 256) := by
    show _ ∧ _
    simp only [List.mem_cons, List.not_mem_nil, or_false] at hk
    omega
  clear hk
  go_wp2
  go_ret
  exact ⟨k, rfl, hR.out.1, hR.out.2, hs5, grownBy_trans hg3 (grownBy_trans (World.grownBy_alloc _ _ _) hg5)⟩

def labs : List (List UInt8) := [[100, 101, 114, 105, 118, 101, 100], [99, 32, 104, 115, 32, 116, 114, 97, 102, 102, 105, 99], [102, 105, 110, 105, 115, 104, 101, 100], [97], [], [120, 10], [97, 98, 99, 100, 101, 102, 103, 104, 105, 106, 107, 108, 109, 110, 111, 112, 113, 114, 115, 116, 117, 118, 119, 120, 121, 122, 97, 98, 99, 100, 101, 102, 103, 104, 105, 106, 107, 108, 109, 110, 111]]
def labsV : List Value := labs.map (fun l => .string (strB l))
theorem labsV_at {k : Nat} (h : k < 7) : ∃ l : List UInt8, labsV[k]? = some (.string (strB l)) ∧ l.length ≤ 41 := by
  have hl : k < labs.length := h
  refine ⟨labs[k], by simp [labsV, hl], ?_⟩
  have : ∀ x ∈ labs, x.length ≤ 41 := by unfold labs; decide
  exact this _ (List.getElem_mem hl)

set_option maxRecDepth 4000 in
set_option maxHeartbeats 2000000 in
theorem l3DrawLabel_c (b : Nat) (p : Option Addr) (q : Nat) (cs : List UInt8) (t : Int) (w : World) (hs : Src w b p q cs t) (ht : 0 ≤ t) (ht2 : t ≤ 800000000) :
    Calls Tryd.prog 40 #[.pointer (some ⟨b, 0, none⟩)] w fun e w' => ∃ l : List UInt8, e = .returned (.string (strB l)) ∧ l.length ≤ 41 ∧ Src w' b p q cs (t + 1 + 1) ∧ w.grownBy w' (some b) := by
  have hbl : Hid (b < w.heap.size) := hs.lt
  have A := Arr.new w labsV 9
  go_enter Tryd.func40, Tryd.ntmps40
  go_wp2_with fail
  refine (l1Next_c b p q cs t 7 (w.alloc (.cells labsV.toArray 9)) (hs.keep (alloc_below _ _)) (by omega) (by omega) (by omega) (by omega)).mono ?_
  rintro e w3 ⟨n, rfl, a0, a1, hs3, hg3⟩
  replace A := A.other hg3 (fun e => by have := hbl.out; simp at e; omega)
  have hz3 : Hid (w.heap.size < w3.heap.size) := A.lt
  go_wp2_with fail
  refine (l1Pick_c b p q cs (t + 1) w3.heap.size [0, 1, 2, 3, 0, 1, n] 7 _ (hs3.keep (alloc_below _ _)) (by omega) (by omega) rfl (by decide) (by decide) (by have := hs3.lt; omega) (new_ints _ _ _ [0, 1, 2, 3, 0, 1, n] rfl)).mono ?_
  rintro e w5 ⟨k, hk, rfl, hs5, hg5⟩
  have hR : 0 ≤ k ∧ k < 7 := by
    simp only [List.mem_cons, List.not_mem_nil, or_false] at hk
    omega
  clear hk
  replace A := (A.old _ (.cells #[.int .i64 0, .int .i64 1, .int .i64 2, .int .i64 3, .int .i64 0, .int .i64 1, .int .i64 n] 2)).other hg5 (fun e => by have := hbl.out; simp at e; omega)
  have hg : w.grownBy w5 (some b) := grownBy_trans (World.grownBy_alloc _ _ _) (grownBy_trans hg3 (grownBy_trans (World.grownBy_alloc _ _ _) hg5))
  clear hg3 hg5 hs3
  obtain ⟨k, rfl⟩ := Int.eq_ofNat_of_zero_le hR.1
  obtain ⟨l, hl1, hl2⟩ := labsV_at (k := k) (by omega)
  have hc := (A.cell k).trans hl1
  have hk7 : k < 7 := by omega
  clear A hl1 hR
  go_wp2
  go_ret
  exact ⟨l, rfl, hl2, hs5, hg⟩

set_option maxRecDepth 4000 in
set_option maxHeartbeats 2000000 in
theorem drawExpL_c (p : Option Addr) (q : Nat) (cs : List UInt8) (w : World) (hr : Rd w p q cs) :
    Calls Tryd.prog 19 #[.slice p cs.length q] w fun e w' => ∃ (p1 p2 : Option Addr) (q1 q2 : Nat) (key l ctx : List UInt8) (n : Int), e = .returned (.tuple #[.slice p1 key.length q1, .string (strB l), .slice p2 ctx.length q2, .int .i64 n]) ∧ Rd w' p1 q1 key ∧ Rd w' p2 q2 ctx ∧ key.length ≤ 65 ∧ l.length ≤ 41 ∧ ctx.length ≤ 101 ∧ -1 ≤ n ∧ n ≤ 256 ∧ Below w.heap.size w w' := by
  go_enter Tryd.func19, Tryd.ntmps19
  go_wp2_with fail
  refine (l1Source_c p q cs w hr).mono ?_
  rintro e w1 ⟨rfl, hs1, hb1, hz1⟩
  go_wp2_with fail
  refine (l3DrawKey_c _ p q cs 0 w1 hs1 (by omega) (by omega)).mono ?_
  rintro e w2 ⟨u, key, t2, rfl, hl, ht0, ht1, ho, hs2, hg2⟩
  obtain ⟨p1, q1, rfl, -⟩ := ho.rd
  go_wp2_with fail
  refine (l3DrawLabel_c _ p q cs t2 w2 hs2 (by omega) (by omega)).mono ?_
  rintro e w3 ⟨l, rfl, hl3, hs3, hg3⟩
  replace ho := ho.draw hg3 hz1
  go_wp2_with fail
  refine (l3Context_c _ p q cs (t2 + 1 + 1) w3 hs3 (by omega) (by omega)).mono ?_
  rintro e w4 ⟨u4, ctx, t4, rfl, hl4, ht4, ht5, ho4, hs4, hg4⟩
  obtain ⟨p2, q2, rfl, -⟩ := ho4.rd
  replace ho := ho.draw hg4 hz1
  have hb4 := below_of_grown (below_of_grown (below_of_grown hb1 hg2) hg3) hg4
  have hz3 : Hid (w.heap.size < w3.heap.size) := by have h1 := hg2.size; have h2 := hg3.size; show _ < _; omega
  clear hg2 hg3 hg4
  go_wp2_with fail
  refine (l3DrawN_c _ p q cs t4 w4 hs4 (by omega) (by omega)).mono ?_
  rintro e w5 ⟨n, rfl, hn1, hn2, -, hg5⟩
  replace ho := ho.draw hg5 hz1
  replace ho4 := ho4.draw hg5 hz3.out
  go_wp2
  exact bodyPost_ret (v := .tuple #[.slice p1 key.length q1, .string (strB l), .slice p2 ctx.length q2, .int .i64 n]) (by simp [results, Tryd.results19, go_sem]) rfl ⟨p1, p2, q1, q2, key, l, ctx, n, rfl, Rd.own ho, Rd.own ho4, hl, hl3, hl4, hn1, hn2, below_of_grown hb4 hg5⟩

theorem emod_nat (v : Int) (n : Nat) (h : 0 < n) : ∃ m : Nat, v % (n : Int) = (m : Int) ∧ m < n := by
  have h1 := Int.emod_nonneg v (show (n : Int) ≠ 0 by omega)
  have h2 := Int.emod_lt_of_pos v (show (0 : Int) < (n : Int) by omega)
  exact ⟨(v % (n : Int)).toNat, by omega, by omega⟩

set_option maxRecDepth 4000 in
set_option maxHeartbeats 2000000 in
theorem lwAt_c (p : Option Addr) (q : Nat) (cs : List UInt8) (i n : Nat) (w : World) (hr : Rd w p q cs) (hl : cs.length ≤ 1048576) (hi : i ≤ 1000) (hn : n ≤ 1000000) :
    Calls Tryd.prog 24 #[.slice p cs.length q, .int .i64 (i : Int), .int .i64 (n : Int)] w fun e w' => ∃ m : Nat, e = .returned (.int .i64 (m : Int)) ∧ (m = 0 ∨ m < n) ∧ Below w.heap.size w w' := by
  by_cases h1 : n ≤ 1
  · go_enter Tryd.func24, Tryd.ntmps24
    go_wp2
    go_ret
    exact ⟨0, rfl, .inl rfl, Below.refl _ _⟩
  · have hn0 : ((n : Int) == 0) = false := by rw [beq_eq_false_iff_ne]; omega
    by_cases h2 : cs.length = 0
    · rw [h2]
      have hq : (((i : Int) * 7) % (n : Int)) = ((i * 7 % n : Nat) : Int) := by push_cast; rfl
      go_enter Tryd.func24, Tryd.ntmps24
      go_wp2
      go_ret
      exact ⟨i * 7 % n, by rw [← hq]; rfl, .inr (Nat.mod_lt _ (by omega)), Below.refl _ _⟩
    · have hk0 : ((cs.length : Int) == 0) = false := by rw [beq_eq_false_iff_ne]; omega
      have hd1 : i / cs.length ≤ i := Nat.div_le_self _ _
      have hr1 : i % cs.length < cs.length := Nat.mod_lt _ (by omega)
      have hr2 : (i + 1) % cs.length < cs.length := Nat.mod_lt _ (by omega)
      have e1 : (i : Int) / (cs.length : Int) = ((i / cs.length : Nat) : Int) := by push_cast; rfl
      have e2 : (i : Int) % (cs.length : Int) = ((i % cs.length : Nat) : Int) := by push_cast; rfl
      have e3 : ((i : Int) + 1) % (cs.length : Int) = (((i + 1) % cs.length : Nat) : Int) := by push_cast; rfl
      have et1 : (i : Int).tdiv (cs.length : Int) = ((i / cs.length : Nat) : Int) := by rw [Int.tdiv_eq_ediv_of_nonneg (by omega)]; exact e1
      have et2 : (i : Int).tmod (cs.length : Int) = ((i % cs.length : Nat) : Int) := by rw [Int.tmod_eq_emod_of_nonneg (by omega)]; exact e2
      have et3 : ((i : Int) + 1).tmod (cs.length : Int) = (((i + 1) % cs.length : Nat) : Int) := by rw [Int.tmod_eq_emod_of_nonneg (by omega)]; exact e3
      obtain ⟨b, o, rfl, hc⟩ := hr.2.2.2 (by omega)
      have c1 := hc _ hr1
      have c2 := hc _ hr2
      have h3 := at8_lo cs (i % cs.length)
      have h4 := at8_hi cs (i % cs.length)
      have h5 := at8_lo cs ((i + 1) % cs.length)
      have h6 := at8_hi cs ((i + 1) % cs.length)
      generalize at8 cs (i % cs.length) = x at *
      generalize at8 cs ((i + 1) % cs.length) = y at *
      generalize i / cs.length = d at *
      generalize i % cs.length = r at *
      generalize (i + 1) % cs.length = r2 at *
      have g1 : (r : Int) < (cs.length : Int) := by omega
      have g2 : (r2 : Int) < (cs.length : Int) := by omega
      clear hc hr
      by_cases h7 : 200 < n
      · go_enter Tryd.func24, Tryd.ntmps24
        go_wp2
        go_quiet (fail)
        go_wp2
        obtain ⟨m, hm, hlt⟩ := emod_nat ((x + (d : Int) * 3) * 251 + y) n (by omega)
        go_ret
        exact ⟨m, by rw [← hm]; rfl, .inr hlt, below_drewN (Below.refl _ _) _⟩
      · go_enter Tryd.func24, Tryd.ntmps24
        go_wp2
        go_quiet (fail)
        go_wp2
        obtain ⟨m, hm, hlt⟩ := emod_nat (x + (d : Int) * 3) n (by omega)
        go_ret
        exact ⟨m, by rw [← hm]; rfl, .inr hlt, below_drewN (Below.refl _ _) _⟩
end Go.Proofs.YtajefbaoncmieaaDoor
