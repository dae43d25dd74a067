/- The contracts of the draws of chapter 3: keys, data, labels, contexts, numbers: within bounds, no more. -/
import Derived.Test.YtkhgimoopdnkbaaDoorDrawD
import Derived.Test.YtkhgimoopdnkbaaDoorMac
import Derived.Test.YtkhgimoopdnkbaaDoorArr
import Derived.Test.YtkhgimoopdnkbaaDoorLwAt
namespace Go.Proofs.YtkhgimoopdnkbaaDoor
open Go.ChangeShapes Go.WideShapes Go.ChangeAt Go.RowKit

set_option maxRecDepth 4000 in
set_option maxHeartbeats 1000000 in
theorem l3DrawKey_c (b : Nat) (p : Option Addr) (q : Nat) (cs : List UInt8) (t : Int) (w : World) (hs : Src w b p q cs t) (ht : 0 ≤ t) (ht2 : t ≤ 800000000) :
    Calls Tryd.prog 30 #[.pointer (some ⟨b, 0, none⟩)] w fun e w' => ∃ (u : Value) (bs : List UInt8) (t' : Int), e = .returned u ∧ bs.length ≤ 65 ∧ t ≤ t' ∧ t' ≤ t + 1000 ∧ Own w' w.heap.size u bs ∧ Src w' b p q cs t' ∧ w.grownBy w' (some b) := by
  go_enter Tryd.func30, Tryd.ntmps30
  go_wp2_with fail
  refine (l1Pick_c b p q cs t w.heap.size [32, 32, 32, 0, 1, 20, 64, 65] 8 _ (hs.keep (alloc_below _ _)) ht (by omega) rfl (by decide) (by decide) (by have := hs.lt; omega) (new_ints _ _ _ [32, 32, 32, 0, 1, 20, 64, 65] rfl)).mono ?_
  rintro e w5 ⟨k, hk, rfl, hs5, hg5⟩
  have hR : Hid (0 ≤ k ∧ k ≤ 65) := by
    show _ ∧ _
    simp only [List.mem_cons, List.not_mem_nil, or_false] at hk
    omega
  clear hk
  have hg : w.grownBy w5 (some b) := grownBy_trans (World.grownBy_alloc _ _ _) hg5
  clear hg5
  go_wp2_with fail
  refine (l1Some_c b p q cs (t + 1) k w5 hs5 (by omega) (by omega) hR.out.1 (by have := hR.out.2; omega)).mono ?_
  rintro e w6 ⟨u, bs, rfl, hl, ho, hs6, hg6⟩
  go_wp2
  go_ret
  have h1 := hR.out.1
  have h2 := hR.out.2
  exact ⟨u, bs, _, rfl, by omega, by omega, by omega, ho.lower hg.size, hs6, grownBy_trans hg hg6⟩


/-- A row that was drawn ahead of other draws. -/
theorem Own.draw {w w' : World} {B b : Nat} {v : Value} {bs : List UInt8} (h : Own w B v bs) (hg : w.grownBy w' (some b)) (hb : b < B) : Own w' B v bs :=
  h.other hg (fun k hk e => by have := h.ge k hk; simp at e; omega)


set_option maxRecDepth 4000 in
set_option maxHeartbeats 1000000 in
theorem l3Context_c (b : Nat) (p : Option Addr) (q : Nat) (cs : List UInt8) (t : Int) (w : World) (hs : Src w b p q cs t) (ht : 0 ≤ t) (ht2 : t ≤ 800000000) :
    Calls Tryd.prog 32 #[.pointer (some ⟨b, 0, none⟩)] w fun e w' => ∃ (u : Value) (bs : List UInt8) (t' : Int), e = .returned u ∧ bs.length ≤ 101 ∧ t ≤ t' ∧ t' ≤ t + 1000 ∧ Own w' w.heap.size u bs ∧ Src w' b p q cs t' ∧ w.grownBy w' (some b) := by
  go_enter Tryd.func32, Tryd.ntmps32
  go_wp2_with fail
  refine (l1Next_c b p q cs t 9 w hs (by omega) (by omega) (by omega) (by omega)).mono ?_
  rintro e w3 ⟨n, rfl, a0, a1, hs3, hg3⟩
  go_wp2_with fail
  refine (l1Pick_c b p q cs (t + 1) w3.heap.size [32, 0, n, 100, 101] 5 _ (hs3.keep (alloc_below _ _)) (by omega) (by omega) rfl (by decide) (by decide) (by have := hs3.lt; omega) (new_ints _ _ _ [32, 0, n, 100, 101] rfl)).mono ?_
  rintro e w5 ⟨k, hk, rfl, hs5, hg5⟩
  have hR : Hid (0 ≤ k ∧ k ≤ 101) := by
    show _ ∧ _
    simp only [List.mem_cons, List.not_mem_nil, or_false] at hk
    omega
  clear hk
  have hg : w.grownBy w5 (some b) := grownBy_trans hg3 (grownBy_trans (World.grownBy_alloc _ _ _) hg5)
  clear hg3 hg5 hs3 a0 a1
  go_wp2_with fail
  refine (l1Some_c b p q cs (t + 1 + 1) k w5 hs5 (by omega) (by omega) hR.out.1 (by have := hR.out.2; omega)).mono ?_
  rintro e w6 ⟨u, bs, rfl, hl, ho, hs6, hg6⟩
  go_wp2
  go_ret
  have h1 := hR.out.1
  have h2 := hR.out.2
  exact ⟨u, bs, _, rfl, by omega, by omega, by omega, ho.lower hg.size, hs6, grownBy_trans hg hg6⟩

set_option maxRecDepth 4000 in
set_option maxHeartbeats 1000000 in
theorem l3DrawN_c (b : Nat) (p : Option Addr) (q : Nat) (cs : List UInt8) (t : Int) (w : World) (hs : Src w b p q cs t) (ht : 0 ≤ t) (ht2 : t ≤ 800000000) :
    Calls Tryd.prog 33 #[.pointer (some ⟨b, 0, none⟩)] w fun e w' => ∃ k : Int, e = .returned (.int .i64 k) ∧ -1 ≤ k ∧ k ≤ 256 ∧ Src w' b p q cs (t + 1 + 1) ∧ w.grownBy w' (some b) := by
  go_enter Tryd.func33, Tryd.ntmps33
  go_wp2_with fail
  refine (l1Next_c b p q cs t 100 w hs (by omega) (by omega) (by omega) (by omega)).mono ?_
  rintro e w3 ⟨n, rfl, a0, a1, hs3, hg3⟩
  go_wp2_with fail
  refine (l1Pick_c b p q cs (t + 1) w3.heap.size [32, 16, 12, n, 0, 255, 256, -1] 8 _ (hs3.keep (alloc_below _ _)) (by omega) (by omega) rfl (by decide) (by decide) (by have := hs3.lt; omega) (new_ints _ _ _ [32, 16, 12, n, 0, 255, 256, -1] rfl)).mono ?_
  rintro e w5 ⟨k, hk, rfl, hs5, hg5⟩
  have hR : Hid (-1 ≤ k ∧ k ≤ 256) := by
    show _ ∧ _
    simp only [List.mem_cons, List.not_mem_nil, or_false] at hk
    omega
  clear hk
  go_wp2
  go_ret
  exact ⟨k, rfl, hR.out.1, hR.out.2, hs5, grownBy_trans hg3 (grownBy_trans (World.grownBy_alloc _ _ _) hg5)⟩

def labs : List (List UInt8) := [[100, 101, 114, 105, 118, 101, 100], [99, 32, 104, 115, 32, 116, 114, 97, 102, 102, 105, 99], [102, 105, 110, 105, 115, 104, 101, 100], [97], [], [120, 10], [97, 98, 99, 100, 101, 102, 103, 104, 105, 106, 107, 108, 109, 110, 111, 112, 113, 114, 115, 116, 117, 118, 119, 120, 121, 122, 97, 98, 99, 100, 101, 102, 103, 104, 105, 106, 107, 108, 109, 110, 111]]
def labsV : List Value := labs.map (fun l => .string (strB l))
theorem labsV_at {k : Nat} (h : k < 7) : ∃ l : List UInt8, labsV[k]? = some (.string (strB l)) ∧ l.length ≤ 41 := by
  have hl : k < labs.length := h
  refine ⟨labs[k], by simp [labsV, hl], ?_⟩
  have : ∀ x ∈ labs, x.length ≤ 41 := by unfold labs; decide
  exact this _ (List.getElem_mem hl)

set_option maxRecDepth 4000 in
set_option maxHeartbeats 2000000 in
theorem l3DrawLabel_c (b : Nat) (p : Option Addr) (q : Nat) (cs : List UInt8) (t : Int) (w : World) (hs : Src w b p q cs t) (ht : 0 ≤ t) (ht2 : t ≤ 800000000) :
    Calls Tryd.prog 31 #[.pointer (some ⟨b, 0, none⟩)] w fun e w' => ∃ l : List UInt8, e = .returned (.string (strB l)) ∧ l.length ≤ 41 ∧ Src w' b p q cs (t + 1 + 1) ∧ w.grownBy w' (some b) := by
  have hbl : Hid (b < w.heap.size) := hs.lt
  have A := Arr.new w labsV 9
  go_enter Tryd.func31, Tryd.ntmps31
  go_wp2_with fail
  refine (l1Next_c b p q cs t 7 (w.alloc (.cells labsV.toArray 9)) (hs.keep (alloc_below _ _)) (by omega) (by omega) (by omega) (by omega)).mono ?_
  rintro e w3 ⟨n, rfl, a0, a1, hs3, hg3⟩
  replace A := A.other hg3 (fun e => by have := hbl.out; simp at e; omega)
  have hz3 : Hid (w.heap.size < w3.heap.size) := A.lt
  go_wp2_with fail
  refine (l1Pick_c b p q cs (t + 1) w3.heap.size [0, 1, 2, 3, 0, 1, n] 7 _ (hs3.keep (alloc_below _ _)) (by omega) (by omega) rfl (by decide) (by decide) (by have := hs3.lt; omega) (new_ints _ _ _ [0, 1, 2, 3, 0, 1, n] rfl)).mono ?_
  rintro e w5 ⟨k, hk, rfl, hs5, hg5⟩
  have hR : 0 ≤ k ∧ k < 7 := by
    simp only [List.mem_cons, List.not_mem_nil, or_false] at hk
    omega
  clear hk
  replace A := (A.old _ (.cells #[.int .i64 0, .int .i64 1, .int .i64 2, .int .i64 3, .int .i64 0, .int .i64 1, .int .i64 n] 2)).other hg5 (fun e => by have := hbl.out; simp at e; omega)
  have hg : w.grownBy w5 (some b) := grownBy_trans (World.grownBy_alloc _ _ _) (grownBy_trans hg3 (grownBy_trans (World.grownBy_alloc _ _ _) hg5))
  clear hg3 hg5 hs3
  obtain ⟨k, rfl⟩ := Int.eq_ofNat_of_zero_le hR.1
  obtain ⟨l, hl1, hl2⟩ := labsV_at (k := k) (by omega)
  have hc := (A.cell k).trans hl1
  have hk7 : k < 7 := by omega
  clear A hl1 hR
  go_wp2
  go_ret
  exact ⟨l, rfl, hl2, hs5, hg⟩

set_option maxRecDepth 4000 in
set_option maxHeartbeats 2000000 in
theorem drawExpL_c (p : Option Addr) (q : Nat) (cs : List UInt8) (w : World) (hr : Rd w p q cs) :
    Calls Tryd.prog 9 #[.slice p cs.length q] w fun e w' => ∃ (p1 p2 : Option Addr) (q1 q2 : Nat) (key l ctx : List UInt8) (n : Int), e = .returned (.tuple #[.slice p1 key.length q1, .string (strB l), .slice p2 ctx.length q2, .int .i64 n]) ∧ Rd w' p1 q1 key ∧ Rd w' p2 q2 ctx ∧ key.length ≤ 65 ∧ l.length ≤ 41 ∧ ctx.length ≤ 101 ∧ -1 ≤ n ∧ n ≤ 256 ∧ Below w.heap.size w w' := by
  go_enter Tryd.func9, Tryd.ntmps9
  go_wp2_with fail
  refine (l1Source_c p q cs w hr).mono ?_
  rintro e w1 ⟨rfl, hs1, hb1, hz1⟩
  go_wp2_with fail
  refine (l3DrawKey_c _ p q cs 0 w1 hs1 (by omega) (by omega)).mono ?_
  rintro e w2 ⟨u, key, t2, rfl, hl, ht0, ht1, ho, hs2, hg2⟩
  obtain ⟨p1, q1, rfl, -⟩ := ho.rd
  go_wp2_with fail
  refine (l3DrawLabel_c _ p q cs t2 w2 hs2 (by omega) (by omega)).mono ?_
  rintro e w3 ⟨l, rfl, hl3, hs3, hg3⟩
  replace ho := ho.draw hg3 hz1
  go_wp2_with fail
  refine (l3Context_c _ p q cs (t2 + 1 + 1) w3 hs3 (by omega) (by omega)).mono ?_
  rintro e w4 ⟨u4, ctx, t4, rfl, hl4, ht4, ht5, ho4, hs4, hg4⟩
  obtain ⟨p2, q2, rfl, -⟩ := ho4.rd
  replace ho := ho.draw hg4 hz1
  have hb4 := below_of_grown (below_of_grown (below_of_grown hb1 hg2) hg3) hg4
  have hz3 : Hid (w.heap.size < w3.heap.size) := by have h1 := hg2.size; have h2 := hg3.size; show _ < _; omega
  clear hg2 hg3 hg4
  go_wp2_with fail
  refine (l3DrawN_c _ p q cs t4 w4 hs4 (by omega) (by omega)).mono ?_
  rintro e w5 ⟨n, rfl, hn1, hn2, -, hg5⟩
  replace ho := ho.draw hg5 hz1
  replace ho4 := ho4.draw hg5 hz3.out
  go_wp2
  exact bodyPost_ret (v := .tuple #[.slice p1 key.length q1, .string (strB l), .slice p2 ctx.length q2, .int .i64 n]) (by simp [results, Tryd.results9, go_sem]) rfl ⟨p1, p2, q1, q2, key, l, ctx, n, rfl, Rd.own ho, Rd.own ho4, hl, hl3, hl4, hn1, hn2, below_of_grown hb4 hg5⟩


end Go.Proofs.YtkhgimoopdnkbaaDoor
