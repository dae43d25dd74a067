/- The contracts of the draws of chapter 4: keys, nonces, data, states, counts, bases, numbers: within bounds, no more. -/
import Derived.Test.YtohcohinggjdpaaDrawR
import Derived.Test.YtohcohinggjdpaaDraws2
import Derived.Test.YtohcohinggjdpaaDrawK
namespace Go.Proofs.Ytohcohinggjdpaa
open Go.ChangeShapes Go.WideShapes Go.ChangeAt Go.RowKit

set_option maxRecDepth 4000 in
set_option maxHeartbeats 1000000 in
theorem l4Key_c (b : Nat) (p : Option Addr) (q : Nat) (cs : List UInt8) (t : Int) (w : World) (hs : Src w b p q cs t) (ht : 0 ≤ t) (ht2 : t ≤ 800000000) :
    Calls Try.prog 39 #[.pointer (some ⟨b, 0, none⟩)] w fun e w' => ∃ (u : Value) (bs : List UInt8) (t' : Int), e = .returned u ∧ bs.length ≤ 32 ∧ t ≤ t' ∧ t' ≤ t + 1000 ∧ Own w' w.heap.size u bs ∧ Src w' b p q cs t' ∧ w.grownBy w' (some b) := by
  go_enter Try.func39, Try.ntmps39
  go_wp2_with fail
  refine (l1Pick_c b p q cs t w.heap.size [32, 32, 32, 32, 32, 32, 31, 0] 8 _ (hs.keep (alloc_below _ _)) ht (by omega) rfl (by decide) (by decide) (by have := hs.lt; omega) (new_ints _ _ _ [32, 32, 32, 32, 32, 32, 31, 0] rfl)).mono ?_
  rintro e w5 ⟨k, hk, rfl, hs5, hg5⟩
  have hR : Hid (0 ≤ k ∧ k ≤ 32) := by
    show _ ∧ _
    simp only [List.mem_cons, List.not_mem_nil, or_false] at hk
    omega
  clear hk
  have hg : w.grownBy w5 (some b) := grownBy_trans (World.grownBy_alloc _ _ _) hg5
  clear hg5
  go_wp2_with fail
  refine (l1Some_c b p q cs (t + 1) k w5 hs5 (by omega) (by omega) hR.out.1 (by have := hR.out.2; omega)).mono ?_
  rintro e w6 ⟨u, bs, rfl, hl, ho, hs6, hg6⟩
  go_wp2
  go_ret
  have h1 := hR.out.1
  have h2 := hR.out.2
  exact ⟨u, bs, _, rfl, by omega, by omega, by omega, ho.lower hg.size, hs6, grownBy_trans hg hg6⟩

set_option maxRecDepth 4000 in
set_option maxHeartbeats 1000000 in
theorem l4DrawNonce_c (b : Nat) (p : Option Addr) (q : Nat) (cs : List UInt8) (t : Int) (w : World) (hs : Src w b p q cs t) (ht : 0 ≤ t) (ht2 : t ≤ 800000000) :
    Calls Try.prog 40 #[.pointer (some ⟨b, 0, none⟩)] w fun e w' => ∃ (u : Value) (bs : List UInt8) (t' : Int), e = .returned u ∧ bs.length ≤ 12 ∧ t ≤ t' ∧ t' ≤ t + 1000 ∧ Own w' w.heap.size u bs ∧ Src w' b p q cs t' ∧ w.grownBy w' (some b) := by
  go_enter Try.func40, Try.ntmps40
  go_wp2_with fail
  refine (l1Pick_c b p q cs t w.heap.size [12, 12, 12, 12, 12, 12, 11, 0] 8 _ (hs.keep (alloc_below _ _)) ht (by omega) rfl (by decide) (by decide) (by have := hs.lt; omega) (new_ints _ _ _ [12, 12, 12, 12, 12, 12, 11, 0] rfl)).mono ?_
  rintro e w5 ⟨k, hk, rfl, hs5, hg5⟩
  have hR : Hid (0 ≤ k ∧ k ≤ 12) := by
    show _ ∧ _
    simp only [List.mem_cons, List.not_mem_nil, or_false] at hk
    omega
  clear hk
  have hg : w.grownBy w5 (some b) := grownBy_trans (World.grownBy_alloc _ _ _) hg5
  clear hg5
  go_wp2_with fail
  refine (l1Some_c b p q cs (t + 1) k w5 hs5 (by omega) (by omega) hR.out.1 (by have := hR.out.2; omega)).mono ?_
  rintro e w6 ⟨u, bs, rfl, hl, ho, hs6, hg6⟩
  go_wp2
  go_ret
  have h1 := hR.out.1
  have h2 := hR.out.2
  exact ⟨u, bs, _, rfl, by omega, by omega, by omega, ho.lower hg.size, hs6, grownBy_trans hg hg6⟩

set_option maxRecDepth 4000 in
set_option maxHeartbeats 1000000 in
theorem drawStart_c (p : Option Addr) (q : Nat) (cs : List UInt8) (w : World) (hr : Rd w p q cs) :
    Calls Try.prog 20 #[.slice p cs.length q] w fun e w' => ∃ (p1 p2 : Option Addr) (q1 q2 : Nat) (key nonce : List UInt8) (n : Int), e = .returned (.tuple #[.slice p1 key.length q1, .slice p2 nonce.length q2, .int .i64 n]) ∧ Rd w' p1 q1 key ∧ Rd w' p2 q2 nonce ∧ key.length ≤ 32 ∧ nonce.length ≤ 12 ∧ Below w.heap.size w w' := by
  go_enter Try.func20, Try.ntmps20
  go_wp2_with fail
  refine (l1Source_c p q cs w hr).mono ?_
  rintro e w1 ⟨rfl, hs1, hb1, hz1⟩
  go_wp2_with fail
  refine (l4Key_c _ p q cs 0 w1 hs1 (by omega) (by omega)).mono ?_
  rintro e w2 ⟨u, key, t2, rfl, hl, ht0, ht1, ho, hs2, hg2⟩
  obtain ⟨p1, q1, rfl, -⟩ := ho.rd
  go_wp2_with fail
  refine (l4DrawNonce_c _ p q cs t2 w2 hs2 (by omega) (by omega)).mono ?_
  rintro e w3 ⟨u3, nonce, t3, rfl, hl3, ht3, ht4, ho3, hs3, hg3⟩
  obtain ⟨p2, q2, rfl, -⟩ := ho3.rd
  replace ho := ho.draw hg3 hz1
  have hb3 := below_of_grown (below_of_grown hb1 hg2) hg3
  have hz2 : Hid (w.heap.size < w2.heap.size) := by have := hg2.size; show _ < _; omega
  have hz3 := hs3.lt
  clear hg2 hg3
  go_wp2_with fail
  refine (l1Pick_c _ p q cs t3 w3.heap.size [0, 1, 2, 4294967295, 4294967296, -1] 6 _ (hs3.keep (alloc_below _ _)) (by omega) (by omega) rfl (by decide) (by decide) (by omega) (new_ints _ _ _ [0, 1, 2, 4294967295, 4294967296, -1] rfl)).mono ?_
  rintro e w4 ⟨n, -, rfl, -, hg4⟩
  have hg5 := grownBy_trans (World.grownBy_alloc w3 _ _) hg4
  replace ho := ho.draw hg5 hz1
  replace ho3 := ho3.draw hg5 hz2.out
  have hb4 := below_of_grown hb3 hg5
  clear hg4 hg5
  go_wp2
  exact bodyPost_ret (v := .tuple #[.slice p1 key.length q1, .slice p2 nonce.length q2, .int .i64 n]) (by simp [results, Try.results20, go_sem]) rfl ⟨p1, p2, q1, q2, key, nonce, n, rfl, Rd.own ho, Rd.own ho3, hl, hl3, hb4⟩

set_option maxRecDepth 4000 in
set_option maxHeartbeats 1000000 in
theorem drawNonce_c (p : Option Addr) (q : Nat) (cs : List UInt8) (w : World) (hr : Rd w p q cs) :
    Calls Try.prog 22 #[.slice p cs.length q] w fun e w' => ∃ (p1 : Option Addr) (q1 : Nat) (base : List UInt8) (n : Int), e = .returned (.tuple #[.slice p1 base.length q1, .int .i64 n]) ∧ Rd w' p1 q1 base ∧ base.length ≤ 12 ∧ Below w.heap.size w w' := by
  go_enter Try.func22, Try.ntmps22
  go_wp2_with fail
  refine (l1Source_c p q cs w hr).mono ?_
  rintro e w1 ⟨rfl, hs1, hb1, hz1⟩
  go_wp2_with fail
  refine (l4DrawNonce_c _ p q cs 0 w1 hs1 (by omega) (by omega)).mono ?_
  rintro e w2 ⟨u, base, t2, rfl, hl, ht0, ht1, ho, hs2, hg2⟩
  obtain ⟨p1, q1, rfl, -⟩ := ho.rd
  have hb2 := below_of_grown hb1 hg2
  clear hg2
  go_wp2_with fail
  refine (l1Next_c _ p q cs t2 99 w2 hs2 (by omega) (by omega) (by omega) (by omega)).mono ?_
  rintro e w3 ⟨r, rfl, -, -, hs3, hg3⟩
  replace ho := ho.draw hg3 hz1
  have hb3 := below_of_grown hb2 hg3
  have hz3 := hs3.lt
  clear hg3
  go_wp2_with fail
  refine (l1Pick_c _ p q cs (t2 + 1) w3.heap.size [r, 0, 256, 2147483648, 2147483649, -1] 6 _ (hs3.keep (alloc_below _ _)) (by omega) (by omega) rfl (by decide) (by decide) (by omega) (new_ints _ _ _ [r, 0, 256, 2147483648, 2147483649, -1] rfl)).mono ?_
  rintro e w4 ⟨n, -, rfl, -, hg4⟩
  have hg5 := grownBy_trans (World.grownBy_alloc w3 _ _) hg4
  replace ho := ho.draw hg5 hz1
  have hb4 := below_of_grown hb3 hg5
  clear hg4 hg5
  go_wp2
  exact bodyPost_ret (v := .tuple #[.slice p1 base.length q1, .int .i64 n]) (by simp [results, Try.results22, go_sem]) rfl ⟨p1, q1, base, n, rfl, Rd.own ho, hl, hb4⟩

set_option maxRecDepth 4000 in
set_option maxHeartbeats 1000000 in
theorem drawXor_c (p : Option Addr) (q : Nat) (cs : List UInt8) (w : World) (hr : Rd w p q cs) :
    Calls Try.prog 10 #[.slice p cs.length q] w fun e w' => ∃ (p1 p2 p3 : Option Addr) (q1 q2 q3 : Nat) (key nonce data : List UInt8), e = .returned (.tuple #[.slice p1 key.length q1, .slice p2 nonce.length q2, .slice p3 data.length q3]) ∧ Rd w' p1 q1 key ∧ Rd w' p2 q2 nonce ∧ Rd w' p3 q3 data ∧ key.length ≤ 32 ∧ nonce.length ≤ 12 ∧ data.length ≤ 221 ∧ Below w.heap.size w w' := by
  go_enter Try.func10, Try.ntmps10
  go_wp2_with fail
  refine (l1Source_c p q cs w hr).mono ?_
  rintro e w1 ⟨rfl, hs1, hb1, hz1⟩
  go_wp2_with fail
  refine (l4Key_c _ p q cs 0 w1 hs1 (by omega) (by omega)).mono ?_
  rintro e w2 ⟨u, key, t2, rfl, hl, ht0, ht1, ho, hs2, hg2⟩
  obtain ⟨p1, q1, rfl, -⟩ := ho.rd
  go_wp2_with fail
  refine (l4DrawNonce_c _ p q cs t2 w2 hs2 (by omega) (by omega)).mono ?_
  rintro e w3 ⟨u3, nonce, t3, rfl, hl3, ht3, ht4, ho3, hs3, hg3⟩
  obtain ⟨p2, q2, rfl, -⟩ := ho3.rd
  replace ho := ho.draw hg3 hz1
  have hb3 := below_of_grown (below_of_grown hb1 hg2) hg3
  have hz2 : Hid (w.heap.size < w2.heap.size) := by have := hg2.size; show _ < _; omega
  have hz3 : Hid (w.heap.size < w3.heap.size) := hs3.lt
  clear hg2 hg3
  go_wp2_with fail
  refine (l1Next_c _ p q cs t3 20 w3 hs3 (by omega) (by omega) (by omega) (by omega)).mono ?_
  rintro e w4 ⟨n, rfl, a0, a1, hs4, hg4⟩
  go_wp2_with fail
  refine (l1Next_c _ p q cs (t3 + 1) 150 w4 hs4 (by omega) (by omega) (by omega) (by omega)).mono ?_
  rintro e w5 ⟨m, rfl, b0, b1, hs5, hg5⟩
  go_wp2_with fail
  refine (l1Pick_c _ p q cs (t3 + 1 + 1) w5.heap.size [n, m, 64, 65, 220, 221] 6 _ (hs5.keep (alloc_below _ _)) (by omega) (by omega) rfl (by decide) (by decide) (by have := hs5.lt; omega) (new_ints _ _ _ [n, m, 64, 65, 220, 221] rfl)).mono ?_
  rintro e w6 ⟨k, hk, rfl, hs6, hg6⟩
  have hR : Hid (0 ≤ k ∧ k ≤ 221) := by
    show _ ∧ _
    simp only [List.mem_cons, List.not_mem_nil, or_false] at hk
    omega
  clear hk a0 a1 b0 b1
  have hg : w3.grownBy w6 (some w.heap.size) := grownBy_trans hg4 (grownBy_trans hg5 (grownBy_trans (World.grownBy_alloc _ _ _) hg6))
  replace ho := ho.draw hg hz1
  replace ho3 := ho3.draw hg hz2.out
  have hb6 := below_of_grown hb3 hg
  have hz6 : Hid (w.heap.size < w6.heap.size) := hs6.lt
  clear hg4 hg5 hg6 hg hs4 hs5
  go_wp2_with fail
  refine (l1Some_c _ p q cs (t3 + 1 + 1 + 1) k w6 hs6 (by omega) (by omega) hR.out.1 (by have := hR.out.2; omega)).mono ?_
  rintro e w7 ⟨u7, data, rfl, hl7, ho7, -, hg7⟩
  obtain ⟨p3, q3, rfl, -⟩ := ho7.rd
  replace ho := ho.draw hg7 hz1
  replace ho3 := ho3.draw hg7 hz2.out
  have hb7 := below_of_grown hb6 hg7
  have hR1 := hR.out.1
  have hR2 := hR.out.2
  have hl8 : data.length ≤ 221 := by omega
  clear hg7 hl7
  go_wp2
  exact bodyPost_ret (v := .tuple #[.slice p1 key.length q1, .slice p2 nonce.length q2, .slice p3 data.length q3]) (by simp [results, Try.results10, go_sem]) rfl ⟨p1, p2, p3, q1, q2, q3, key, nonce, data, rfl, Rd.own ho, Rd.own ho3, Rd.own ho7, hl, hl3, hl8, hb7⟩

set_option maxRecDepth 4000 in
set_option maxHeartbeats 4000000 in
theorem drawQuarter_c (p : Option Addr) (q : Nat) (cs : List UInt8) (w : World) (hr : Rd w p q cs) :
    Calls Try.prog 17 #[.slice p cs.length q] w fun e w' => ∃ (u : Value) (l : List Int) (a b c d : Int), e = .returned (.tuple #[u, .int .i64 a, .int .i64 b, .int .i64 c, .int .i64 d]) ∧ OwnI w' w.heap.size u l ∧ Below w.heap.size w w' := by
  go_enter Try.func17, Try.ntmps17
  go_wp2_with fail
  refine (l1Source_c p q cs w hr).mono ?_
  rintro e w1 ⟨rfl, hs1, hb1, hz1⟩
  have ho1 : OwnI (w1.alloc (.cells #[] 2)) (w.heap.size + 1) (.slice (some ⟨w1.heap.size, 0, none⟩) 0 0) [] :=
    World.ownsRow_lit (base := w.heap.size + 1) (e := 2) (size := 1) w1 #[] 0 hz1 (by unfold maxLen; decide) (by simp)
  have hs2 := hs1.keep (alloc_below w1 (Obj.cells #[] 2))
  have hb2 := Below.mk hb1 (Obj.cells #[] 2)
  clear hs1 hb1
  go_wp2_with fail
  refine (l1Pick_c _ p q cs 0 (w1.heap.size + 1) [16, 16, 16, 16, 16, 15, 0] 7 _ (hs2.keep (alloc_below _ _)) (by omega) (by omega) rfl (by decide) (by decide) (by omega) (by have h := new_ints (w1.alloc (.cells #[] 2)) #[.int .i64 16, .int .i64 16, .int .i64 16, .int .i64 16, .int .i64 16, .int .i64 15, .int .i64 0] 2 [16, 16, 16, 16, 16, 15, 0] rfl; rw [size_alloc] at h; exact h)).mono ?_
  rintro e w3 ⟨k0, hk0, rfl, hs3, hg3⟩
  have hK : 0 ≤ k0 ∧ k0 ≤ 16 := by
    simp only [List.mem_cons, List.not_mem_nil, or_false] at hk0
    omega
  have hg3' := grownBy_trans (World.grownBy_alloc (w1.alloc (.cells #[] 2)) _ _) hg3
  have ho3 := ho1.other hg3' (fun j hj e => by have := ho1.ge j hj; simp at e; omega)
  have hb3 := below_of_grown hb2 hg3'
  clear hk0 hg3 hg3' ho1 hs2 hb2 hr
  go_wp2
  go_loopw [8, 9] (fun v i wr => ∃ (l : List Int) (k : Int), 0 ≤ k ∧ k + l.length = k0 ∧ i = .int .i64 k ∧ OwnI wr (w.heap.size + 1) v l ∧ Src wr w.heap.size p q cs (0 + 1 + 3 * (l.length : Int)) ∧ Below w.heap.size w wr)
    (fun _ i _ => (intOf i).toNat)
  case atStart => exact ⟨[], k0, hK.1, by simp, rfl, ho3, by simpa using hs3, hb3⟩
  case round =>
    clear ho3 hs3 hb3
    obtain ⟨l, k, hk, hlk, rfl, ho, hs, hbel⟩ := hrel
    obtain ⟨a2, c2, rfl, -⟩ := ho.rd
    have hl9 : l.length ≤ 16 := by omega
    by_cases hpos : 0 < k
    · go_wp2_with fail
      refine (l1Draw_c _ p q cs (0 + 1 + 3 * (l.length : Int)) _ hs (by omega) (by omega)).mono ?_
      rintro e w4 ⟨r, rfl, -, -, hs4, hg4⟩
      have ho4 := ho.other hg4 (fun j hj e => by have := ho.ge j hj; simp at e; omega)
      have hb4 := below_of_grown hbel hg4
      have hs5 := hs4.keep (alloc_below w4 (Obj.cells #[.int .i64 r] 2))
      have ho5 := ho4.stay (alloc_below w4 (Obj.cells #[.int .i64 r] 2))
      have hb5 := Below.mk hb4 (Obj.cells #[.int .i64 r] 2)
      have hz5 := hs5.lt
      clear ho hs hbel hg4 hs4 hb4
      go_wp2_with (first
        | (at_builtin; refine wpList_append_rdI rfl (.tmp 22) (.tmp 25) rfl (w.heap.size + 1) _ l rfl ho5 _ 1 [r] rfl (rdI_one w4 r _) (by simp; omega) hz5 ?_; intro v6 w6 ho6 hg6)
        | go_in)
      have hs6 := hs5.other hg6 (fun j hj => by have := ho5.ge j hj; omega)
      have hb6 := hb5.grown hg6 hb5.size (fun j hj => by have := ho5.ge j hj; omega)
      rw [show (0 + 1 + 3 * (l.length : Int) + 3) = 0 + 1 + 3 * ((l ++ [r]).length : Int) by simp; omega] at hs6
      clear ho4 ho5 hs5 hb5 hg6
      go_roundw
      case rel => exact ⟨l ++ [r], k - 1, by omega, by simp; omega, by go_num, ho6, hs6, hb6⟩
      case measure => simp [intOf]; omega
    · by_cases h0 : l.length = 0
      · have hgd : ¬ ((0 : Int) < (l.length : Int)) := by omega
        have HL0 : Hid (l.length = 0) := h0
        clear h0
        go_wp2_with fail
        refine (l1Next_c _ p q cs (0 + 1 + 3 * (l.length : Int)) 4 _ hs (by omega) (by omega) (by omega) (by omega)).mono ?_
        rintro e x1 ⟨ra, rfl, -, -, s1, g1⟩
        go_wp2_with fail
        refine (l1Next_c _ p q cs (0 + 1 + 3 * (l.length : Int) + 1) 4 _ s1 (by omega) (by omega) (by omega) (by omega)).mono ?_
        rintro e x2 ⟨rd, rfl, d0, d1, s2, g2⟩
        go_wp2_with fail
        refine (l1Chance_c _ p q cs (0 + 1 + 3 * (l.length : Int) + 1 + 1) 12 _ s2 (by omega) (by omega) (by decide) (by decide)).mono ?_
        rintro e x3 ⟨rc, rfl, s3, g3⟩
        cases rc
        · go_wp2_with fail
          refine (l1Next_c _ p q cs (0 + 1 + 3 * (l.length : Int) + 1 + 1 + 1) 4 _ s3 (by omega) (by omega) (by omega) (by omega)).mono ?_
          rintro e x5 ⟨rb, rfl, b0, b1, s5, g5⟩
          go_wp2_with fail
          refine (l1Next_c _ p q cs (0 + 1 + 3 * (l.length : Int) + 1 + 1 + 1 + 1) 4 _ s5 (by omega) (by omega) (by omega) (by omega)).mono ?_
          rintro e x6 ⟨rk, rfl, k0, k1, -, g6⟩
          have GG := grownBy_trans g1 (grownBy_trans g2 (grownBy_trans g3 (grownBy_trans g5 g6)))
          have OO := ho.other GG (fun j hj e => by have := ho.ge j hj; simp at e; omega)
          have BB := below_of_grown hbel GG
          clear g1 g2 g3 g5 g6 s1 s2 s3 s5 GG
          go_wp2
          exact bodyPost_ret (v := .tuple #[.slice a2 l.length c2, .int .i64 ra, .int .i64 (4 + rb), .int .i64 (8 + rk), .int .i64 (12 + rd)]) (by simp [results, Try.results17, go_sem]) rfl ⟨_, _, ra, 4 + rb, 8 + rk, (12 + rd), rfl, OO.lower (Nat.le_succ _), BB⟩
        · go_wp2_with fail
          refine (l1Pick_c _ p q cs (0 + 1 + 3 * (l.length : Int) + 1 + 1 + 1) x3.heap.size [ra, 16, -1] 3 _ (s3.keep (alloc_below _ _)) (by omega) (by omega) rfl (by decide) (by decide) (by have := s3.lt; omega) (new_ints _ _ _ [ra, 16, -1] rfl)).mono ?_
          rintro e x4 ⟨rp, -, rfl, s4, g4⟩
          go_wp2_with fail
          refine (l1Next_c _ p q cs (0 + 1 + 3 * (l.length : Int) + 1 + 1 + 1 + 1) 4 _ s4 (by omega) (by omega) (by omega) (by omega)).mono ?_
          rintro e x5 ⟨rb, rfl, b0, b1, s5, g5⟩
          go_wp2_with fail
          refine (l1Next_c _ p q cs (0 + 1 + 3 * (l.length : Int) + 1 + 1 + 1 + 1 + 1) 4 _ s5 (by omega) (by omega) (by omega) (by omega)).mono ?_
          rintro e x6 ⟨rk, rfl, k0, k1, -, g6⟩
          have GG := grownBy_trans g1 (grownBy_trans g2 (grownBy_trans g3 (grownBy_trans (World.grownBy_alloc _ _ _) (grownBy_trans g4 (grownBy_trans g5 g6)))))
          have OO := ho.other GG (fun j hj e => by have := ho.ge j hj; simp at e; omega)
          have BB := below_of_grown hbel GG
          clear g1 g2 g3 g5 g6 s1 s2 s3 s5 GG g4 s4
          go_wp2
          exact bodyPost_ret (v := .tuple #[.slice a2 l.length c2, .int .i64 ra, .int .i64 (4 + rb), .int .i64 (8 + rk), .int .i64 rp]) (by simp [results, Try.results17, go_sem]) rfl ⟨_, _, ra, 4 + rb, 8 + rk, rp, rfl, OO.lower (Nat.le_succ _), BB⟩
      · have hgd : (0 : Int) < (l.length : Int) := by omega
        go_wp2_with fail
        refine (l1Chance_c _ p q cs (0 + 1 + 3 * (l.length : Int)) 12 _ hs (by omega) (by omega) (by decide) (by decide)).mono ?_
        rintro e w4 ⟨c, rfl, hs4, hg4⟩
        have ho4 := ho.other hg4 (fun j hj e => by have := ho.ge j hj; simp at e; omega)
        have hb4 := below_of_grown hbel hg4
        clear ho hs hbel hg4
        cases c
        · skip
          go_wp2_with fail
          refine (l1Next_c _ p q cs (0 + 1 + 3 * (l.length : Int) + 1) 4 _ hs4 (by omega) (by omega) (by omega) (by omega)).mono ?_
          rintro e x1 ⟨ra, rfl, -, -, s1, g1⟩
          go_wp2_with fail
          refine (l1Next_c _ p q cs (0 + 1 + 3 * (l.length : Int) + 1 + 1) 4 _ s1 (by omega) (by omega) (by omega) (by omega)).mono ?_
          rintro e x2 ⟨rd, rfl, d0, d1, s2, g2⟩
          go_wp2_with fail
          refine (l1Chance_c _ p q cs (0 + 1 + 3 * (l.length : Int) + 1 + 1 + 1) 12 _ s2 (by omega) (by omega) (by decide) (by decide)).mono ?_
          rintro e x3 ⟨rc, rfl, s3, g3⟩
          cases rc
          · go_wp2_with fail
            refine (l1Next_c _ p q cs (0 + 1 + 3 * (l.length : Int) + 1 + 1 + 1 + 1) 4 _ s3 (by omega) (by omega) (by omega) (by omega)).mono ?_
            rintro e x5 ⟨rb, rfl, b0, b1, s5, g5⟩
            go_wp2_with fail
            refine (l1Next_c _ p q cs (0 + 1 + 3 * (l.length : Int) + 1 + 1 + 1 + 1 + 1) 4 _ s5 (by omega) (by omega) (by omega) (by omega)).mono ?_
            rintro e x6 ⟨rk, rfl, k0, k1, -, g6⟩
            have GG := grownBy_trans g1 (grownBy_trans g2 (grownBy_trans g3 (grownBy_trans g5 g6)))
            have OO := ho4.other GG (fun j hj e => by have := ho4.ge j hj; simp at e; omega)
            have BB := below_of_grown hb4 GG
            clear g1 g2 g3 g5 g6 s1 s2 s3 s5 GG
            go_wp2
            exact bodyPost_ret (v := .tuple #[.slice a2 l.length c2, .int .i64 ra, .int .i64 (4 + rb), .int .i64 (8 + rk), .int .i64 (12 + rd)]) (by simp [results, Try.results17, go_sem]) rfl ⟨_, _, ra, 4 + rb, 8 + rk, (12 + rd), rfl, OO.lower (Nat.le_succ _), BB⟩
          · go_wp2_with fail
            refine (l1Pick_c _ p q cs (0 + 1 + 3 * (l.length : Int) + 1 + 1 + 1 + 1) x3.heap.size [ra, 16, -1] 3 _ (s3.keep (alloc_below _ _)) (by omega) (by omega) rfl (by decide) (by decide) (by have := s3.lt; omega) (new_ints _ _ _ [ra, 16, -1] rfl)).mono ?_
            rintro e x4 ⟨rp, -, rfl, s4, g4⟩
            go_wp2_with fail
            refine (l1Next_c _ p q cs (0 + 1 + 3 * (l.length : Int) + 1 + 1 + 1 + 1 + 1) 4 _ s4 (by omega) (by omega) (by omega) (by omega)).mono ?_
            rintro e x5 ⟨rb, rfl, b0, b1, s5, g5⟩
            go_wp2_with fail
            refine (l1Next_c _ p q cs (0 + 1 + 3 * (l.length : Int) + 1 + 1 + 1 + 1 + 1 + 1) 4 _ s5 (by omega) (by omega) (by omega) (by omega)).mono ?_
            rintro e x6 ⟨rk, rfl, k0, k1, -, g6⟩
            have GG := grownBy_trans g1 (grownBy_trans g2 (grownBy_trans g3 (grownBy_trans (World.grownBy_alloc _ _ _) (grownBy_trans g4 (grownBy_trans g5 g6)))))
            have OO := ho4.other GG (fun j hj e => by have := ho4.ge j hj; simp at e; omega)
            have BB := below_of_grown hb4 GG
            clear g1 g2 g3 g5 g6 s1 s2 s3 s5 GG g4 s4
            go_wp2
            exact bodyPost_ret (v := .tuple #[.slice a2 l.length c2, .int .i64 ra, .int .i64 (4 + rb), .int .i64 (8 + rk), .int .i64 rp]) (by simp [results, Try.results17, go_sem]) rfl ⟨_, _, ra, 4 + rb, 8 + rk, rp, rfl, OO.lower (Nat.le_succ _), BB⟩
        · go_wp2_with fail
          refine (l1Pick_c _ p q cs (0 + 1 + 3 * (l.length : Int) + 1) w4.heap.size [-1, 4294967296] 2 _ (hs4.keep (alloc_below _ _)) (by omega) (by omega) rfl (by decide) (by decide) (by have := hs4.lt; omega) (new_ints _ _ _ [-1, 4294967296] rfl)).mono ?_
          rintro e w5 ⟨r, -, rfl, hs5, hg5⟩
          have hg5' := grownBy_trans (World.grownBy_alloc w4 _ _) hg5
          have ho5 := ho4.other hg5' (fun j hj e => by have := ho4.ge j hj; simp at e; omega)
          have hb5 := below_of_grown hb4 hg5'
          clear ho4 hs4 hb4 hg5 hg5'
          obtain ⟨g, rfl⟩ : ∃ g, a2 = some ⟨g, 0, none⟩ := by
            rcases ho5.2 with ⟨e, -⟩ | ⟨g, cap, cur, e, -⟩
            · have h2 := (Value.slice.inj e).2.1; omega
            · simp at e; exact ⟨g, e.1⟩
          have hcx : w5.cell? ⟨g, 0, none⟩ = some (.int .i64 (atI l 0)) := by rw [World.ownsRow.cellAt ho5 0 (by omega), i64z_at (by omega)]
          have hfx := World.ownsRow.frozenAt ho5 0
          have R := World.ownsRow.stored ho5 0 (.int .i64 r)
          have hR : OwnI (w5.setCell ⟨g, 0, none⟩ (.int .i64 r)) (w.heap.size + 1) (.slice (some ⟨g, 0, none⟩) l.length c2) (l.set 0 r) := by
            unfold OwnI; rw [List.length_set, List.map_set]; exact R.1
          have hge : w.heap.size + 1 ≤ g := ho5.ge g rfl
          have hS := hs5.other R.2 (fun j hj => by simp at hj; omega)
          have hB := hb5.grown R.2 hb5.size (fun j hj => by simp at hj; omega)
          clear R ho5 hs5 hb5
          go_wp2_with fail
          refine (l1Next_c _ p q cs (0 + 1 + 3 * (l.length : Int) + 1 + 1) 4 _ hS (by omega) (by omega) (by omega) (by omega)).mono ?_
          rintro e x1 ⟨ra, rfl, -, -, s1, g1⟩
          go_wp2_with fail
          refine (l1Next_c _ p q cs (0 + 1 + 3 * (l.length : Int) + 1 + 1 + 1) 4 _ s1 (by omega) (by omega) (by omega) (by omega)).mono ?_
          rintro e x2 ⟨rd, rfl, d0, d1, s2, g2⟩
          go_wp2_with fail
          refine (l1Chance_c _ p q cs (0 + 1 + 3 * (l.length : Int) + 1 + 1 + 1 + 1) 12 _ s2 (by omega) (by omega) (by decide) (by decide)).mono ?_
          rintro e x3 ⟨rc, rfl, s3, g3⟩
          cases rc
          · go_wp2_with fail
            refine (l1Next_c _ p q cs (0 + 1 + 3 * (l.length : Int) + 1 + 1 + 1 + 1 + 1) 4 _ s3 (by omega) (by omega) (by omega) (by omega)).mono ?_
            rintro e x5 ⟨rb, rfl, b0, b1, s5, g5⟩
            go_wp2_with fail
            refine (l1Next_c _ p q cs (0 + 1 + 3 * (l.length : Int) + 1 + 1 + 1 + 1 + 1 + 1) 4 _ s5 (by omega) (by omega) (by omega) (by omega)).mono ?_
            rintro e x6 ⟨rk, rfl, k0, k1, -, g6⟩
            have GG := grownBy_trans g1 (grownBy_trans g2 (grownBy_trans g3 (grownBy_trans g5 g6)))
            have OO := hR.other GG (fun j hj e => by have := hR.ge j hj; simp at e; omega)
            have BB := below_of_grown hB GG
            clear g1 g2 g3 g5 g6 s1 s2 s3 s5 GG
            go_wp2
            exact bodyPost_ret (v := .tuple #[.slice (some ⟨g, 0, none⟩) l.length c2, .int .i64 ra, .int .i64 (4 + rb), .int .i64 (8 + rk), .int .i64 (12 + rd)]) (by simp [results, Try.results17, go_sem]) rfl ⟨_, _, ra, 4 + rb, 8 + rk, (12 + rd), rfl, OO.lower (Nat.le_succ _), BB⟩
          · go_wp2_with fail
            refine (l1Pick_c _ p q cs (0 + 1 + 3 * (l.length : Int) + 1 + 1 + 1 + 1 + 1) x3.heap.size [ra, 16, -1] 3 _ (s3.keep (alloc_below _ _)) (by omega) (by omega) rfl (by decide) (by decide) (by have := s3.lt; omega) (new_ints _ _ _ [ra, 16, -1] rfl)).mono ?_
            rintro e x4 ⟨rp, -, rfl, s4, g4⟩
            go_wp2_with fail
            refine (l1Next_c _ p q cs (0 + 1 + 3 * (l.length : Int) + 1 + 1 + 1 + 1 + 1 + 1) 4 _ s4 (by omega) (by omega) (by omega) (by omega)).mono ?_
            rintro e x5 ⟨rb, rfl, b0, b1, s5, g5⟩
            go_wp2_with fail
            refine (l1Next_c _ p q cs (0 + 1 + 3 * (l.length : Int) + 1 + 1 + 1 + 1 + 1 + 1 + 1) 4 _ s5 (by omega) (by omega) (by omega) (by omega)).mono ?_
            rintro e x6 ⟨rk, rfl, k0, k1, -, g6⟩
            have GG := grownBy_trans g1 (grownBy_trans g2 (grownBy_trans g3 (grownBy_trans (World.grownBy_alloc _ _ _) (grownBy_trans g4 (grownBy_trans g5 g6)))))
            have OO := hR.other GG (fun j hj e => by have := hR.ge j hj; simp at e; omega)
            have BB := below_of_grown hB GG
            clear g1 g2 g3 g5 g6 s1 s2 s3 s5 GG g4 s4
            go_wp2
            exact bodyPost_ret (v := .tuple #[.slice (some ⟨g, 0, none⟩) l.length c2, .int .i64 ra, .int .i64 (4 + rb), .int .i64 (8 + rk), .int .i64 rp]) (by simp [results, Try.results17, go_sem]) rfl ⟨_, _, ra, 4 + rb, 8 + rk, rp, rfl, OO.lower (Nat.le_succ _), BB⟩
end Go.Proofs.Ytohcohinggjdpaa
