/- The contract of the draws of chapter 2: spec.l2Draw, spec.DrawDigestOf: some bytes, at most 601. -/
import Derived.Test.YtajefbaoncmieaaDoorDraws2
namespace Go.Proofs.YtajefbaoncmieaaDoor
open Go.ChangeShapes Go.WideShapes Go.ChangeAt Go.RowKit

set_option maxRecDepth 4000 in
set_option maxHeartbeats 1000000 in
theorem l2Draw_c (b : Nat) (p : Option Addr) (q : Nat) (cs : List UInt8) (t : Int) (w : World) (hs : Src w b p q cs t) (ht : 0 ≤ t) (ht2 : t ≤ 800000000) :
    Calls Tryd.prog 26 #[.pointer (some ⟨b, 0, none⟩)] w fun e w' => ∃ (u : Value) (bs : List UInt8) (t' : Int), e = .returned u ∧ bs.length ≤ 601 ∧ t ≤ t' ∧ t' ≤ t + 1000 ∧ Own w' w.heap.size u bs ∧ Src w' b p q cs t' ∧ w.grownBy w' (some b) := by
  obtain ⟨i0, hi, hz0, hz1, hz2⟩ := info_parts info8
  go_enter Tryd.func26, Tryd.ntmps26
  go_wp2_with fail
  refine (l1Chance_c b p q cs t 30 w hs (by omega) (by omega) (by omega) (by omega)).mono ?_
  rintro e w2 ⟨r, rfl, hs2, hg2⟩
  have hsz := hg2.size
  cases r
  · go_wp2_with fail
    refine (l1Next_c b p q cs (t + 1) 20 w2 hs2 (by omega) (by omega) (by omega) (by omega)).mono ?_
    rintro e w3 ⟨n, rfl, a0, a1, hs3, hg3⟩
    go_wp2_with fail
    refine (l1Next_c b p q cs (t + 1 + 1) 200 w3 hs3 (by omega) (by omega) (by omega) (by omega)).mono ?_
    rintro e w4 ⟨m, rfl, b0, b1, hs4, hg4⟩
    go_wp2_with fail
    refine (l1Pick_c b p q cs (t + 1 + 1 + 1) w4.heap.size [n, 0, 3, 55, 56, 63, 64, 65, 119, 120, m] 11 _ (hs4.keep (alloc_below _ _)) (by omega) (by omega) rfl (by decide) (by decide) (by have := hs4.lt; omega) (new_ints _ _ _ [n, 0, 3, 55, 56, 63, 64, 65, 119, 120, m] rfl)).mono ?_
    rintro e w5 ⟨k, hk, rfl, hs5, hg5⟩
    have hR : Hid (0 ≤ k ∧ k ≤ 200) := by
      show _ ∧ _
      simp only [List.mem_cons, List.not_mem_nil, or_false] at hk
      omega
    clear hk
    have hg : w.grownBy w5 (some b) := grownBy_trans hg2 (grownBy_trans hg3 (grownBy_trans hg4 (grownBy_trans (World.grownBy_alloc _ _ _) hg5)))
    clear hg2 hg3 hg4 hg5 hs2 hs3 hs4 a0 a1 b0 b1
    go_wp2_with fail
    refine (l1Some_c b p q cs (t + 1 + 1 + 1 + 1) k w5 hs5 (by omega) (by omega) hR.out.1 (by have := hR.out.2; omega)).mono ?_
    rintro e w6 ⟨u, bs, rfl, hl, ho, hs6, hg6⟩
    go_wp2
    go_ret
    have h1 := hR.out.1
    have h2 := hR.out.2
    exact ⟨u, bs, _, rfl, by omega, by omega, by omega, ho.lower hg.size, hs6, grownBy_trans hg hg6⟩
  · go_wp2_with (first
      | (at_make; refine wpList_make_full _ rfl (.const (.int .i64 601)) (.const (.int .i64 601)) 22 rfl w.heap.size 5 i0 (.int .u8 0) 1 Tryd.underlying22 hi hz0 hz1 .i64 .i64 _ _ 601 rfl rfl rfl rfl (by rw [hz2]; decide) (by unfold maxLen; decide) hsz ?_; intro w3 hown hgrow)
      | go_in)
    go_ret
    exact ⟨_, zs 601, t + 1, rfl, Nat.le_of_eq (zs_len 601), by omega, by omega, made_zeros hown, hs2.other hgrow (fun k hk => by simp at hk), grownBy_step hg2 hgrow (fun k hk => by simp at hk)⟩

set_option maxRecDepth 4000 in
set_option maxHeartbeats 1000000 in
theorem drawDg_c (p : Option Addr) (q : Nat) (cs : List UInt8) (w : World) (hr : Rd w p q cs) :
    Calls Tryd.prog 7 #[.slice p cs.length q] w fun e w' => ∃ (u : Value) (bs : List UInt8), e = .returned u ∧ bs.length ≤ 601 ∧ Own w' w.heap.size u bs ∧ Below w.heap.size w w' := by
  go_enter Tryd.func7, Tryd.ntmps7
  go_wp2_with fail
  refine (l1Source_c p q cs w hr).mono ?_
  rintro e w1 ⟨rfl, hs1, hb1, hz1⟩
  go_wp2_with fail
  refine (l2Draw_c _ p q cs 0 w1 hs1 (by omega) (by omega)).mono ?_
  rintro e w2 ⟨u, bs, t', rfl, hl, -, -, ho, -, hg2⟩
  go_wp2
  go_ret
  exact ⟨u, bs, rfl, hl, ho.lower hb1.size, below_of_grown hb1 hg2⟩
end Go.Proofs.YtajefbaoncmieaaDoor
