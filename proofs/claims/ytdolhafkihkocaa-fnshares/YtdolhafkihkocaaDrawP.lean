/- The contracts of chapter 8's draws: numbers within bounds. -/
import Derived.Test.YtdolhafkihkocaaDraws
import Derived.Test.YtdolhafkihkocaaDraws2
namespace Go.Proofs.Ytdolhafkihkocaa
open Go.ChangeShapes Go.WideShapes Go.ChangeAt Go.RowKit

set_option maxRecDepth 4000 in
set_option maxHeartbeats 1000000 in
theorem l8Draw_c (b : Nat) (p : Option Addr) (q : Nat) (cs : List UInt8) (t : Int) (w : World) (hs : Src w b p q cs t) (ht : 0 ≤ t) (ht2 : t ≤ 900000000) :
    Calls Try.prog 27 #[.pointer (some ⟨b, 0, none⟩)] w fun e w' => ∃ r : Int, e = .returned (.int .i64 r) ∧ 0 ≤ r ∧ r ≤ 65521 ∧ Src w' b p q cs (t + 4) ∧ w.grownBy w' (some b) := by
  go_enter Try.func27, Try.ntmps27
  go_wp2_with fail
  refine (l1Next_c b p q cs t 90 w hs ht (by omega) (by omega) (by omega)).mono ?_
  rintro e w1 ⟨r1, rfl, a0, a1, hs1, hg1⟩
  go_wp2_with fail
  refine (l1Next_c b p q cs (t + 1) 65519 w1 hs1 (by omega) (by omega) (by omega) (by omega)).mono ?_
  rintro e w2 ⟨r2, rfl, b0, b1, hs2, hg2⟩
  go_wp2_with fail
  refine (l1Next_c b p q cs (t + 1 + 1) 65519 w2 hs2 (by omega) (by omega) (by omega) (by omega)).mono ?_
  rintro e w3 ⟨r3, rfl, c0, c1, hs3, hg3⟩
  go_wp2_with fail
  refine (l1Pick_c b p q cs (t + 1 + 1 + 1) w3.heap.size [1 + r1, 1 + r2, 1 + r3, 1, 65519, 65520, 65521, 0] 8 _ (hs3.keep (alloc_below _ _)) (by omega) (by omega) rfl (by decide) (by decide) (by have := hs3.lt; omega) (new_ints _ _ _ [1 + r1, 1 + r2, 1 + r3, 1, 65519, 65520, 65521, 0] rfl)).mono ?_
  rintro e w4 ⟨r4, hr, rfl, hs4, hg4⟩
  have hR : Hid (0 ≤ r4 ∧ r4 ≤ 65521) := by
    show _ ∧ _
    simp only [List.mem_cons, List.not_mem_nil, or_false] at hr
    omega
  clear hr
  go_wp2
  go_ret
  refine ⟨r4, rfl, hR.out.1, hR.out.2, ?_, grownBy_trans hg1 (grownBy_trans hg2 (grownBy_trans hg3 (grownBy_trans (World.grownBy_alloc _ _ _) hg4)))⟩
  rw [show t + 4 = t + 1 + 1 + 1 + 1 by omega]
  exact hs4

set_option maxRecDepth 4000 in
set_option maxHeartbeats 1000000 in
theorem drawSd_c (p : Option Addr) (q : Nat) (cs : List UInt8) (w : World) (hr : Rd w p q cs) :
    Calls Try.prog 10 #[.slice p cs.length q] w fun e w' => ∃ x y : Int, e = .returned (.tuple #[.int .i64 x, .int .i64 y]) ∧ 0 ≤ x ∧ x ≤ 65521 ∧ 0 ≤ y ∧ y ≤ 65521 ∧ Below w.heap.size w w' := by
  go_enter Try.func10, Try.ntmps10
  go_wp2_with fail
  refine (l1Source_c p q cs w hr).mono ?_
  rintro e w1 ⟨rfl, hs, hb, hlt⟩
  go_wp2_with fail
  refine (l8Draw_c w.heap.size p q cs 0 w1 hs (by omega) (by omega)).mono ?_
  rintro e w2 ⟨x, rfl, x0, x1, hs2, hg2⟩
  go_wp2_with fail
  refine (l8Draw_c w.heap.size p q cs _ w2 hs2 (by omega) (by omega)).mono ?_
  rintro e w3 ⟨y, rfl, y0, y1, hs3, hg3⟩
  have hg := grownBy_trans hg2 hg3
  go_wp2
  exact bodyPost_ret (v := .tuple #[.int .i64 x, .int .i64 y]) (by simp [results, Try.results10, go_sem]) rfl ⟨x, y, rfl, x0, x1, y0, y1, hb.grown hg (Nat.le_of_lt hlt) (fun k hk => by simp at hk; omega)⟩

set_option maxRecDepth 4000 in
set_option maxHeartbeats 1000000 in
theorem drawPo_c (p : Option Addr) (q : Nat) (cs : List UInt8) (w : World) (hr : Rd w p q cs) :
    Calls Try.prog 18 #[.slice p cs.length q] w fun e w' => ∃ x y : Int, e = .returned (.tuple #[.int .i64 x, .int .i64 y]) ∧ 0 ≤ x ∧ x ≤ 65521 ∧ -1 ≤ y ∧ y ≤ 65522 ∧ Below w.heap.size w w' := by
  go_enter Try.func18, Try.ntmps18
  go_wp2_with fail
  refine (l1Source_c p q cs w hr).mono ?_
  rintro e w1 ⟨rfl, hs, hb, hlt⟩
  go_wp2_with fail
  refine (l8Draw_c w.heap.size p q cs 0 w1 hs (by omega) (by omega)).mono ?_
  rintro e w2 ⟨x, rfl, x0, x1, hs2, hg2⟩
  go_wp2_with fail
  refine (l8Draw_c w.heap.size p q cs _ w2 hs2 (by omega) (by omega)).mono ?_
  rintro e w3 ⟨y, rfl, y0, y1, hs3, hg3⟩
  go_wp2_with fail
  refine (l8Draw_c w.heap.size p q cs _ w3 hs3 (by omega) (by omega)).mono ?_
  rintro e w4 ⟨z, rfl, z0, z1, hs4, hg4⟩
  go_wp2_with fail
  refine (l1Pick_c w.heap.size p q cs _ w4.heap.size [y, z, 0, 65521, 65522, -1] 6 _ (hs4.keep (alloc_below _ _)) (by omega) (by omega) rfl (by decide) (by decide) (by have := hs4.lt; omega) (new_ints _ _ _ [y, z, 0, 65521, 65522, -1] rfl)).mono ?_
  rintro e w5 ⟨r, hr5, rfl, hs5, hg5⟩
  have hR : Hid (-1 ≤ r ∧ r ≤ 65522) := by
    show _ ∧ _
    simp only [List.mem_cons, List.not_mem_nil, or_false] at hr5
    omega
  clear hr5
  have hg := grownBy_trans hg2 (grownBy_trans hg3 (grownBy_trans hg4 (grownBy_trans (World.grownBy_alloc _ _ _) hg5)))
  go_wp2
  exact bodyPost_ret (v := .tuple #[.int .i64 x, .int .i64 r]) (by simp [results, Try.results18, go_sem]) rfl ⟨x, r, rfl, x0, x1, hR.out.1, hR.out.2, hb.grown hg (Nat.le_of_lt hlt) (fun k hk => by simp at hk; omega)⟩
end Go.Proofs.Ytdolhafkihkocaa
