/- The contract of chapter 7's draw for FnSchedules: a key, and some bytes, two at least. -/
import Derived.Test.YthkiabcbpkhgiaaDoorJoint6
namespace Go.Proofs.YthkiabcbpkhgiaaDoor
open Go.ChangeShapes Go.WideShapes Go.ChangeAt Go.RowKit

set_option maxRecDepth 4000 in
set_option maxHeartbeats 1000000 in
theorem drawHs_c (p : Option Addr) (q : Nat) (cs : List UInt8) (w : World) (hr : Rd w p q cs) :
    Calls Tryd.prog 10 #[.slice p cs.length q] w fun e w' => ∃ (p1 p2 : Option Addr) (q1 q2 : Nat) (x y : List UInt8), e = .returned (.tuple #[.slice p1 x.length q1, .slice p2 y.length q2]) ∧ Rd w' p1 q1 x ∧ Rd w' p2 q2 y ∧ x.length ≤ 32 ∧ 2 ≤ y.length ∧ y.length ≤ 65 ∧ Below w.heap.size w w' := by
  go_enter Tryd.func10, Tryd.ntmps10
  go_wp2_with fail
  refine (l1Source_c p q cs w hr).mono ?_
  rintro e w1 ⟨rfl, hs, hb, hlt⟩
  go_wp2_with fail
  refine (l4Key_c w.heap.size p q cs 0 w1 hs (by omega) (by omega)).mono ?_
  rintro e w2 ⟨u, x, t2, rfl, hx, ht2, ht3, ho2, hs2, hg2⟩
  obtain ⟨p1, q1, rfl, -⟩ := ho2.rd
  go_wp2_with fail
  refine (l1Pick_c w.heap.size p q cs t2 w2.heap.size [2, 32, 64, 65] 4 _ (hs2.keep (alloc_below _ _)) (by omega) (by omega) rfl (by decide) (by decide) (by have := hs2.lt; omega) (new_ints _ _ _ [2, 32, 64, 65] rfl)).mono ?_
  rintro e w3 ⟨k, hk, rfl, hs3, hg3⟩
  have hR : Hid (2 ≤ k ∧ k ≤ 65) := by
    show _ ∧ _
    simp only [List.mem_cons, List.not_mem_nil, or_false] at hk
    omega
  clear hk
  have hlt2 : Hid (w.heap.size < w1.heap.size) := hlt
  replace ho2 := ho2.stay (alloc_below _ (.cells #[.int .i64 2, .int .i64 32, .int .i64 64, .int .i64 65] 2))
  replace ho2 := ho2.other hg3 (fun j hj e => by have := ho2.ge j hj; simp at e; omega)
  have hgA := grownBy_trans hg2 (grownBy_trans (World.grownBy_alloc _ _ _) hg3)
  clear hg2 hg3
  go_wp2_with fail
  refine (l1Some_c w.heap.size p q cs (t2 + 1) k w3 hs3 (by omega) (by omega) (by have := hR.out; omega) (by have := hR.out; omega)).mono ?_
  rintro e w4 ⟨u4, y, rfl, hl4, ho4, hs4, hg4⟩
  obtain ⟨p2, q2, rfl, r2⟩ := ho4.rd
  have r1 := Rd.own (ho2.other hg4 (fun j hj e => by have := ho2.ge j hj; have := hlt2.out; simp at e; omega))
  have hyl : Hid (2 ≤ y.length ∧ y.length ≤ 65) := by show _ ∧ _; have := hR.out; omega
  have hg := grownBy_trans hgA hg4
  clear hl4
  go_wp2
  exact bodyPost_ret (v := .tuple #[.slice p1 x.length q1, .slice p2 y.length q2]) (by simp [results, Tryd.results10, go_sem]) rfl ⟨p1, p2, q1, q2, x, y, rfl, r1, r2, hx, hyl.out.1, hyl.out.2, hb.grown hg (Nat.le_of_lt hlt) (fun k hk => by simp at hk; omega)⟩
end Go.Proofs.YthkiabcbpkhgiaaDoor

