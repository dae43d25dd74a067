/- The contract of spec.DrawMixRound: some numbers, a word, a key; and a law of our own: append of numbers that can be read to a row of one's own. -/
import Derived.Test.YtklglpmlfboglaaDraws2
import Derived.Test.YtklglpmlfboglaaJoint6
import Derived.Test.YtklglpmlfboglaaArr
import Derived.Laws.AppendOwnNone
import Derived.Test.YtklglpmlfboglaaJoint10
namespace Go.Proofs.Ytklglpmlfboglaa
open Go.ChangeShapes Go.WideShapes Go.ChangeAt Go.RowKit

theorem wpList_append_rdI {w : World} {ops : Array Oper} {rest : List Oper} {o : Oper} {a : Act} {Q : Exit → Act → World → Prop} (hgd : o.guard = none) (s x : Operand)
    (ho : o.op = .call { callee := .builtin .append, args := #[s, x], argTypes := #[40, 40] })
    (B : Nat) (v : Value) (xs : List Int) (hs : a.eval s = v) (hown : OwnI w B v xs) (p : Option Addr) (q : Nat) (bs : List Int) (hx : a.eval x = .slice p bs.length q) (hr : RdI w p q bs)
    (hl : xs.length + bs.length ≤ 100000000) (hB : B ≤ w.heap.size)
    (h : ∀ v' w', OwnI w' B v' (xs ++ bs) → w.grownBy w' v.ownBlock → wpList Try.prog ops Q rest (a.put o.dst v') w') : wpList Try.prog ops Q (o :: rest) a w := by
  obtain ⟨i0, hi, hz0, hz1, hz2⟩ := info_parts info64
  obtain ⟨h1, h2, h3, h4⟩ := hr
  cases p with
  | none =>
    have hq := h3 rfl
    subst hq
    have hb : bs = [] := List.eq_nil_of_length_eq_zero (by omega)
    subst hb
    refine wpList_append_own_none hgd s x _ ho B _ i0 1 Try.underlying40 hi v xs.length _ hs hown hx ?_
    exact h v w (by rw [List.append_nil]; exact hown) (World.grownBy.refl _ _)
  | some ad =>
    refine wpList_append_own _ hgd s x _ ho B 2 i0 (.int .i64 0) 1 8 Try.underlying40 hi hz0 hz1 hz2 rfl (by decide) v xs.length (xs.map i64z) hs hown ad bs.length q (bs.map i64z) hx (by simp) ?_ (by intro u hu; obtain ⟨n, -, rfl⟩ := List.mem_map.1 hu; rfl) (by unfold maxLen; omega) (by omega) hB ?_
    · intro j u hu
      have hj : j < bs.length := by have := (List.getElem?_eq_some_iff.1 hu).1; simpa using this
      obtain ⟨b, off, e, hc⟩ := h4 (by omega)
      simp at e
      subst e
      rw [addr_add, hc j hj, ← hu, i64z_at hj]
    · intro v' w' ho' hg' _
      refine h v' w' ?_ hg'
      unfold OwnI
      rw [List.length_append, List.map_append]
      exact ho'
theorem rdI_one (w : World) (b : Int) (t : TypeId) : RdI (w.alloc (.cells #[.int .i64 b] t)) (some ⟨w.heap.size, 0, none⟩) 1 [b] := by
  refine ⟨by simp, by unfold maxLen; decide, fun e => by simp at e, fun _ => ⟨w.heap.size, 0, rfl, fun i hi => ?_⟩⟩
  have : i = 0 := by simp at hi; omega
  subst this
  rw [World.cell?_alloc_new]
  rfl

end Go.Proofs.Ytklglpmlfboglaa

/- The contracts of the draws of chapter 4: keys, nonces, data, states, counts, bases, numbers: within bounds, no more. -/
namespace Go.Proofs.Ytklglpmlfboglaa
open Go.ChangeShapes Go.WideShapes Go.ChangeAt Go.RowKit

set_option maxRecDepth 4000 in
set_option maxHeartbeats 1000000 in
theorem l4Key_c (b : Nat) (p : Option Addr) (q : Nat) (cs : List UInt8) (t : Int) (w : World) (hs : Src w b p q cs t) (ht : 0 ≤ t) (ht2 : t ≤ 800000000) :
    Calls Try.prog 53 #[.pointer (some ⟨b, 0, none⟩)] w fun e w' => ∃ (u : Value) (bs : List UInt8) (t' : Int), e = .returned u ∧ bs.length ≤ 32 ∧ t ≤ t' ∧ t' ≤ t + 1000 ∧ Own w' w.heap.size u bs ∧ Src w' b p q cs t' ∧ w.grownBy w' (some b) := by
  go_enter Try.func53, Try.ntmps53
  go_wp2_with fail
  refine (l1Pick_c b p q cs t w.heap.size [32, 32, 32, 32, 32, 32, 31, 0] 8 _ (hs.keep (alloc_below _ _)) ht (by omega) rfl (by decide) (by decide) (by have := hs.lt; omega) (new_ints _ _ _ [32, 32, 32, 32, 32, 32, 31, 0] rfl)).mono ?_
  rintro e w5 ⟨k, hk, rfl, hs5, hg5⟩
  have hR : Hid (0 ≤ k ∧ k ≤ 32) := by
    show _ ∧ _
    simp only [List.mem_cons, List.not_mem_nil, or_false] at hk
    omega
  clear hk
  have hg : w.grownBy w5 (some b) := grownBy_trans (World.grownBy_alloc _ _ _) hg5
  clear hg5
  go_wp2_with fail
  refine (l1Some_c b p q cs (t + 1) k w5 hs5 (by omega) (by omega) hR.out.1 (by have := hR.out.2; omega)).mono ?_
  rintro e w6 ⟨u, bs, rfl, hl, ho, hs6, hg6⟩
  go_wp2
  go_ret
  have h1 := hR.out.1
  have h2 := hR.out.2
  exact ⟨u, bs, _, rfl, by omega, by omega, by omega, ho.lower hg.size, hs6, grownBy_trans hg hg6⟩





end Go.Proofs.Ytklglpmlfboglaa

