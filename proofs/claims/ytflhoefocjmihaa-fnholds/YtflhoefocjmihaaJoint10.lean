/- The contract of spec.DrawMixRound: some numbers, a word, a key; and a law of our own: append of numbers that can be read to a row of one's own. -/
import Derived.Test.YtflhoefocjmihaaJoint8
import Derived.Test.YtflhoefocjmihaaJoint5
import Derived.Test.YtflhoefocjmihaaArr
import Derived.Laws.AppendOwnNone
import Derived.Test.YtflhoefocjmihaaJoint9
namespace Go.Proofs.Ytflhoefocjmihaa
open Go.ChangeShapes Go.WideShapes Go.ChangeAt Go.RowKit

theorem wpList_append_rdI {w : World} {ops : Array Oper} {rest : List Oper} {o : Oper} {a : Act} {Q : Exit → Act → World → Prop} (hgd : o.guard = none) (s x : Operand)
    (ho : o.op = .call { callee := .builtin .append, args := #[s, x], argTypes := #[64, 64] })
    (B : Nat) (v : Value) (xs : List Int) (hs : a.eval s = v) (hown : OwnI w B v xs) (p : Option Addr) (q : Nat) (bs : List Int) (hx : a.eval x = .slice p bs.length q) (hr : RdI w p q bs)
    (hl : xs.length + bs.length ≤ 100000000) (hB : B ≤ w.heap.size)
    (h : ∀ v' w', OwnI w' B v' (xs ++ bs) → w.grownBy w' v.ownBlock → wpList Try.prog ops Q rest (a.put o.dst v') w') : wpList Try.prog ops Q (o :: rest) a w := by
  obtain ⟨i0, hi, hz0, hz1, hz2⟩ := info_parts info64
  obtain ⟨h1, h2, h3, h4⟩ := hr
  cases p with
  | none =>
    have hq := h3 rfl
    subst hq
    have hb : bs = [] := List.eq_nil_of_length_eq_zero (by omega)
    subst hb
    refine wpList_append_own_none hgd s x _ ho B _ i0 1 Try.underlying64 hi v xs.length _ hs hown hx ?_
    exact h v w (by rw [List.append_nil]; exact hown) (World.grownBy.refl _ _)
  | some ad =>
    refine wpList_append_own _ hgd s x _ ho B 2 i0 (.int .i64 0) 1 8 Try.underlying64 hi hz0 hz1 hz2 rfl (by decide) v xs.length (xs.map i64z) hs hown ad bs.length q (bs.map i64z) hx (by simp) ?_ (by intro u hu; obtain ⟨n, -, rfl⟩ := List.mem_map.1 hu; rfl) (by unfold maxLen; omega) (by omega) hB ?_
    · intro j u hu
      have hj : j < bs.length := by have := (List.getElem?_eq_some_iff.1 hu).1; simpa using this
      obtain ⟨b, off, e, hc⟩ := h4 (by omega)
      simp at e
      subst e
      rw [addr_add, hc j hj, ← hu, i64z_at hj]
    · intro v' w' ho' hg' _
      refine h v' w' ?_ hg'
      unfold OwnI
      rw [List.length_append, List.map_append]
      exact ho'
theorem rdI_one (w : World) (b : Int) (t : TypeId) : RdI (w.alloc (.cells #[.int .i64 b] t)) (some ⟨w.heap.size, 0, none⟩) 1 [b] := by
  refine ⟨by simp, by unfold maxLen; decide, fun e => by simp at e, fun _ => ⟨w.heap.size, 0, rfl, fun i hi => ?_⟩⟩
  have : i = 0 := by simp at hi; omega
  subst this
  rw [World.cell?_alloc_new]
  rfl

end Go.Proofs.Ytflhoefocjmihaa

/- The contracts of the draws of chapter 4: keys, nonces, data, states, counts, bases, numbers: within bounds, no more. -/
namespace Go.Proofs.Ytflhoefocjmihaa
open Go.ChangeShapes Go.WideShapes Go.ChangeAt Go.RowKit






end Go.Proofs.Ytflhoefocjmihaa

/- The contracts of the draws of chapter 5: extras, plain bytes, what is sealed and bent: within bounds, no more. -/
namespace Go.Proofs.Ytflhoefocjmihaa
open Go.ChangeShapes Go.WideShapes Go.ChangeAt Go.RowKit






theorem Rd.below {w : World} {a : Option Addr} {cap : Nat} {bs : List UInt8} (h : Rd w a cap bs) : 0 < bs.length → ∀ y, a = some y → y.block < w.heap.size := fun hp y hy => by
  obtain ⟨b, o, rfl, hc⟩ := h.2.2.2 hp
  simp at hy
  subst hy
  exact World.block_lt_of_cell? w _ (hc 0 hp)
theorem Rd.draw {w w' : World} {a : Option Addr} {cap b : Nat} {bs : List UInt8} (h : Rd w a cap bs) (hg : w.grownBy w' (some b)) (hlt : 0 < bs.length → ∀ y, a = some y → y.block < b) : Rd w' a cap bs :=
  h.other hg (fun hp y hy e => by have := hlt hp y hy; simp at e; omega)
end Go.Proofs.Ytflhoefocjmihaa

