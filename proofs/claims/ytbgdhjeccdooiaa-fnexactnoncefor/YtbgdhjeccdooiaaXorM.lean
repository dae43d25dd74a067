/- The contract of what hides in the specification: spec.l4Xor (hideN, in a row of its own). What was there stays. -/
import Derived.Test.YtbgdhjeccdooiaaXorS
import Derived.Test.YtbgdhjeccdooiaaMix
namespace Go.Proofs.Ytbgdhjeccdooiaa
open Go.ChangeShapes Go.WideShapes Go.ChangeAt Go.RowKit

/-- append(s, x...) where s lies in a row of its own, x can be read and is not empty: and where the new row lies. -/
theorem wpList_append_rd_at {w : World} {ops : Array Oper} {rest : List Oper} {o : Oper} {a : Act} {Q : Exit → Act → World → Prop} (hgd : o.guard = none) (s x : Operand)
    (ho : o.op = .call { callee := .builtin .append, args := #[s, x], argTypes := #[32, 32] })
    (B : Nat) (v : Value) (xs : List UInt8) (hs : a.eval s = v) (hown : Own w B v xs) (p : Option Addr) (q : Nat) (bs : List UInt8) (n : Nat) (hx : a.eval x = .slice p n q) (hn : bs.length = n) (hr : Rd w p q bs) (hp : 0 < n)
    (hl : xs.length + n ≤ 100000000) (hB : B ≤ w.heap.size)
    (h : ∀ g cap w', Own w' B (.slice (some ⟨g, 0, none⟩) (xs.length + n) cap) (xs ++ bs) → w.grownBy w' v.ownBlock → (v.ownBlock = some g ∨ g = w.heap.size) → wpList Try.prog ops Q rest (a.put o.dst (.slice (some ⟨g, 0, none⟩) (xs.length + n) cap)) w') : wpList Try.prog ops Q (o :: rest) a w := by
  subst hn
  obtain ⟨i0, hi, hz0, hz1, hz2⟩ := info_parts info8
  obtain ⟨ad, rfl, hc⟩ := hr.addr hp
  refine wpList_append_lies _ hgd s x _ ho B 5 i0 (.int .u8 0) 1 1 Try.underlying32 hi hz0 hz1 hz2 rfl (by decide) v xs.length (xs.map u8v) hs hown ad bs.length q (bs.map u8v) hx (by simp) hc (by intro u hu; obtain ⟨n, -, rfl⟩ := List.mem_map.1 hu; rfl) hp (by unfold maxLen; omega) (by omega) hB w.heap.size rfl ?_
  intro g cap w' ho' hg' hat _
  refine h g cap w' ?_ hg' hat
  unfold Own
  rw [List.length_append, List.map_append]
  exact ho'

end Go.Proofs.Ytbgdhjeccdooiaa
