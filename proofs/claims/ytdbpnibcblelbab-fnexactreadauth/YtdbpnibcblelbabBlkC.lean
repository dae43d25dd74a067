/- The contracts of the laws' helpers on lists of bytes, and on answers that hold such a list: toByteSS, szByteSS, eqByteSS, markByteSS, heldByteSS; eqBlocksResult, markBlocksResult, heldBlocksResult. -/
import Derived.Test.YtdbpnibcblelbabJoint4
import Derived.Test.YtdbpnibcblelbabClass
namespace Go.Proofs.Ytdbpnibcblelbab
open Go.ChangeShapes Go.WideShapes Go.ChangeAt Go.RowKit

abbrev BlkD := List UInt8
theorem blk_rep {w : World} {a : BlkD} {vs : List Value} (h : bytC.rep w a vs) : ∃ p q, vs = [.slice p a.length q] ∧ Rd w p q a := h
theorem blk_own {w : World} {B : Nat} {a : BlkD} {vs : List Value} {fp : List Nat} (h : bytC.own w B a vs fp) : ∃ v, vs = [v] ∧ Own w B v a ∧ fp = v.ownBlock.toList := h
theorem blk_own_mk {w : World} {B : Nat} {a : BlkD} {v : Value} (o : Own w B v a) : bytC.own w B a [v] v.ownBlock.toList := ⟨v, rfl, o, rfl⟩
def sumB (l : List BlkD) : Nat := (l.map List.length).sum
def bulkB (l : List BlkD) : Nat := sumB l + l.length
theorem sumB_take {l : List BlkD} {k : Nat} {a : BlkD} (h : l[k]? = some a) : sumB (l.take (k + 1)) = sumB (l.take k) + a.length := by
  rw [List.take_add_one, h]; simp [sumB]
theorem sumB_append (l r : List BlkD) : sumB (l ++ r) = sumB l + sumB r := by simp [sumB]
theorem sumB_le (l : List BlkD) (k : Nat) : sumB (l.take k) ≤ sumB l := by
  conv => rhs; rw [← List.take_append_drop k l, sumB_append]
  omega
theorem sumB_at {l : List BlkD} {k : Nat} {a : BlkD} (h : l[k]? = some a) : a.length ≤ sumB l := by
  have h1 := sumB_take h
  have h2 := sumB_le l (k + 1)
  omega

theorem infoBlk : (Try.prog.info? 22).map (fun i => (i.zero, i.size, i.bytes)) = some (some (.slice none 0 0), 1, 24) := by kernel_rfl



def mkB : List BlkD → Nat → List BlkD
  | [], _ => []
  | a :: l, m => marks m a.length :: mkB l (m + a.length)
theorem mkB_append : ∀ (l r : List BlkD) (m : Nat), mkB (l ++ r) m = mkB l m ++ mkB r (m + sumB l)
  | [], r, m => by simp [mkB, sumB]
  | a :: l, r, m => by
    rw [List.cons_append, mkB, mkB, mkB_append l r, List.cons_append, show m + a.length + sumB l = m + sumB (a :: l) by simp [sumB]; omega]
theorem mkB_len : ∀ (l : List BlkD) (m : Nat), (mkB l m).length = l.length
  | [], _ => rfl
  | a :: l, m => by rw [mkB, List.length_cons, mkB_len l, List.length_cons]
theorem mkB_take {l : List BlkD} {k : Nat} {a : BlkD} (h : l[k]? = some a) (m : Nat) : mkB (l.take (k + 1)) m = mkB (l.take k) m ++ [marks (m + sumB (l.take k)) a.length] := by
  rw [List.take_add_one, h, mkB_append]; rfl
theorem mkB_at {l : List BlkD} {k : Nat} {a : BlkD} (h : l[k]? = some a) (m : Nat) : (mkB l m)[k]? = some (marks (m + sumB (l.take k)) a.length) := by
  have hk := (List.getElem?_eq_some_iff.1 h).1
  conv => lhs; rw [← List.take_append_drop k l, drop_at h, mkB_append]
  rw [List.getElem?_append_right (by rw [mkB_len, List.length_take]; omega), mkB_len, List.length_take, Nat.min_eq_left (by omega), Nat.sub_self]
  rfl



end Go.Proofs.Ytdbpnibcblelbab

