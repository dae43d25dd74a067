/- Lists of Sign as data (Cod), and the contracts of the laws' helpers on them (written by tools/listgen.py). -/
import Derived.Test.YtdbpnibcblelbabJoint5
import Derived.Test.YtdbpnibcblelbabClass
import Derived.Test.YtdbpnibcblelbabMsgC
namespace Go.Proofs.Ytdbpnibcblelbab
open Go.ChangeShapes Go.WideShapes Go.ChangeAt Go.RowKit

def sumSign (l : List SignD) : Nat := (l.map (fun a => a.2.2.length)).sum
def sizeSign (l : List SignD) : Nat := sumSign l + l.length
def bulkSign (l : List SignD) : Nat := sumSign l + 2 * l.length
theorem bulkSign_le8 (l : List SignD) : bulkSign l ≤ 8 * sizeSign l := by unfold bulkSign sizeSign; omega
theorem sumSign_at {l : List SignD} {i : Nat} {a : SignD} (h : l[i]? = some a) : a.2.2.length ≤ sumSign l := by
  have hm := List.mem_of_getElem? h
  have h2 : ∀ l : List SignD, a ∈ l → a.2.2.length ≤ (l.map (fun a : SignD => a.2.2.length)).sum := fun l => by
    induction l with
    | nil => intro h; cases h
    | cons b l ih =>
      intro h
      rw [List.map_cons, List.sum_cons]
      rcases List.mem_cons.1 h with rfl | h
      · omega
      · have := ih h; omega
  exact h2 l hm
theorem sumSign_take {l : List SignD} {k : Nat} {a : SignD} (h : l[k]? = some a) : sumSign (l.take (k + 1)) = sumSign (l.take k) + a.2.2.length := by
  rw [List.take_add_one, h]; simp [sumSign]
theorem sumSign_le (l : List SignD) (k : Nat) : sumSign (l.take k) ≤ sumSign l := by
  conv => rhs; rw [← List.take_append_drop k l]
  unfold sumSign
  rw [List.map_append, List.sum_append]; omega
theorem sign_own {w : World} {B : Nat} {a : SignD} {vs : List Value} {fp : List Nat} (h : signC.own w B a vs fp) : ∃ v, vs = [.int .i64 a.1, .int .i64 a.2.1, v] ∧ Own w B v a.2.2 ∧ fp = v.ownBlock.toList := by
  obtain ⟨us0, ts0, f0, g0, rfl, rfl, _, ⟨rfl, rfl⟩, us1, ts1, f1, g1, rfl, rfl, _, ⟨rfl, rfl⟩, v, rfl, o, rfl⟩ := h
  exact ⟨v, rfl, o, rfl⟩
theorem sign_own_mk {w : World} {B : Nat} {a : SignD} {v : Value} (o : Own w B v a.2.2) : signC.own w B a [.int .i64 a.1, .int .i64 a.2.1, v] v.ownBlock.toList :=
  ⟨[_], _, [], _, rfl, rfl, nodup_opt _, ⟨rfl, rfl⟩, [_], _, [], _, rfl, rfl, nodup_opt _, ⟨rfl, rfl⟩, v, rfl, o, rfl⟩
def mkSign : List SignD → Nat → List SignD
  | [], _ => []
  | a :: l, m => (((m : Nat) : Int), ((m : Nat) : Int) + 1, marks (m + 2) a.2.2.length) :: mkSign l (m + 2 + a.2.2.length)
theorem bulkSign_cons (a : SignD) (l : List SignD) : bulkSign (a :: l) = a.2.2.length + 2 + bulkSign l := by simp [bulkSign, sumSign]; omega
theorem bulkSign_append (l r : List SignD) : bulkSign (l ++ r) = bulkSign l + bulkSign r := by simp [bulkSign, sumSign]; omega
theorem mkSign_append : ∀ (l r : List SignD) (m : Nat), mkSign (l ++ r) m = mkSign l m ++ mkSign r (m + bulkSign l)
  | [], r, m => by simp [mkSign, bulkSign, sumSign]
  | a :: l, r, m => by
    rw [List.cons_append, mkSign, mkSign, mkSign_append l r, bulkSign_cons, List.cons_append, show m + 2 + a.2.2.length + bulkSign l = m + (a.2.2.length + 2 + bulkSign l) by omega]
theorem mkSign_len : ∀ (l : List SignD) (m : Nat), (mkSign l m).length = l.length
  | [], _ => rfl
  | a :: l, m => by rw [mkSign, List.length_cons, mkSign_len l, List.length_cons]
theorem mkSign_take {l : List SignD} {k : Nat} {a : SignD} (h : l[k]? = some a) (m : Nat) : mkSign (l.take (k + 1)) m = mkSign (l.take k) m ++ [(((m + bulkSign (l.take k) : Nat) : Int), ((m + bulkSign (l.take k) : Nat) : Int) + 1, marks (m + bulkSign (l.take k) + 2) a.2.2.length)] := by
  rw [List.take_add_one, h, mkSign_append]; rfl
theorem bulkSign_take {l : List SignD} {k : Nat} {a : SignD} (h : l[k]? = some a) : bulkSign (l.take (k + 1)) = bulkSign (l.take k) + a.2.2.length + 2 := by
  rw [List.take_add_one, h, bulkSign_append]; simp [bulkSign, sumSign]; omega
theorem bulkSign_le (l : List SignD) (k : Nat) : bulkSign (l.take k) ≤ bulkSign l := by
  conv => rhs; rw [← List.take_append_drop k l, bulkSign_append]
  omega
theorem mkSign_at {l : List SignD} {k : Nat} {a : SignD} (h : l[k]? = some a) (m : Nat) : (mkSign l m)[k]? = some (((m + bulkSign (l.take k) : Nat) : Int), ((m + bulkSign (l.take k) : Nat) : Int) + 1, marks (m + bulkSign (l.take k) + 2) a.2.2.length) := by
  have hk := (List.getElem?_eq_some_iff.1 h).1
  conv => lhs; rw [← List.take_append_drop k l, drop_at h, mkSign_append]
  rw [List.getElem?_append_right (by rw [mkSign_len, List.length_take]; omega), mkSign_len, List.length_take, Nat.min_eq_left (by omega), Nat.sub_self]
  rfl
end Go.Proofs.Ytdbpnibcblelbab

