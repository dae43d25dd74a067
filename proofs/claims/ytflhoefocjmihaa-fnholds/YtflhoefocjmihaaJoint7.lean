/- The contracts of the laws' helpers on lists of bytes, and on answers that hold such a list: toByteSS, szByteSS, eqByteSS, markByteSS, heldByteSS; eqBlocksResult, markBlocksResult, heldBlocksResult. -/
import Derived.Test.YtflhoefocjmihaaJoint6
import Derived.Test.YtflhoefocjmihaaJoint3
namespace Go.Proofs.Ytflhoefocjmihaa
open Go.ChangeShapes Go.WideShapes Go.ChangeAt Go.RowKit

abbrev BlkD := List UInt8
theorem blk_rep {w : World} {a : BlkD} {vs : List Value} (h : bytC.rep w a vs) : ∃ p q, vs = [.slice p a.length q] ∧ Rd w p q a := h
theorem blk_own {w : World} {B : Nat} {a : BlkD} {vs : List Value} {fp : List Nat} (h : bytC.own w B a vs fp) : ∃ v, vs = [v] ∧ Own w B v a ∧ fp = v.ownBlock.toList := h
theorem blk_own_mk {w : World} {B : Nat} {a : BlkD} {v : Value} (o : Own w B v a) : bytC.own w B a [v] v.ownBlock.toList := ⟨v, rfl, o, rfl⟩
def sumB (l : List BlkD) : Nat := (l.map List.length).sum
def bulkB (l : List BlkD) : Nat := sumB l + l.length
theorem sumB_take {l : List BlkD} {k : Nat} {a : BlkD} (h : l[k]? = some a) : sumB (l.take (k + 1)) = sumB (l.take k) + a.length := by
  rw [List.take_add_one, h]; simp [sumB]
theorem sumB_append (l r : List BlkD) : sumB (l ++ r) = sumB l + sumB r := by simp [sumB]
theorem sumB_le (l : List BlkD) (k : Nat) : sumB (l.take k) ≤ sumB l := by
  conv => rhs; rw [← List.take_append_drop k l, sumB_append]
  omega
theorem sumB_at {l : List BlkD} {k : Nat} {a : BlkD} (h : l[k]? = some a) : a.length ≤ sumB l := by
  have h1 := sumB_take h
  have h2 := sumB_le l (k + 1)
  omega

theorem infoBlk : (Try.prog.info? 22).map (fun i => (i.zero, i.size, i.bytes)) = some (some (.slice none 0 0), 1, 24) := by kernel_rfl



def mkB : List BlkD → Nat → List BlkD
  | [], _ => []
  | a :: l, m => marks m a.length :: mkB l (m + a.length)
theorem mkB_append : ∀ (l r : List BlkD) (m : Nat), mkB (l ++ r) m = mkB l m ++ mkB r (m + sumB l)
  | [], r, m => by simp [mkB, sumB]
  | a :: l, r, m => by
    rw [List.cons_append, mkB, mkB, mkB_append l r, List.cons_append, show m + a.length + sumB l = m + sumB (a :: l) by simp [sumB]; omega]
theorem mkB_len : ∀ (l : List BlkD) (m : Nat), (mkB l m).length = l.length
  | [], _ => rfl
  | a :: l, m => by rw [mkB, List.length_cons, mkB_len l, List.length_cons]
theorem mkB_take {l : List BlkD} {k : Nat} {a : BlkD} (h : l[k]? = some a) (m : Nat) : mkB (l.take (k + 1)) m = mkB (l.take k) m ++ [marks (m + sumB (l.take k)) a.length] := by
  rw [List.take_add_one, h, mkB_append]; rfl
theorem mkB_at {l : List BlkD} {k : Nat} {a : BlkD} (h : l[k]? = some a) (m : Nat) : (mkB l m)[k]? = some (marks (m + sumB (l.take k)) a.length) := by
  have hk := (List.getElem?_eq_some_iff.1 h).1
  conv => lhs; rw [← List.take_append_drop k l, drop_at h, mkB_append]
  rw [List.getElem?_append_right (by rw [mkB_len, List.length_take]; omega), mkB_len, List.length_take, Nat.min_eq_left (by omega), Nat.sub_self]
  rfl



end Go.Proofs.Ytflhoefocjmihaa

/- Lists of bytes as data (Cod), and the contracts of the laws' helpers on them. -/
namespace Go.Proofs.Ytflhoefocjmihaa
open Go.ChangeShapes Go.WideShapes Go.ChangeAt Go.RowKit

theorem sumB_bulk (l : List BlkD) : sumB l ≤ 8 * bulkB l := by unfold bulkB; omega
abbrev blksC : Cod (List BlkD) := listC 22 bytC
end Go.Proofs.Ytflhoefocjmihaa

/- How Held lies in memory, alone and in lists, and the contracts of the laws' helpers on it (written by tools/heldgen.py). -/
namespace Go.Proofs.Ytflhoefocjmihaa
open Go.ChangeShapes Go.WideShapes Go.ChangeAt Go.RowKit

abbrev HeldD := Int × Int
def holdC : Cod HeldD := prodC (intC .i64) (intC .i64)
theorem hold_rep {w : World} {a : HeldD} {vs : List Value} (h : holdC.rep w a vs) : vs = [.int .i64 a.1, .int .i64 a.2] := by
  obtain ⟨us0, ts0, rfl, h0, h1⟩ := h
  have e0 : us0 = [Value.int .i64 _] := h0
  have e1 : ts0 = [Value.int .i64 _] := h1
  rw [e0, e1]
  rfl
theorem hold_mk {w : World} {a : HeldD} : holdC.rep w a [.int .i64 a.1, .int .i64 a.2] := ⟨[_], _, rfl, rfl, rfl⟩
theorem hold_own {w : World} {B : Nat} {a : HeldD} : holdC.own w B a [.int .i64 a.1, .int .i64 a.2] [] := ⟨[_], _, [], [], rfl, rfl, List.nodup_nil, ⟨rfl, rfl⟩, rfl, rfl⟩
theorem hold_own_inv {w : World} {B : Nat} {a : HeldD} {vs : List Value} {fp : List Nat} (h : holdC.own w B a vs fp) : vs = [.int .i64 a.1, .int .i64 a.2] ∧ fp = [] := by
  obtain ⟨us0, ts0, f0, g0, rfl, rfl, -, ⟨rfl, rfl⟩, ⟨rfl, rfl⟩⟩ := h
  exact ⟨rfl, rfl⟩
abbrev holdsC : Cod (List HeldD) := listC 40 holdC
theorem infoHeld : (Try.prog.info? 40).map (fun i => (i.zero, i.size, i.bytes)) = some (some (.agg #[.int .i64 0, .int .i64 0]), 2, 16) := by kernel_rfl
def bulkH (l : List HeldD) : Nat := 2 * l.length
def sizeH (l : List HeldD) : Nat := l.length
theorem bulkH_le (l : List HeldD) : bulkH l ≤ 8 * sizeH l := by unfold bulkH sizeH; omega
def mkH : List HeldD → Nat → List HeldD
  | [], _ => []
  | _ :: l, m => ((m : Int), (m : Int) + 1) :: mkH l (m + 2)
theorem mkH_len : ∀ (l : List HeldD) (m : Nat), (mkH l m).length = l.length
  | [], _ => rfl
  | _ :: l, m => by rw [mkH, List.length_cons, mkH_len l, List.length_cons]
theorem mkH_append : ∀ (l r : List HeldD) (m : Nat), mkH (l ++ r) m = mkH l m ++ mkH r (m + bulkH l)
  | [], _, _ => rfl
  | a :: l, r, m => by
    rw [List.cons_append, mkH, mkH_append l r, mkH, List.cons_append, show m + 2 + bulkH l = m + bulkH (a :: l) by unfold bulkH; rw [List.length_cons]; omega]
theorem mkH_take {l : List HeldD} {k : Nat} {a : HeldD} (h : l[k]? = some a) (m : Nat) : mkH (l.take (k + 1)) m = mkH (l.take k) m ++ [(((m + bulkH (l.take k) : Nat) : Int), ((m + bulkH (l.take k) : Nat) : Int) + 1)] := by
  rw [List.take_add_one, h, mkH_append]; rfl
theorem mkH_at {l : List HeldD} {k : Nat} {a : HeldD} (h : l[k]? = some a) (m : Nat) : (mkH l m)[k]? = some (((m + bulkH (l.take k) : Nat) : Int), ((m + bulkH (l.take k) : Nat) : Int) + 1) := by
  have hk := (List.getElem?_eq_some_iff.1 h).1
  conv => lhs; rw [← List.take_append_drop k l, drop_at h, mkH_append]
  rw [List.getElem?_append_right (by rw [mkH_len, List.length_take]; omega), mkH_len, List.length_take, Nat.min_eq_left (by omega), Nat.sub_self]
  rfl
theorem bulkH_at {l : List HeldD} {k : Nat} (h : k ≤ l.length) : bulkH (l.take k) = 2 * k := by unfold bulkH; rw [List.length_take, Nat.min_eq_left h]
end Go.Proofs.Ytflhoefocjmihaa

