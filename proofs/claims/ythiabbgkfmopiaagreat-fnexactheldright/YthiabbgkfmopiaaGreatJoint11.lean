/- Lists of whole numbers (int64) as arguments of the laws: read as such, kept in a stretch of memory, marked. What was there stays. -/
import Derived.Test.YthiabbgkfmopiaaGreatJoint7
import Derived.Test.YthiabbgkfmopiaaGreatJoint5
import Derived.Test.YthiabbgkfmopiaaGreatJoint8
import Derived.Test.YthiabbgkfmopiaaGreatJoint6
namespace Go.Proofs.YthiabbgkfmopiaaGreat
open Go.ChangeShapes Go.WideShapes Go.ChangeAt Go.RowKit

theorem rdI_cod {w : World} {p : Option Addr} {q : Nat} {l : List Int} (h : RdL (intC .i64) w p q l) : RdI w p q l := by
  obtain ⟨h1, h2, h3, h4⟩ := h
  refine ⟨h1, h2, h3, fun hp => ?_⟩
  obtain ⟨b, o, rfl, hc⟩ := h4 hp
  refine ⟨b, o, rfl, fun i hi => ?_⟩
  obtain ⟨us, hu, hcell⟩ := hc i l[i] (by simp [hi])
  have e : us = [Value.int .i64 l[i]] := hu
  subst e
  have h5 := hcell 0 _ rfl
  rw [show (intC .i64).n = 1 from rfl, Nat.mul_one, Nat.add_zero] at h5
  rw [h5, atI_get hi]
theorem OwnI.fr {w w' : World} {B : Nat} {v : Value} {l : List Int} (h : OwnI w B v l) (hk : ∀ k, v.ownBlock = some k → w'.heap[k]? = w.heap[k]?) : OwnI w' B v l := ownsRow_fr h hk
theorem OwnI.ins {w : World} {B : Nat} {v : Value} {l : List Int} (h : OwnI w B v l) : ∀ k, k ∈ v.ownBlock.toList → B ≤ k ∧ k < w.heap.size := fun k hk => World.ownsRow.lt h k (mem_opt.1 hk)
theorem OwnI.win {w : World} {B lo hi : Nat} {v : Value} {l : List Int} (h : OwnI w B v l) (ht : hi ≤ w.heap.size) (hin : ∀ k, k ∈ v.ownBlock.toList → lo ≤ k ∧ k < hi) : Win (fun w => OwnI w B v l) lo hi w :=
  ⟨h, ht, fun _ hs => h.fr fun k hk => hs k (hin k (mem_opt.2 hk)).1 (hin k (mem_opt.2 hk)).2⟩
end Go.Proofs.YthiabbgkfmopiaaGreat

/- The contracts of the laws' helpers on messages, on lists of these, and on answers that hold such a list: toMsg, szMsg, eqMsg, markMsg; toMsgS, szMsgS, eqMsgS, markMsgS, heldMsgS; eqMsgsResult, markMsgsResult, heldMsgsResult. -/
namespace Go.Proofs.YthiabbgkfmopiaaGreat
open Go.ChangeShapes Go.WideShapes Go.ChangeAt Go.RowKit

abbrev MsgD := Int × List UInt8
def msgC : Cod MsgD := prodC (intC .i64) bytC
theorem msg_rep {w : World} {a : MsgD} {vs : List Value} (h : msgC.rep w a vs) : ∃ p q, vs = [.int .i64 a.1, .slice p a.2.length q] ∧ Rd w p q a.2 := by
  obtain ⟨us, ts, rfl, h1, p, q, rfl, r⟩ := h
  exact ⟨p, q, by rw [h1]; rfl, r⟩
theorem msg_mk {w : World} {a : MsgD} {p : Option Addr} {q : Nat} (r : Rd w p q a.2) : msgC.rep w a [.int .i64 a.1, .slice p a.2.length q] := ⟨[_], [_], rfl, rfl, p, q, rfl, r⟩
theorem msg_own {w : World} {B : Nat} {a : MsgD} {vs : List Value} {fp : List Nat} (h : msgC.own w B a vs fp) : ∃ v, vs = [.int .i64 a.1, v] ∧ Own w B v a.2 ∧ fp = v.ownBlock.toList := by
  obtain ⟨us, ts, f, g, rfl, rfl, _, ⟨rfl, rfl⟩, v, rfl, o, rfl⟩ := h
  exact ⟨v, rfl, o, rfl⟩
theorem msg_own_mk {w : World} {B : Nat} {a : MsgD} {v : Value} (o : Own w B v a.2) : msgC.own w B a [.int .i64 a.1, v] v.ownBlock.toList :=
  ⟨[_], [_], [], _, rfl, rfl, nodup_opt _, ⟨rfl, rfl⟩, v, rfl, o, rfl⟩


def bulkM (l : List MsgD) : Nat := (l.map (fun a => a.2.length)).sum + l.length
theorem bulkM_at {l : List MsgD} {i : Nat} {a : MsgD} (h : l[i]? = some a) : a.2.length ≤ bulkM l := by
  have hm := List.mem_of_getElem? h
  have h2 : ∀ l : List MsgD, a ∈ l → a.2.length ≤ (l.map (fun a : MsgD => a.2.length)).sum := fun l => by
    induction l with
    | nil => intro h; cases h
    | cons b l ih =>
      intro h
      rw [List.map_cons, List.sum_cons]
      rcases List.mem_cons.1 h with rfl | h
      · omega
      · have := ih h; omega
  have := h2 l hm
  unfold bulkM; omega



def mkM : List MsgD → Nat → List MsgD
  | [], _ => []
  | a :: l, m => ((m : Int), marks (m + 1) a.2.length) :: mkM l (m + 1 + a.2.length)
theorem bulkM_cons (a : MsgD) (l : List MsgD) : bulkM (a :: l) = a.2.length + 1 + bulkM l := by simp [bulkM]; omega
theorem bulkM_append (l r : List MsgD) : bulkM (l ++ r) = bulkM l + bulkM r := by simp [bulkM]; omega
theorem mkM_append : ∀ (l r : List MsgD) (m : Nat), mkM (l ++ r) m = mkM l m ++ mkM r (m + bulkM l)
  | [], r, m => by simp [mkM, bulkM]
  | a :: l, r, m => by
    rw [List.cons_append, mkM, mkM, mkM_append l r, bulkM_cons, List.cons_append, show m + 1 + a.2.length + bulkM l = m + (a.2.length + 1 + bulkM l) by omega]
theorem mkM_len : ∀ (l : List MsgD) (m : Nat), (mkM l m).length = l.length
  | [], _ => rfl
  | a :: l, m => by rw [mkM, List.length_cons, mkM_len l, List.length_cons]
theorem mkM_take {l : List MsgD} {k : Nat} {a : MsgD} (h : l[k]? = some a) (m : Nat) : mkM (l.take (k + 1)) m = mkM (l.take k) m ++ [(((m + bulkM (l.take k) : Nat) : Int), marks (m + bulkM (l.take k) + 1) a.2.length)] := by
  rw [List.take_add_one, h, mkM_append]; rfl
theorem bulkM_take {l : List MsgD} {k : Nat} {a : MsgD} (h : l[k]? = some a) : bulkM (l.take (k + 1)) = bulkM (l.take k) + a.2.length + 1 := by
  rw [List.take_add_one, h, bulkM_append]; simp [bulkM]; omega
theorem bulkM_le (l : List MsgD) (k : Nat) : bulkM (l.take k) ≤ bulkM l := by
  conv => rhs; rw [← List.take_append_drop k l, bulkM_append]
  omega


theorem mkM_at {l : List MsgD} {k : Nat} {a : MsgD} (h : l[k]? = some a) (m : Nat) : (mkM l m)[k]? = some (((m + bulkM (l.take k) : Nat) : Int), marks (m + bulkM (l.take k) + 1) a.2.length) := by
  have hk := (List.getElem?_eq_some_iff.1 h).1
  conv => lhs; rw [← List.take_append_drop k l, drop_at h, mkM_append]
  rw [List.getElem?_append_right (by rw [mkM_len, List.length_take]; omega), mkM_len, List.length_take, Nat.min_eq_left (by omega), Nat.sub_self]
  rfl


end Go.Proofs.YthiabbgkfmopiaaGreat

