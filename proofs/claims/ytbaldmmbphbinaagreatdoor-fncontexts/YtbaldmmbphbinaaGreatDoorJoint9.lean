/- How Session lies in memory, and the contracts of the laws' helpers on it (written by tools/codgen.py). -/
import Derived.Test.YtbaldmmbphbinaaGreatDoorJoint8
import Derived.Test.YtbaldmmbphbinaaGreatDoorJoint5
import Derived.Deep.AppendLies
import Derived.Test.YtbaldmmbphbinaaGreatDoorJoint2
import Derived.Test.YtbaldmmbphbinaaGreatDoorJoint3
namespace Go.Proofs.YtbaldmmbphbinaaGreatDoor
open Go.ChangeShapes Go.WideShapes Go.ChangeAt Go.RowKit

abbrev SessionD := List UInt8 × Int × List (List UInt8) × List (List UInt8) × List HeldD
def sessionC : Cod SessionD := prodC bytC (prodC (intC .i64) (prodC blksC (prodC blksC holdsC)))
theorem session_rep {w : World} {a : SessionD} {vs : List Value} (h : sessionC.rep w a vs) : ∃ p1 q1 p3 q3 p4 q4 p5 q5, vs = [.slice p1 a.1.length q1, .int .i64 a.2.1, .slice p3 a.2.2.1.length q3, .slice p4 a.2.2.2.1.length q4, .slice p5 a.2.2.2.2.length q5] ∧ Rd w p1 q1 a.1 ∧ RdL bytC w p3 q3 a.2.2.1 ∧ RdL bytC w p4 q4 a.2.2.2.1 ∧ RdL holdC w p5 q5 a.2.2.2.2 := by
  obtain ⟨us0, ts0, rfl, h0, us1, ts1, rfl, h1, us2, ts2, rfl, h2, us3, ts3, rfl, h3, h4⟩ := h
  obtain ⟨p1, q1, rfl, r1⟩ := h0
  have e1 : us1 = [Value.int .i64 _] := h1
  subst e1
  obtain ⟨p3, q3, rfl, r3⟩ := h2
  obtain ⟨p4, q4, rfl, r4⟩ := h3
  obtain ⟨p5, q5, rfl, r5⟩ := h4
  exact ⟨p1, q1, p3, q3, p4, q4, p5, q5, rfl, r1, r3, r4, r5⟩
theorem session_mk {w : World} {a : SessionD} {p1 : Option Addr} {q1 : Nat} {p3 : Option Addr} {q3 : Nat} {p4 : Option Addr} {q4 : Nat} {p5 : Option Addr} {q5 : Nat} (r1 : Rd w p1 q1 a.1) (r3 : RdL bytC w p3 q3 a.2.2.1) (r4 : RdL bytC w p4 q4 a.2.2.2.1) (r5 : RdL holdC w p5 q5 a.2.2.2.2) : sessionC.rep w a [.slice p1 a.1.length q1, .int .i64 a.2.1, .slice p3 a.2.2.1.length q3, .slice p4 a.2.2.2.1.length q4, .slice p5 a.2.2.2.2.length q5] := ⟨[.slice p1 a.1.length q1], _, rfl, ⟨p1, q1, rfl, r1⟩, ⟨[.int .i64 a.2.1], _, rfl, rfl, ⟨[.slice p3 a.2.2.1.length q3], _, rfl, ⟨p3, q3, rfl, r3⟩, ⟨[.slice p4 a.2.2.2.1.length q4], _, rfl, ⟨p4, q4, rfl, r4⟩, ⟨p5, q5, rfl, r5⟩⟩⟩⟩⟩
def sessionT (a : SessionD) : Nat := a.1.length + sumB a.2.2.1 + sumB a.2.2.2.1 + bulkH a.2.2.2.2
def sessionM (a : SessionD) (m : Nat) : SessionD := (marks m a.1.length, a.2.1, mkB a.2.2.1 (m + a.1.length), mkB a.2.2.2.1 ((m + a.1.length) + sumB a.2.2.1), mkH a.2.2.2.2 (((m + a.1.length) + sumB a.2.2.1) + sumB a.2.2.2.1))

def sessionN (a : SessionD) : Nat := a.1.length + bulkB a.2.2.1 + bulkB a.2.2.2.1 + sizeH a.2.2.2.2
theorem sessionT_le (a : SessionD) : sessionT a ≤ 8 * sessionN a := by
  have h2 := sumB_bulk a.2.2.1
  have h3 := sumB_bulk a.2.2.2.1
  have h4 := bulkH_le a.2.2.2.2
  unfold sessionT sessionN
  omega






end Go.Proofs.YtbaldmmbphbinaaGreatDoor

/- How SessionResult lies in memory, and the contracts of the laws' helpers on it (written by tools/codgen.py). -/
namespace Go.Proofs.YtbaldmmbphbinaaGreatDoor
open Go.ChangeShapes Go.WideShapes Go.ChangeAt Go.RowKit

abbrev SessionResultD := Int × Int × SessionD
def sessionResultC : Cod SessionResultD := prodC (intC .i64) (prodC (intC .i64) sessionC)
theorem sessionResult_rep {w : World} {a : SessionResultD} {vs : List Value} (h : sessionResultC.rep w a vs) : ∃ p3_1 q3_1 p3_3 q3_3 p3_4 q3_4 p3_5 q3_5, vs = [.int .i64 a.1, .int .i64 a.2.1, .slice p3_1 a.2.2.1.length q3_1, .int .i64 a.2.2.2.1, .slice p3_3 a.2.2.2.2.1.length q3_3, .slice p3_4 a.2.2.2.2.2.1.length q3_4, .slice p3_5 a.2.2.2.2.2.2.length q3_5] ∧ Rd w p3_1 q3_1 a.2.2.1 ∧ RdL bytC w p3_3 q3_3 a.2.2.2.2.1 ∧ RdL bytC w p3_4 q3_4 a.2.2.2.2.2.1 ∧ RdL holdC w p3_5 q3_5 a.2.2.2.2.2.2 := by
  obtain ⟨us0, ts0, rfl, h0, us1, ts1, rfl, h1, h2⟩ := h
  have e0 : us0 = [Value.int .i64 _] := h0
  subst e0
  have e1 : us1 = [Value.int .i64 _] := h1
  subst e1
  obtain ⟨p3_1, q3_1, p3_3, q3_3, p3_4, q3_4, p3_5, q3_5, rfl, r3_1, r3_3, r3_4, r3_5⟩ := session_rep h2
  exact ⟨p3_1, q3_1, p3_3, q3_3, p3_4, q3_4, p3_5, q3_5, rfl, r3_1, r3_3, r3_4, r3_5⟩
theorem sessionResult_mk {w : World} {a : SessionResultD} {p3_1 : Option Addr} {q3_1 : Nat} {p3_3 : Option Addr} {q3_3 : Nat} {p3_4 : Option Addr} {q3_4 : Nat} {p3_5 : Option Addr} {q3_5 : Nat} (r3_1 : Rd w p3_1 q3_1 a.2.2.1) (r3_3 : RdL bytC w p3_3 q3_3 a.2.2.2.2.1) (r3_4 : RdL bytC w p3_4 q3_4 a.2.2.2.2.2.1) (r3_5 : RdL holdC w p3_5 q3_5 a.2.2.2.2.2.2) : sessionResultC.rep w a [.int .i64 a.1, .int .i64 a.2.1, .slice p3_1 a.2.2.1.length q3_1, .int .i64 a.2.2.2.1, .slice p3_3 a.2.2.2.2.1.length q3_3, .slice p3_4 a.2.2.2.2.2.1.length q3_4, .slice p3_5 a.2.2.2.2.2.2.length q3_5] := ⟨[.int .i64 a.1], _, rfl, rfl, ⟨[.int .i64 a.2.1], _, rfl, rfl, (session_mk r3_1 r3_3 r3_4 r3_5)⟩⟩
def sessionResultT (a : SessionResultD) : Nat := sessionT a.2.2
def sessionResultM (a : SessionResultD) (m : Nat) : SessionResultD := (a.1, a.2.1, sessionM a.2.2 m)

def sessionResultN (a : SessionResultD) : Nat := sessionN a.2.2
theorem sessionResultT_le (a : SessionResultD) : sessionResultT a ≤ 8 * sessionResultN a := by
  have h2 := sessionT_le a.2.2
  unfold sessionResultT sessionResultN
  omega






end Go.Proofs.YtbaldmmbphbinaaGreatDoor

/- The contracts of the laws' helpers on messages, on lists of these, and on answers that hold such a list: toMsg, szMsg, eqMsg, markMsg; toMsgS, szMsgS, eqMsgS, markMsgS, heldMsgS; eqMsgsResult, markMsgsResult, heldMsgsResult. -/
namespace Go.Proofs.YtbaldmmbphbinaaGreatDoor
open Go.ChangeShapes Go.WideShapes Go.ChangeAt Go.RowKit

abbrev MsgD := Int × List UInt8
def msgC : Cod MsgD := prodC (intC .i64) bytC
theorem msg_rep {w : World} {a : MsgD} {vs : List Value} (h : msgC.rep w a vs) : ∃ p q, vs = [.int .i64 a.1, .slice p a.2.length q] ∧ Rd w p q a.2 := by
  obtain ⟨us, ts, rfl, h1, p, q, rfl, r⟩ := h
  exact ⟨p, q, by rw [h1]; rfl, r⟩
theorem msg_mk {w : World} {a : MsgD} {p : Option Addr} {q : Nat} (r : Rd w p q a.2) : msgC.rep w a [.int .i64 a.1, .slice p a.2.length q] := ⟨[_], [_], rfl, rfl, p, q, rfl, r⟩
theorem msg_own {w : World} {B : Nat} {a : MsgD} {vs : List Value} {fp : List Nat} (h : msgC.own w B a vs fp) : ∃ v, vs = [.int .i64 a.1, v] ∧ Own w B v a.2 ∧ fp = v.ownBlock.toList := by
  obtain ⟨us, ts, f, g, rfl, rfl, _, ⟨rfl, rfl⟩, v, rfl, o, rfl⟩ := h
  exact ⟨v, rfl, o, rfl⟩
theorem msg_own_mk {w : World} {B : Nat} {a : MsgD} {v : Value} (o : Own w B v a.2) : msgC.own w B a [.int .i64 a.1, v] v.ownBlock.toList :=
  ⟨[_], [_], [], _, rfl, rfl, nodup_opt _, ⟨rfl, rfl⟩, v, rfl, o, rfl⟩


theorem infoMsg : (Tryz.prog.info? 251).map (fun i => (i.zero, i.size, i.bytes)) = some (some (.agg #[.int .i64 0, .slice none 0 0]), 2, 32) := by kernel_rfl
def bulkM (l : List MsgD) : Nat := (l.map (fun a => a.2.length)).sum + l.length
theorem bulkM_at {l : List MsgD} {i : Nat} {a : MsgD} (h : l[i]? = some a) : a.2.length ≤ bulkM l := by
  have hm := List.mem_of_getElem? h
  have h2 : ∀ l : List MsgD, a ∈ l → a.2.length ≤ (l.map (fun a : MsgD => a.2.length)).sum := fun l => by
    induction l with
    | nil => intro h; cases h
    | cons b l ih =>
      intro h
      rw [List.map_cons, List.sum_cons]
      rcases List.mem_cons.1 h with rfl | h
      · omega
      · have := ih h; omega
  have := h2 l hm
  unfold bulkM; omega



def mkM : List MsgD → Nat → List MsgD
  | [], _ => []
  | a :: l, m => ((m : Int), marks (m + 1) a.2.length) :: mkM l (m + 1 + a.2.length)
theorem bulkM_cons (a : MsgD) (l : List MsgD) : bulkM (a :: l) = a.2.length + 1 + bulkM l := by simp [bulkM]; omega
theorem bulkM_append (l r : List MsgD) : bulkM (l ++ r) = bulkM l + bulkM r := by simp [bulkM]; omega
theorem mkM_append : ∀ (l r : List MsgD) (m : Nat), mkM (l ++ r) m = mkM l m ++ mkM r (m + bulkM l)
  | [], r, m => by simp [mkM, bulkM]
  | a :: l, r, m => by
    rw [List.cons_append, mkM, mkM, mkM_append l r, bulkM_cons, List.cons_append, show m + 1 + a.2.length + bulkM l = m + (a.2.length + 1 + bulkM l) by omega]
theorem mkM_len : ∀ (l : List MsgD) (m : Nat), (mkM l m).length = l.length
  | [], _ => rfl
  | a :: l, m => by rw [mkM, List.length_cons, mkM_len l, List.length_cons]
theorem mkM_take {l : List MsgD} {k : Nat} {a : MsgD} (h : l[k]? = some a) (m : Nat) : mkM (l.take (k + 1)) m = mkM (l.take k) m ++ [(((m + bulkM (l.take k) : Nat) : Int), marks (m + bulkM (l.take k) + 1) a.2.length)] := by
  rw [List.take_add_one, h, mkM_append]; rfl
theorem bulkM_take {l : List MsgD} {k : Nat} {a : MsgD} (h : l[k]? = some a) : bulkM (l.take (k + 1)) = bulkM (l.take k) + a.2.length + 1 := by
  rw [List.take_add_one, h, bulkM_append]; simp [bulkM]; omega
theorem bulkM_le (l : List MsgD) (k : Nat) : bulkM (l.take k) ≤ bulkM l := by
  conv => rhs; rw [← List.take_append_drop k l, bulkM_append]
  omega


theorem mkM_at {l : List MsgD} {k : Nat} {a : MsgD} (h : l[k]? = some a) (m : Nat) : (mkM l m)[k]? = some (((m + bulkM (l.take k) : Nat) : Int), marks (m + bulkM (l.take k) + 1) a.2.length) := by
  have hk := (List.getElem?_eq_some_iff.1 h).1
  conv => lhs; rw [← List.take_append_drop k l, drop_at h, mkM_append]
  rw [List.getElem?_append_right (by rw [mkM_len, List.length_take]; omega), mkM_len, List.length_take, Nat.min_eq_left (by omega), Nat.sub_self]
  rfl


end Go.Proofs.YtbaldmmbphbinaaGreatDoor

/- Lists of Sign as data (Cod), and the contracts of the laws' helpers on them (written by tools/listgen.py). -/
namespace Go.Proofs.YtbaldmmbphbinaaGreatDoor
open Go.ChangeShapes Go.WideShapes Go.ChangeAt Go.RowKit

abbrev signsC : Cod (List SignD) := listC 67 signC
theorem infoSign : (Tryz.prog.info? 67).map (fun i => (i.zero, i.size, i.bytes)) = some (some (.agg #[.int .i64 0, .int .i64 0, .slice none 0 0]), 3, 40) := by kernel_rfl
def sumSign (l : List SignD) : Nat := (l.map (fun a => a.2.2.length)).sum
def sizeSign (l : List SignD) : Nat := sumSign l + l.length
def bulkSign (l : List SignD) : Nat := sumSign l + 2 * l.length
theorem bulkSign_le8 (l : List SignD) : bulkSign l ≤ 8 * sizeSign l := by unfold bulkSign sizeSign; omega
theorem sumSign_at {l : List SignD} {i : Nat} {a : SignD} (h : l[i]? = some a) : a.2.2.length ≤ sumSign l := by
  have hm := List.mem_of_getElem? h
  have h2 : ∀ l : List SignD, a ∈ l → a.2.2.length ≤ (l.map (fun a : SignD => a.2.2.length)).sum := fun l => by
    induction l with
    | nil => intro h; cases h
    | cons b l ih =>
      intro h
      rw [List.map_cons, List.sum_cons]
      rcases List.mem_cons.1 h with rfl | h
      · omega
      · have := ih h; omega
  exact h2 l hm
theorem sumSign_take {l : List SignD} {k : Nat} {a : SignD} (h : l[k]? = some a) : sumSign (l.take (k + 1)) = sumSign (l.take k) + a.2.2.length := by
  rw [List.take_add_one, h]; simp [sumSign]
theorem sumSign_le (l : List SignD) (k : Nat) : sumSign (l.take k) ≤ sumSign l := by
  conv => rhs; rw [← List.take_append_drop k l]
  unfold sumSign
  rw [List.map_append, List.sum_append]; omega
theorem sign_own {w : World} {B : Nat} {a : SignD} {vs : List Value} {fp : List Nat} (h : signC.own w B a vs fp) : ∃ v, vs = [.int .i64 a.1, .int .i64 a.2.1, v] ∧ Own w B v a.2.2 ∧ fp = v.ownBlock.toList := by
  obtain ⟨us0, ts0, f0, g0, rfl, rfl, _, ⟨rfl, rfl⟩, us1, ts1, f1, g1, rfl, rfl, _, ⟨rfl, rfl⟩, v, rfl, o, rfl⟩ := h
  exact ⟨v, rfl, o, rfl⟩
theorem sign_own_mk {w : World} {B : Nat} {a : SignD} {v : Value} (o : Own w B v a.2.2) : signC.own w B a [.int .i64 a.1, .int .i64 a.2.1, v] v.ownBlock.toList :=
  ⟨[_], _, [], _, rfl, rfl, nodup_opt _, ⟨rfl, rfl⟩, [_], _, [], _, rfl, rfl, nodup_opt _, ⟨rfl, rfl⟩, v, rfl, o, rfl⟩
def mkSign : List SignD → Nat → List SignD
  | [], _ => []
  | a :: l, m => (((m : Nat) : Int), ((m : Nat) : Int) + 1, marks (m + 2) a.2.2.length) :: mkSign l (m + 2 + a.2.2.length)
theorem bulkSign_cons (a : SignD) (l : List SignD) : bulkSign (a :: l) = a.2.2.length + 2 + bulkSign l := by simp [bulkSign, sumSign]; omega
theorem bulkSign_append (l r : List SignD) : bulkSign (l ++ r) = bulkSign l + bulkSign r := by simp [bulkSign, sumSign]; omega
theorem mkSign_append : ∀ (l r : List SignD) (m : Nat), mkSign (l ++ r) m = mkSign l m ++ mkSign r (m + bulkSign l)
  | [], r, m => by simp [mkSign, bulkSign, sumSign]
  | a :: l, r, m => by
    rw [List.cons_append, mkSign, mkSign, mkSign_append l r, bulkSign_cons, List.cons_append, show m + 2 + a.2.2.length + bulkSign l = m + (a.2.2.length + 2 + bulkSign l) by omega]
theorem mkSign_len : ∀ (l : List SignD) (m : Nat), (mkSign l m).length = l.length
  | [], _ => rfl
  | a :: l, m => by rw [mkSign, List.length_cons, mkSign_len l, List.length_cons]
theorem mkSign_take {l : List SignD} {k : Nat} {a : SignD} (h : l[k]? = some a) (m : Nat) : mkSign (l.take (k + 1)) m = mkSign (l.take k) m ++ [(((m + bulkSign (l.take k) : Nat) : Int), ((m + bulkSign (l.take k) : Nat) : Int) + 1, marks (m + bulkSign (l.take k) + 2) a.2.2.length)] := by
  rw [List.take_add_one, h, mkSign_append]; rfl
theorem bulkSign_take {l : List SignD} {k : Nat} {a : SignD} (h : l[k]? = some a) : bulkSign (l.take (k + 1)) = bulkSign (l.take k) + a.2.2.length + 2 := by
  rw [List.take_add_one, h, bulkSign_append]; simp [bulkSign, sumSign]; omega
theorem bulkSign_le (l : List SignD) (k : Nat) : bulkSign (l.take k) ≤ bulkSign l := by
  conv => rhs; rw [← List.take_append_drop k l, bulkSign_append]
  omega
theorem mkSign_at {l : List SignD} {k : Nat} {a : SignD} (h : l[k]? = some a) (m : Nat) : (mkSign l m)[k]? = some (((m + bulkSign (l.take k) : Nat) : Int), ((m + bulkSign (l.take k) : Nat) : Int) + 1, marks (m + bulkSign (l.take k) + 2) a.2.2.length) := by
  have hk := (List.getElem?_eq_some_iff.1 h).1
  conv => lhs; rw [← List.take_append_drop k l, drop_at h, mkSign_append]
  rw [List.getElem?_append_right (by rw [mkSign_len, List.length_take]; omega), mkSign_len, List.length_take, Nat.min_eq_left (by omega), Nat.sub_self]
  rfl
end Go.Proofs.YtbaldmmbphbinaaGreatDoor

/- How AuthResult lies in memory, and the contracts of the laws' helpers on it (written by tools/codgen.py). -/
namespace Go.Proofs.YtbaldmmbphbinaaGreatDoor
open Go.ChangeShapes Go.WideShapes Go.ChangeAt Go.RowKit

abbrev AuthResultD := Int × AuthD
def authResultC : Cod AuthResultD := prodC (intC .i64) authC
theorem authResult_rep {w : World} {a : AuthResultD} {vs : List Value} (h : authResultC.rep w a vs) : ∃ p2_1 q2_1 p2_4 q2_4, vs = [.int .i64 a.1, .slice p2_1 a.2.1.length q2_1, .int .i64 a.2.2.1.1, .int .i64 a.2.2.1.2.1, .int .i64 a.2.2.1.2.2, .int .i64 a.2.2.2.1, .slice p2_4 a.2.2.2.2.length q2_4] ∧ Rd w p2_1 q2_1 a.2.1 ∧ Rd w p2_4 q2_4 a.2.2.2.2 := by
  obtain ⟨us0, ts0, rfl, h0, h1⟩ := h
  have e0 : us0 = [Value.int .i64 _] := h0
  subst e0
  obtain ⟨p2_1, q2_1, p2_4, q2_4, rfl, r2_1, r2_4⟩ := auth_rep h1
  exact ⟨p2_1, q2_1, p2_4, q2_4, rfl, r2_1, r2_4⟩
theorem authResult_mk {w : World} {a : AuthResultD} {p2_1 : Option Addr} {q2_1 : Nat} {p2_4 : Option Addr} {q2_4 : Nat} (r2_1 : Rd w p2_1 q2_1 a.2.1) (r2_4 : Rd w p2_4 q2_4 a.2.2.2.2) : authResultC.rep w a [.int .i64 a.1, .slice p2_1 a.2.1.length q2_1, .int .i64 a.2.2.1.1, .int .i64 a.2.2.1.2.1, .int .i64 a.2.2.1.2.2, .int .i64 a.2.2.2.1, .slice p2_4 a.2.2.2.2.length q2_4] := ⟨[.int .i64 a.1], _, rfl, rfl, (auth_mk r2_1 r2_4)⟩
def authResultT (a : AuthResultD) : Nat := authT a.2
def authResultM (a : AuthResultD) (m : Nat) : AuthResultD := (a.1, authM a.2 m)

def authResultN (a : AuthResultD) : Nat := authN a.2
theorem authResultT_le (a : AuthResultD) : authResultT a ≤ 8 * authResultN a := by
  have h1 := authT_le a.2
  unfold authResultT authResultN
  omega






end Go.Proofs.YtbaldmmbphbinaaGreatDoor

/- The contracts of the draws of bytes and of texts: some bytes, at most so many; some text. -/
namespace Go.Proofs.YtbaldmmbphbinaaGreatDoor
open Go.ChangeShapes Go.WideShapes Go.ChangeAt Go.RowKit

/-- Behind a call that writes, of what lay there, block b alone: a step that writes new blocks alone. -/
theorem grownBy_step {w x y : World} {b : Nat} {row : Option Nat} (h : w.grownBy x (some b)) (k : x.grownBy y row) (hr : ∀ j, row = some j → w.heap.size ≤ j ∨ j = b) : w.grownBy y (some b) :=
  ⟨k.os.trans h.os, k.tape.trans h.tape, k.output.trans h.output, Nat.le_trans h.size k.size, fun i hi hne =>
    (k.block i (Nat.lt_of_lt_of_le hi h.size) (fun e => by
      rcases hr i e.symm with h1 | h1
      · omega
      · exact hne (by rw [h1]))).trans (h.block i hi hne)⟩

set_option maxRecDepth 4000 in
set_option maxHeartbeats 1000000 in
theorem l1Chance_c (b : Nat) (p : Option Addr) (q : Nat) (cs : List UInt8) (t n : Int) (w : World) (hs : Src w b p q cs t) (ht : 0 ≤ t) (ht2 : t ≤ 1000000000) (hn : 1 ≤ n) (hn2 : n ≤ 1000000) :
    Calls Tryz.prog 15 #[.pointer (some ⟨b, 0, none⟩), .int .i64 n] w fun e w' => ∃ r : Bool, e = .returned (.bool r) ∧ Src w' b p q cs (t + 1) ∧ w.grownBy w' (some b) := by
  go_enter Tryz.func15, Tryz.ntmps15
  go_wp2_with fail
  refine (l1Next_c b p q cs t n w hs ht ht2 hn (by omega)).mono ?_
  rintro e w1 ⟨r, rfl, hr0, hr1, hs1, hg1⟩
  go_wp2
  go_ret
  exact ⟨_, rfl, hs1, hg1⟩

set_option maxRecDepth 4000 in
set_option maxHeartbeats 2000000 in
theorem l1Some_c (b : Nat) (p : Option Addr) (q : Nat) (cs : List UInt8) (t n : Int) (w : World) (hs : Src w b p q cs t) (ht : 0 ≤ t) (ht2 : t ≤ 900000000) (hn : 0 ≤ n) (hn2 : n ≤ 1000000) :
    Calls Tryz.prog 49 #[.pointer (some ⟨b, 0, none⟩), .int .i64 n] w fun e w' => ∃ (u : Value) (bs : List UInt8), e = .returned u ∧ bs.length = n.toNat ∧ Own w' w.heap.size u bs ∧ Src w' b p q cs (t + n) ∧ w.grownBy w' (some b) := by
  obtain ⟨i0, hi, hz0, hz1, hz2⟩ := info_parts info8
  have hbw := hs.lt
  go_enter Tryz.func49, Tryz.ntmps49
  go_wp2
  go_loopw [1, 5] (fun m v wr => ∃ (k : Nat) (bs : List UInt8), (k : Int) ≤ n ∧ m = .int .i64 (n - k) ∧ bs.length = k ∧ Own wr w.heap.size v bs ∧ Src wr b p q cs (t + k) ∧ w.grownBy wr (some b))
    (fun m _ _ => (intOf m).toNat)
  case atStart => exact ⟨0, [], by omega, by simp, rfl, ⟨by simp, .inr ⟨w.heap.size, 0, #[], rfl, Nat.le_refl _, heap_alloc_new w _, Nat.le_refl _, by simp [maxLen], by simp, by simp⟩⟩, by simpa using hs.keep (alloc_below _ _), World.grownBy_alloc _ _ _⟩
  case round =>
    obtain ⟨k, bs, hk, rfl, hbs, ho, hs1, hg⟩ := hrel
    obtain ⟨pv, cv, rfl, -⟩ := ho.rd
    by_cases hend : (k : Int) = n
    · have hge : n - (k : Int) ≤ 0 := by omega
      have HE : Hid ((k : Int) = n) := hend
      clear hend
      go_wp2
      go_ret
      exact ⟨_, bs, rfl, by have := HE.out; omega, ho, by have := HE.out; rw [← this]; exact hs1, hg⟩
    · have hpos : 0 < n - (k : Int) := by omega
      go_wp2_with fail
      refine (l1Next_c b p q cs (t + k) 256 wr hs1 (by omega) (by omega) (by omega) (by omega)).mono ?_
      rintro e w1 ⟨r, rfl, hr0, hr1, hs2, hg2⟩
      have ho1 := ho.other hg2 (fun j hj e => by have := ho.ge j hj; simp at e; omega)
      have ho2 : w1.ownsRow w.heap.size 5 1 (.slice pv k cv) k (bs.map u8v) := by have h := ho1; unfold Own at h; rw [hbs] at h; exact h
      have hge : Hid (∀ j, (Value.slice pv k cv).ownBlock = some j → w.heap.size ≤ j) := fun j hj => (World.ownsRow.lt ho2 j hj).1
      have hsz : w.heap.size ≤ w1.heap.size := Nat.le_trans hg.size hg2.size
      have hkk : k ≤ 1000000 := by omega
      rw [hbs]
      go_wp2_with (first
        | (at_builtin; refine wpList_append_lies _ rfl (.tmp 11) (.tmp 15) 22 rfl w.heap.size 5 i0 (.int .u8 0) 1 1 Tryz.underlying22 hi hz0 hz1 hz2 rfl (by decide) (.slice pv k cv) k (bs.map u8v) rfl (World.ownsRow.alloc ho2 _) ⟨w1.heap.size, 0, none⟩ 1 1 [.int .u8 r] rfl rfl (cell_one_new w1 _ _) (by intro u hu; simp at hu; subst hu; rfl) (by decide) (by unfold maxLen; omega) (by omega) (by simp; omega) (w1.heap.size + 1) (by simp) ?_; intro g cap2 w3 hown3 hgrow3 hat3 hlt3)
        | go_in)
      have er : r = ((UInt8.ofNat r.toNat).toNat : Int) := by rw [UInt8.toNat_ofNat']; omega
      have R : Own w3 w.heap.size (.slice (some ⟨g, 0, none⟩) (k + 1) cap2) (bs ++ [UInt8.ofNat r.toNat]) := by
        refine own_one ?_
        rw [← er, hbs]
        exact hown3
      have RS : Src w3 b p q cs (t + k + 1) := (hs2.keep (alloc_below _ _)).other hgrow3 (fun j hj => by have := hge.out j hj; omega)
      have RG : w.grownBy w3 (some b) := grownBy_step (grownBy_step (grownBy_step hg hg2 (fun j hj => .inr (by simpa using hj.symm))) (World.grownBy_alloc _ _ none) (fun j hj => by simp at hj)) hgrow3 (fun j hj => .inl (hge.out j hj))
      go_roundw
      case rel => exact ⟨k + 1, bs ++ [UInt8.ofNat r.toNat], by omega, by go_num, by simp [hbs], R, by rw [show t + ((k + 1 : Nat) : Int) = t + k + 1 by omega]; exact RS, RG⟩
      case measure => simp [intOf]; omega


end Go.Proofs.YtbaldmmbphbinaaGreatDoor

/- The contract of the draws of chapter 2: spec.l2Draw, spec.DrawDigestOf: some bytes, at most 601. -/
namespace Go.Proofs.YtbaldmmbphbinaaGreatDoor
open Go.ChangeShapes Go.WideShapes Go.ChangeAt Go.RowKit


end Go.Proofs.YtbaldmmbphbinaaGreatDoor

/- The contracts of the draws of chapter 3: keys, data, labels, contexts, numbers: within bounds, no more. -/
namespace Go.Proofs.YtbaldmmbphbinaaGreatDoor
open Go.ChangeShapes Go.WideShapes Go.ChangeAt Go.RowKit



/-- A row that was drawn ahead of other draws. -/
theorem Own.draw {w w' : World} {B b : Nat} {v : Value} {bs : List UInt8} (h : Own w B v bs) (hg : w.grownBy w' (some b)) (hb : b < B) : Own w' B v bs :=
  h.other hg (fun k hk e => by have := h.ge k hk; simp at e; omega)




def labs : List (List UInt8) := [[100, 101, 114, 105, 118, 101, 100], [99, 32, 104, 115, 32, 116, 114, 97, 102, 102, 105, 99], [102, 105, 110, 105, 115, 104, 101, 100], [97], [], [120, 10], [97, 98, 99, 100, 101, 102, 103, 104, 105, 106, 107, 108, 109, 110, 111, 112, 113, 114, 115, 116, 117, 118, 119, 120, 121, 122, 97, 98, 99, 100, 101, 102, 103, 104, 105, 106, 107, 108, 109, 110, 111]]
def labsV : List Value := labs.map (fun l => .string (strB l))
theorem labsV_at {k : Nat} (h : k < 7) : ∃ l : List UInt8, labsV[k]? = some (.string (strB l)) ∧ l.length ≤ 41 := by
  have hl : k < labs.length := h
  refine ⟨labs[k], by simp [labsV, hl], ?_⟩
  have : ∀ x ∈ labs, x.length ≤ 41 := by unfold labs; decide
  exact this _ (List.getElem_mem hl)




end Go.Proofs.YtbaldmmbphbinaaGreatDoor

/- The contracts of MixRound and of what it calls besides a round, in the specification and in the program: both answer mixCode and mixList, at every argument. -/
namespace Go.Proofs.YtbaldmmbphbinaaGreatDoor
open Go.ChangeShapes Go.WideShapes Go.ChangeAt Go.RowKit

def isW (v : Int) : Bool := inB v 0 4294967295
def mixOk (l : List Int) (word key : Int) : Bool := l.all isW && isW word && isW key
def s8 (l : List Int) : S8 := ⟨(atI l 0).toNat, (atI l 1).toNat, (atI l 2).toNat, (atI l 3).toNat, (atI l 4).toNat, (atI l 5).toNat, (atI l 6).toNat, (atI l 7).toNat⟩
def mixCode (l : List Int) (word key : Int) : Int := if l.length = 8 then (if mixOk l word key then 0 else 3) else 1
def mixList (l : List Int) (word key : Int) : List Int := if l.length = 8 then (if mixOk l word key then (roundN (s8 l) word.toNat key.toNat).list.map Int.ofNat else []) else []
theorem mixList_len (l : List Int) (word key : Int) : (mixList l word key).length ≤ 8 := by
  unfold mixList; split
  · split <;> simp [S8.list]
  · simp
theorem isW_at {l : List Int} (h : l.all isW = true) (i : Nat) : 0 ≤ atI l i ∧ atI l i ≤ 4294967295 := by
  unfold atI
  rw [List.getD_eq_getElem?_getD]
  cases e : l[i]? with
  | none => simp
  | some x =>
    have h2 := (List.all_eq_true.1 h) x (List.mem_of_getElem? e)
    simpa [isW, inB] using h2
theorem all_of_at {l : List Int} (h : ∀ j, j < l.length → isW (atI l j) = true) : l.all isW = true := by
  rw [List.all_eq_true]
  intro x hx
  obtain ⟨i, hi, rfl⟩ := List.mem_iff_getElem.1 hx
  rw [← atI_get hi]; exact h i hi
theorem not_all_at {l : List Int} {j : Nat} (hj : j < l.length) (h : isW (atI l j) = false) : l.all isW = false := by
  rw [List.all_eq_false]
  exact ⟨l[j], List.getElem_mem hj, by rw [← atI_get hj, h]; simp⟩
theorem partI_arr (l : List Int) (k : Nat) (h : k < l.length) : (partI l l.length k).set k (.int .i64 (atI l k)) = partI l l.length (k + 1) := partI_set l k h

theorem i64_of_l {l : List Int} (h : l.length = 8) (ha : l.all isW = true) : (l.map i64z).toArray = (s8 l).i64 := by
  have e := fun i => Int.toNat_of_nonneg (isW_at ha i).1
  have e0 := e 0; have e1 := e 1; have e2 := e 2; have e3 := e 3; have e4 := e 4; have e5 := e 5; have e6 := e 6; have e7 := e 7
  unfold S8.i64 s8
  simp only [e0, e1, e2, e3, e4, e5, e6, e7]
  match l, h with
  | [a, b, c, d, e, f, g, q], _ => rfl
theorem s8_ok {l : List Int} (ha : l.all isW = true) : (s8 l).ok := by
  have e : ∀ i, (atI l i).toNat < 4294967296 := fun i => by have := isW_at ha i; omega
  exact ⟨e 0, e 1, e 2, e 3, e 4, e 5, e 6, e 7⟩
theorem isW_nat {v : Int} (h : isW v = true) : ∃ n : Nat, v = n ∧ n < 4294967296 := by
  simp [isW, inB] at h
  exact ⟨v.toNat, by omega, by omega⟩
theorem l2Round_s (s : S8) (word key : Nat) (w : World) (h : s.ok) (hw : word < 4294967296) (hk : key < 4294967296) :
    Calls Tryz.prog 89 #[.agg s.i64, .int .i64 word, .int .i64 key] w fun r w' => r = .returned (.agg (roundN s word key).i64) ∧ Below w.heap.size w w' :=
  l2Round_c s.a s.b s.c s.d s.e s.f s.g s.h word key w h.1 h.2.1 h.2.2.1 h.2.2.2.1 h.2.2.2.2.1 h.2.2.2.2.2.1 h.2.2.2.2.2.2.1 h.2.2.2.2.2.2.2 hw hk
theorem mixed_s (s : S8) (word key : Nat) (w : World) (h : s.ok) :
    Calls Tryz.prog 164 #[.agg s.u32, .int .u32 word, .int .u32 key] w fun r w' => r = .returned (.agg (roundN s word key).u32) ∧ Below w.heap.size w w' :=
  mixed_c s.a s.b s.c s.d s.e s.f s.g s.h word key w h.1 h.2.1 h.2.2.1 h.2.2.2.2.1 h.2.2.2.2.2.1 h.2.2.2.2.2.2.1


def u32z (z : Int) : Value := .int .u32 z
theorem u32z_at {l : List Int} {i : Nat} (h : i < l.length) : (l.map u32z)[i]? = some (.int .u32 (atI l i)) := by simp [u32z, atI, h]
theorem u32_of_l {l : List Int} (h : l.length = 8) (ha : l.all isW = true) : (l.map u32z).toArray = (s8 l).u32 := by
  have e := fun i => Int.toNat_of_nonneg (isW_at ha i).1
  have e0 := e 0; have e1 := e 1; have e2 := e 2; have e3 := e 3; have e4 := e 4; have e5 := e 5; have e6 := e 6; have e7 := e 7
  unfold S8.u32 s8
  simp only [e0, e1, e2, e3, e4, e5, e6, e7]
  match l, h with
  | [a, b, c, d, e, f, g, q], _ => rfl



theorem allW_nat {ws : List Nat} (h : Words ws) : (ws.map Int.ofNat).all isW = true := by
  rw [List.all_eq_true]
  intro x hx
  obtain ⟨n, hn, rfl⟩ := List.mem_map.1 hx
  have := h n hn
  simp [isW, inB]
  omega
theorem S8.words {s : S8} (h : s.ok) : Words s.list := by
  intro x hx
  simp only [S8.list, List.mem_cons, List.not_mem_nil, or_false] at hx
  obtain ⟨h1, h2, h3, h4, h5, h6, h7, h8⟩ := h
  rcases hx with rfl | rfl | rfl | rfl | rfl | rfl | rfl | rfl <;> assumption

end Go.Proofs.YtbaldmmbphbinaaGreatDoor

