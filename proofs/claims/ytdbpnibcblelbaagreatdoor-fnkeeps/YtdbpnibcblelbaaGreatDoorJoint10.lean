/- The contract of the laws' count of bytes: szByteS. -/
import Derived.Test.YtdbpnibcblelbaaGreatDoorJoint8
import Derived.Test.YtdbpnibcblelbaaGreatDoorJoint4
import Derived.Test.YtdbpnibcblelbaaGreatDoorJoint5
namespace Go.Proofs.YtdbpnibcblelbaaGreatDoor
open Go.ChangeShapes Go.WideShapes Go.ChangeAt Go.RowKit
end Go.Proofs.YtdbpnibcblelbaaGreatDoor
/- The laws' helpers on bytes, said of data that lies in memory ('Cod'): toByteS, szByteS, markByteS, heldByteS; what a call that writes in just these blocks leaves of an array. -/
namespace Go.Proofs.YtdbpnibcblelbaaGreatDoor
open Go.ChangeShapes Go.WideShapes Go.ChangeAt Go.RowKit
theorem Arr.only {w w' : World} {g : Nat} {t : TypeId} {vs : List Value} {fp : List Nat} (h : Arr w g t vs) (ho : Only fp w w') (hn : g ∉ fp) : Arr w' g t vs := (ho.block g h.lt hn).trans h
theorem Cod.set {α : Type} (c : Cod α) {w : World} {B : Nat} {a : α} {us : List Value} {fp : List Nat} (h : c.own w B a us fp) {p : Addr} (hp : p.block < B) (u : Value) : c.own (w.setCell p u) B a us fp :=
  c.fr h fun k hk => heap_setCell_other _ _ k _ (by have := (c.ins h k hk).1; omega)
theorem own_int {w : World} {B : Nat} {z : Int} {k : IntKind} : (intC k).own w B z [.int k z] [] := ⟨rfl, rfl⟩
theorem lt_nil {m : Nat} : ∀ k, k ∈ ([] : List Nat) → k < m := fun _ h => by cases h
theorem ge_nil {m : Nat} : ∀ k, k ∈ ([] : List Nat) → m ≤ k := fun _ h => by cases h
theorem ge_app {f g : List Nat} {m : Nat} (h1 : ∀ k, k ∈ f → m ≤ k) (h2 : ∀ k, k ∈ g → m ≤ k) : ∀ k, k ∈ f ++ g → m ≤ k := fun k hk => (List.mem_append.1 hk).elim (h1 k) (h2 k)
theorem byt_own {w : World} {B : Nat} {u : Value} {bs : List UInt8} (h : Own w B u bs) : bytC.own w B bs [u] u.ownBlock.toList := ⟨u, rfl, h, rfl⟩
theorem own_pair {α β : Type} {c : Cod α} {d : Cod β} {w : World} {B : Nat} {a : α × β} {us ts : List Value} {f g : List Nat} (m : Nat) (h1 : c.own w B a.1 us f) (h2 : d.own w B a.2 ts g) (hf : ∀ k, k ∈ f → k < m) (hg : ∀ k, k ∈ g → m ≤ k) : (prodC c d).own w B a (us ++ ts) (f ++ g) :=
  ⟨us, ts, f, g, rfl, rfl, List.nodup_append.2 ⟨c.nd h1, d.nd h2, fun x hx y hy e => by subst e; have := hf x hx; have := hg x hy; omega⟩, h1, h2⟩
end Go.Proofs.YtdbpnibcblelbaaGreatDoor
/- How Hello lies in memory, and the contracts of the laws' helpers on it (written by tools/codgen.py). -/
namespace Go.Proofs.YtdbpnibcblelbaaGreatDoor
open Go.ChangeShapes Go.WideShapes Go.ChangeAt Go.RowKit
abbrev HelloD := List UInt8 × Int × Int
def helloC : Cod HelloD := prodC bytC (prodC (intC .i64) ((intC .i64)))
theorem hello_rep {w : World} {a : HelloD} {vs : List Value} (h : helloC.rep w a vs) : ∃ p1 q1, vs = [.slice p1 a.1.length q1, .int .i64 a.2.1, .int .i64 a.2.2] ∧ Rd w p1 q1 a.1 := by
  obtain ⟨us0, ts0, rfl, h0, us1, ts1, rfl, h1, h2⟩ := h
  obtain ⟨p1, q1, rfl, r1⟩ := h0
  have e1 : us1 = [Value.int .i64 _] := h1
  subst e1
  have e2 : _ = [Value.int .i64 _] := h2
  subst e2
  exact ⟨p1, q1, rfl, r1⟩
theorem hello_mk {w : World} {a : HelloD} {p1 : Option Addr} {q1 : Nat} (r1 : Rd w p1 q1 a.1) : helloC.rep w a [.slice p1 a.1.length q1, .int .i64 a.2.1, .int .i64 a.2.2] := ⟨[.slice p1 a.1.length q1], _, rfl, ⟨p1, q1, rfl, r1⟩, ⟨[.int .i64 a.2.1], _, rfl, rfl, rfl⟩⟩
end Go.Proofs.YtdbpnibcblelbaaGreatDoor
/- How HelloResult lies in memory, and the contracts of the laws' helpers on it (written by tools/codgen.py). -/
namespace Go.Proofs.YtdbpnibcblelbaaGreatDoor
open Go.ChangeShapes Go.WideShapes Go.ChangeAt Go.RowKit
abbrev HelloResultD := Int × HelloD
def helloResultC : Cod HelloResultD := prodC (intC .i64) helloC
theorem helloResult_rep {w : World} {a : HelloResultD} {vs : List Value} (h : helloResultC.rep w a vs) : ∃ p2_1 q2_1, vs = [.int .i64 a.1, .slice p2_1 a.2.1.length q2_1, .int .i64 a.2.2.1, .int .i64 a.2.2.2] ∧ Rd w p2_1 q2_1 a.2.1 := by
  obtain ⟨us0, ts0, rfl, h0, h1⟩ := h
  have e0 : us0 = [Value.int .i64 _] := h0
  subst e0
  obtain ⟨p2_1, q2_1, rfl, r2_1⟩ := hello_rep h1
  exact ⟨p2_1, q2_1, rfl, r2_1⟩
end Go.Proofs.YtdbpnibcblelbaaGreatDoor
/- The contracts of the laws' helpers on messages, on lists of these, and on answers that hold such a list: toMsg, szMsg, eqMsg, markMsg; toMsgS, szMsgS, eqMsgS, markMsgS, heldMsgS; eqMsgsResult, markMsgsResult, heldMsgsResult. -/
namespace Go.Proofs.YtdbpnibcblelbaaGreatDoor
open Go.ChangeShapes Go.WideShapes Go.ChangeAt Go.RowKit
abbrev MsgD := Int × List UInt8
def msgC : Cod MsgD := prodC (intC .i64) bytC
theorem msg_rep {w : World} {a : MsgD} {vs : List Value} (h : msgC.rep w a vs) : ∃ p q, vs = [.int .i64 a.1, .slice p a.2.length q] ∧ Rd w p q a.2 := by
  obtain ⟨us, ts, rfl, h1, p, q, rfl, r⟩ := h
  exact ⟨p, q, by rw [h1]; rfl, r⟩
theorem msg_mk {w : World} {a : MsgD} {p : Option Addr} {q : Nat} (r : Rd w p q a.2) : msgC.rep w a [.int .i64 a.1, .slice p a.2.length q] := ⟨[_], [_], rfl, rfl, p, q, rfl, r⟩
theorem msg_own_mk {w : World} {B : Nat} {a : MsgD} {v : Value} (o : Own w B v a.2) : msgC.own w B a [.int .i64 a.1, v] v.ownBlock.toList :=
  ⟨[_], [_], [], _, rfl, rfl, nodup_opt _, ⟨rfl, rfl⟩, v, rfl, o, rfl⟩
theorem infoMsg : (Tryz.prog.info? 82).map (fun i => (i.zero, i.size, i.bytes)) = some (some (.agg #[.int .i64 0, .slice none 0 0]), 2, 32) := by kernel_rfl
def bulkM (l : List MsgD) : Nat := (l.map (fun a => a.2.length)).sum + l.length
theorem bulkM_at {l : List MsgD} {i : Nat} {a : MsgD} (h : l[i]? = some a) : a.2.length ≤ bulkM l := by
  have hm := List.mem_of_getElem? h
  have h2 : ∀ l : List MsgD, a ∈ l → a.2.length ≤ (l.map (fun a : MsgD => a.2.length)).sum := fun l => by
    induction l with
    | nil => intro h; cases h
    | cons b l ih =>
      intro h
      rw [List.map_cons, List.sum_cons]
      rcases List.mem_cons.1 h with rfl | h
      · omega
      · have := ih h; omega
  have := h2 l hm
  unfold bulkM; omega
theorem bulkM_cons (a : MsgD) (l : List MsgD) : bulkM (a :: l) = a.2.length + 1 + bulkM l := by simp [bulkM]; omega
end Go.Proofs.YtdbpnibcblelbaaGreatDoor
/- How Msg lies in memory, and the contracts of the laws' helpers on it (written by tools/codgen.py). -/
namespace Go.Proofs.YtdbpnibcblelbaaGreatDoor
open Go.ChangeShapes Go.WideShapes Go.ChangeAt Go.RowKit
end Go.Proofs.YtdbpnibcblelbaaGreatDoor
/- How MsgResult lies in memory, and the contracts of the laws' helpers on it (written by tools/codgen.py). -/
namespace Go.Proofs.YtdbpnibcblelbaaGreatDoor
open Go.ChangeShapes Go.WideShapes Go.ChangeAt Go.RowKit
abbrev MsgResultD := Int × MsgD
def msgResultC : Cod MsgResultD := prodC (intC .i64) msgC
end Go.Proofs.YtdbpnibcblelbaaGreatDoor
/- How Side lies in memory, and the contracts of the laws' helpers on it (written by tools/codgen.py). -/
namespace Go.Proofs.YtdbpnibcblelbaaGreatDoor
open Go.ChangeShapes Go.WideShapes Go.ChangeAt Go.RowKit
abbrev SideD := Int × List UInt8 × Int × List UInt8
def sideC : Cod SideD := prodC (intC .i64) (prodC bytC (prodC (intC .i64) bytC))
theorem side_rep {w : World} {a : SideD} {vs : List Value} (h : sideC.rep w a vs) : ∃ p2 q2 p4 q4, vs = [.int .i64 a.1, .slice p2 a.2.1.length q2, .int .i64 a.2.2.1, .slice p4 a.2.2.2.length q4] ∧ Rd w p2 q2 a.2.1 ∧ Rd w p4 q4 a.2.2.2 := by
  obtain ⟨us0, ts0, rfl, h0, us1, ts1, rfl, h1, us2, ts2, rfl, h2, h3⟩ := h
  have e0 : us0 = [Value.int .i64 _] := h0
  subst e0
  obtain ⟨p2, q2, rfl, r2⟩ := h1
  have e2 : us2 = [Value.int .i64 _] := h2
  subst e2
  obtain ⟨p4, q4, rfl, r4⟩ := h3
  exact ⟨p2, q2, p4, q4, rfl, r2, r4⟩
theorem side_mk {w : World} {a : SideD} {p2 : Option Addr} {q2 : Nat} {p4 : Option Addr} {q4 : Nat} (r2 : Rd w p2 q2 a.2.1) (r4 : Rd w p4 q4 a.2.2.2) : sideC.rep w a [.int .i64 a.1, .slice p2 a.2.1.length q2, .int .i64 a.2.2.1, .slice p4 a.2.2.2.length q4] := ⟨[.int .i64 a.1], _, rfl, rfl, ⟨[.slice p2 a.2.1.length q2], _, rfl, ⟨p2, q2, rfl, r2⟩, ⟨[.int .i64 a.2.2.1], _, rfl, rfl, ⟨p4, q4, rfl, r4⟩⟩⟩⟩
def sideT (a : SideD) : Nat := a.2.1.length + a.2.2.2.length
end Go.Proofs.YtdbpnibcblelbaaGreatDoor
/- How Secrets lies in memory, and the contracts of the laws' helpers on it (written by tools/codgen.py). -/
namespace Go.Proofs.YtdbpnibcblelbaaGreatDoor
open Go.ChangeShapes Go.WideShapes Go.ChangeAt Go.RowKit
abbrev SecretsD := List UInt8 × List UInt8 × List UInt8 × List UInt8
def secretsC : Cod SecretsD := prodC bytC (prodC bytC (prodC bytC bytC))
theorem secrets_rep {w : World} {a : SecretsD} {vs : List Value} (h : secretsC.rep w a vs) : ∃ p1 q1 p2 q2 p3 q3 p4 q4, vs = [.slice p1 a.1.length q1, .slice p2 a.2.1.length q2, .slice p3 a.2.2.1.length q3, .slice p4 a.2.2.2.length q4] ∧ Rd w p1 q1 a.1 ∧ Rd w p2 q2 a.2.1 ∧ Rd w p3 q3 a.2.2.1 ∧ Rd w p4 q4 a.2.2.2 := by
  obtain ⟨us0, ts0, rfl, h0, us1, ts1, rfl, h1, us2, ts2, rfl, h2, h3⟩ := h
  obtain ⟨p1, q1, rfl, r1⟩ := h0
  obtain ⟨p2, q2, rfl, r2⟩ := h1
  obtain ⟨p3, q3, rfl, r3⟩ := h2
  obtain ⟨p4, q4, rfl, r4⟩ := h3
  exact ⟨p1, q1, p2, q2, p3, q3, p4, q4, rfl, r1, r2, r3, r4⟩
theorem secrets_mk {w : World} {a : SecretsD} {p1 : Option Addr} {q1 : Nat} {p2 : Option Addr} {q2 : Nat} {p3 : Option Addr} {q3 : Nat} {p4 : Option Addr} {q4 : Nat} (r1 : Rd w p1 q1 a.1) (r2 : Rd w p2 q2 a.2.1) (r3 : Rd w p3 q3 a.2.2.1) (r4 : Rd w p4 q4 a.2.2.2) : secretsC.rep w a [.slice p1 a.1.length q1, .slice p2 a.2.1.length q2, .slice p3 a.2.2.1.length q3, .slice p4 a.2.2.2.length q4] := ⟨[.slice p1 a.1.length q1], _, rfl, ⟨p1, q1, rfl, r1⟩, ⟨[.slice p2 a.2.1.length q2], _, rfl, ⟨p2, q2, rfl, r2⟩, ⟨[.slice p3 a.2.2.1.length q3], _, rfl, ⟨p3, q3, rfl, r3⟩, ⟨p4, q4, rfl, r4⟩⟩⟩⟩
def secretsT (a : SecretsD) : Nat := a.1.length + a.2.1.length + a.2.2.1.length + a.2.2.2.length
end Go.Proofs.YtdbpnibcblelbaaGreatDoor
/- Lists of messages as data (Cod), and the contracts of the laws' helpers on them. -/
namespace Go.Proofs.YtdbpnibcblelbaaGreatDoor
open Go.ChangeShapes Go.WideShapes Go.ChangeAt Go.RowKit
abbrev msgsC : Cod (List MsgD) := listC 82 msgC
end Go.Proofs.YtdbpnibcblelbaaGreatDoor
/- How End lies in memory, and the contracts of the laws' helpers on it (written by tools/codgen.py). -/
namespace Go.Proofs.YtdbpnibcblelbaaGreatDoor
open Go.ChangeShapes Go.WideShapes Go.ChangeAt Go.RowKit
abbrev EndD := SideD × Int × Int × List MsgD × List UInt8 × SecretsD
def endC : Cod EndD := prodC sideC (prodC (intC .i64) (prodC (intC .i64) (prodC msgsC (prodC bytC secretsC))))
theorem end_rep {w : World} {a : EndD} {vs : List Value} (h : endC.rep w a vs) : ∃ p1_2 q1_2 p1_4 q1_4 p4 q4 p5 q5 p6_1 q6_1 p6_2 q6_2 p6_3 q6_3 p6_4 q6_4, vs = [.int .i64 a.1.1, .slice p1_2 a.1.2.1.length q1_2, .int .i64 a.1.2.2.1, .slice p1_4 a.1.2.2.2.length q1_4, .int .i64 a.2.1, .int .i64 a.2.2.1, .slice p4 a.2.2.2.1.length q4, .slice p5 a.2.2.2.2.1.length q5, .slice p6_1 a.2.2.2.2.2.1.length q6_1, .slice p6_2 a.2.2.2.2.2.2.1.length q6_2, .slice p6_3 a.2.2.2.2.2.2.2.1.length q6_3, .slice p6_4 a.2.2.2.2.2.2.2.2.length q6_4] ∧ Rd w p1_2 q1_2 a.1.2.1 ∧ Rd w p1_4 q1_4 a.1.2.2.2 ∧ RdL msgC w p4 q4 a.2.2.2.1 ∧ Rd w p5 q5 a.2.2.2.2.1 ∧ Rd w p6_1 q6_1 a.2.2.2.2.2.1 ∧ Rd w p6_2 q6_2 a.2.2.2.2.2.2.1 ∧ Rd w p6_3 q6_3 a.2.2.2.2.2.2.2.1 ∧ Rd w p6_4 q6_4 a.2.2.2.2.2.2.2.2 := by
  obtain ⟨us0, ts0, rfl, h0, us1, ts1, rfl, h1, us2, ts2, rfl, h2, us3, ts3, rfl, h3, us4, ts4, rfl, h4, h5⟩ := h
  obtain ⟨p1_2, q1_2, p1_4, q1_4, rfl, r1_2, r1_4⟩ := side_rep h0
  have e1 : us1 = [Value.int .i64 _] := h1
  subst e1
  have e2 : us2 = [Value.int .i64 _] := h2
  subst e2
  obtain ⟨p4, q4, rfl, r4⟩ := h3
  obtain ⟨p5, q5, rfl, r5⟩ := h4
  obtain ⟨p6_1, q6_1, p6_2, q6_2, p6_3, q6_3, p6_4, q6_4, rfl, r6_1, r6_2, r6_3, r6_4⟩ := secrets_rep h5
  exact ⟨p1_2, q1_2, p1_4, q1_4, p4, q4, p5, q5, p6_1, q6_1, p6_2, q6_2, p6_3, q6_3, p6_4, q6_4, rfl, r1_2, r1_4, r4, r5, r6_1, r6_2, r6_3, r6_4⟩
theorem end_mk {w : World} {a : EndD} {p1_2 : Option Addr} {q1_2 : Nat} {p1_4 : Option Addr} {q1_4 : Nat} {p4 : Option Addr} {q4 : Nat} {p5 : Option Addr} {q5 : Nat} {p6_1 : Option Addr} {q6_1 : Nat} {p6_2 : Option Addr} {q6_2 : Nat} {p6_3 : Option Addr} {q6_3 : Nat} {p6_4 : Option Addr} {q6_4 : Nat} (r1_2 : Rd w p1_2 q1_2 a.1.2.1) (r1_4 : Rd w p1_4 q1_4 a.1.2.2.2) (r4 : RdL msgC w p4 q4 a.2.2.2.1) (r5 : Rd w p5 q5 a.2.2.2.2.1) (r6_1 : Rd w p6_1 q6_1 a.2.2.2.2.2.1) (r6_2 : Rd w p6_2 q6_2 a.2.2.2.2.2.2.1) (r6_3 : Rd w p6_3 q6_3 a.2.2.2.2.2.2.2.1) (r6_4 : Rd w p6_4 q6_4 a.2.2.2.2.2.2.2.2) : endC.rep w a [.int .i64 a.1.1, .slice p1_2 a.1.2.1.length q1_2, .int .i64 a.1.2.2.1, .slice p1_4 a.1.2.2.2.length q1_4, .int .i64 a.2.1, .int .i64 a.2.2.1, .slice p4 a.2.2.2.1.length q4, .slice p5 a.2.2.2.2.1.length q5, .slice p6_1 a.2.2.2.2.2.1.length q6_1, .slice p6_2 a.2.2.2.2.2.2.1.length q6_2, .slice p6_3 a.2.2.2.2.2.2.2.1.length q6_3, .slice p6_4 a.2.2.2.2.2.2.2.2.length q6_4] := ⟨[.int .i64 a.1.1, .slice p1_2 a.1.2.1.length q1_2, .int .i64 a.1.2.2.1, .slice p1_4 a.1.2.2.2.length q1_4], _, rfl, (side_mk r1_2 r1_4), ⟨[.int .i64 a.2.1], _, rfl, rfl, ⟨[.int .i64 a.2.2.1], _, rfl, rfl, ⟨[.slice p4 a.2.2.2.1.length q4], _, rfl, ⟨p4, q4, rfl, r4⟩, ⟨[.slice p5 a.2.2.2.2.1.length q5], _, rfl, ⟨p5, q5, rfl, r5⟩, (secrets_mk r6_1 r6_2 r6_3 r6_4)⟩⟩⟩⟩⟩
def endT (a : EndD) : Nat := sideT a.1 + bulkM a.2.2.2.1 + a.2.2.2.2.1.length + secretsT a.2.2.2.2.2
end Go.Proofs.YtdbpnibcblelbaaGreatDoor
/- How EndResult lies in memory, and the contracts of the laws' helpers on it (written by tools/codgen.py). -/
namespace Go.Proofs.YtdbpnibcblelbaaGreatDoor
open Go.ChangeShapes Go.WideShapes Go.ChangeAt Go.RowKit
abbrev EndResultD := Int × EndD × List MsgD
def endResultC : Cod EndResultD := prodC (intC .i64) (prodC endC msgsC)
theorem endResult_rep {w : World} {a : EndResultD} {vs : List Value} (h : endResultC.rep w a vs) : ∃ p2_1_2 q2_1_2 p2_1_4 q2_1_4 p2_4 q2_4 p2_5 q2_5 p2_6_1 q2_6_1 p2_6_2 q2_6_2 p2_6_3 q2_6_3 p2_6_4 q2_6_4 p3 q3, vs = [.int .i64 a.1, .int .i64 a.2.1.1.1, .slice p2_1_2 a.2.1.1.2.1.length q2_1_2, .int .i64 a.2.1.1.2.2.1, .slice p2_1_4 a.2.1.1.2.2.2.length q2_1_4, .int .i64 a.2.1.2.1, .int .i64 a.2.1.2.2.1, .slice p2_4 a.2.1.2.2.2.1.length q2_4, .slice p2_5 a.2.1.2.2.2.2.1.length q2_5, .slice p2_6_1 a.2.1.2.2.2.2.2.1.length q2_6_1, .slice p2_6_2 a.2.1.2.2.2.2.2.2.1.length q2_6_2, .slice p2_6_3 a.2.1.2.2.2.2.2.2.2.1.length q2_6_3, .slice p2_6_4 a.2.1.2.2.2.2.2.2.2.2.length q2_6_4, .slice p3 a.2.2.length q3] ∧ Rd w p2_1_2 q2_1_2 a.2.1.1.2.1 ∧ Rd w p2_1_4 q2_1_4 a.2.1.1.2.2.2 ∧ RdL msgC w p2_4 q2_4 a.2.1.2.2.2.1 ∧ Rd w p2_5 q2_5 a.2.1.2.2.2.2.1 ∧ Rd w p2_6_1 q2_6_1 a.2.1.2.2.2.2.2.1 ∧ Rd w p2_6_2 q2_6_2 a.2.1.2.2.2.2.2.2.1 ∧ Rd w p2_6_3 q2_6_3 a.2.1.2.2.2.2.2.2.2.1 ∧ Rd w p2_6_4 q2_6_4 a.2.1.2.2.2.2.2.2.2.2 ∧ RdL msgC w p3 q3 a.2.2 := by
  obtain ⟨us0, ts0, rfl, h0, us1, ts1, rfl, h1, h2⟩ := h
  have e0 : us0 = [Value.int .i64 _] := h0
  subst e0
  obtain ⟨p2_1_2, q2_1_2, p2_1_4, q2_1_4, p2_4, q2_4, p2_5, q2_5, p2_6_1, q2_6_1, p2_6_2, q2_6_2, p2_6_3, q2_6_3, p2_6_4, q2_6_4, rfl, r2_1_2, r2_1_4, r2_4, r2_5, r2_6_1, r2_6_2, r2_6_3, r2_6_4⟩ := end_rep h1
  obtain ⟨p3, q3, rfl, r3⟩ := h2
  exact ⟨p2_1_2, q2_1_2, p2_1_4, q2_1_4, p2_4, q2_4, p2_5, q2_5, p2_6_1, q2_6_1, p2_6_2, q2_6_2, p2_6_3, q2_6_3, p2_6_4, q2_6_4, p3, q3, rfl, r2_1_2, r2_1_4, r2_4, r2_5, r2_6_1, r2_6_2, r2_6_3, r2_6_4, r3⟩
end Go.Proofs.YtdbpnibcblelbaaGreatDoor
/- How PairResult lies in memory, and the contracts of the laws' helpers on it (written by tools/codgen.py). -/
namespace Go.Proofs.YtdbpnibcblelbaaGreatDoor
open Go.ChangeShapes Go.WideShapes Go.ChangeAt Go.RowKit
abbrev PairResultD := Int × EndD × EndD
def pairResultC : Cod PairResultD := prodC (intC .i64) (prodC endC endC)
theorem pairResult_rep {w : World} {a : PairResultD} {vs : List Value} (h : pairResultC.rep w a vs) : ∃ p2_1_2 q2_1_2 p2_1_4 q2_1_4 p2_4 q2_4 p2_5 q2_5 p2_6_1 q2_6_1 p2_6_2 q2_6_2 p2_6_3 q2_6_3 p2_6_4 q2_6_4 p3_1_2 q3_1_2 p3_1_4 q3_1_4 p3_4 q3_4 p3_5 q3_5 p3_6_1 q3_6_1 p3_6_2 q3_6_2 p3_6_3 q3_6_3 p3_6_4 q3_6_4, vs = [.int .i64 a.1, .int .i64 a.2.1.1.1, .slice p2_1_2 a.2.1.1.2.1.length q2_1_2, .int .i64 a.2.1.1.2.2.1, .slice p2_1_4 a.2.1.1.2.2.2.length q2_1_4, .int .i64 a.2.1.2.1, .int .i64 a.2.1.2.2.1, .slice p2_4 a.2.1.2.2.2.1.length q2_4, .slice p2_5 a.2.1.2.2.2.2.1.length q2_5, .slice p2_6_1 a.2.1.2.2.2.2.2.1.length q2_6_1, .slice p2_6_2 a.2.1.2.2.2.2.2.2.1.length q2_6_2, .slice p2_6_3 a.2.1.2.2.2.2.2.2.2.1.length q2_6_3, .slice p2_6_4 a.2.1.2.2.2.2.2.2.2.2.length q2_6_4, .int .i64 a.2.2.1.1, .slice p3_1_2 a.2.2.1.2.1.length q3_1_2, .int .i64 a.2.2.1.2.2.1, .slice p3_1_4 a.2.2.1.2.2.2.length q3_1_4, .int .i64 a.2.2.2.1, .int .i64 a.2.2.2.2.1, .slice p3_4 a.2.2.2.2.2.1.length q3_4, .slice p3_5 a.2.2.2.2.2.2.1.length q3_5, .slice p3_6_1 a.2.2.2.2.2.2.2.1.length q3_6_1, .slice p3_6_2 a.2.2.2.2.2.2.2.2.1.length q3_6_2, .slice p3_6_3 a.2.2.2.2.2.2.2.2.2.1.length q3_6_3, .slice p3_6_4 a.2.2.2.2.2.2.2.2.2.2.length q3_6_4] ∧ Rd w p2_1_2 q2_1_2 a.2.1.1.2.1 ∧ Rd w p2_1_4 q2_1_4 a.2.1.1.2.2.2 ∧ RdL msgC w p2_4 q2_4 a.2.1.2.2.2.1 ∧ Rd w p2_5 q2_5 a.2.1.2.2.2.2.1 ∧ Rd w p2_6_1 q2_6_1 a.2.1.2.2.2.2.2.1 ∧ Rd w p2_6_2 q2_6_2 a.2.1.2.2.2.2.2.2.1 ∧ Rd w p2_6_3 q2_6_3 a.2.1.2.2.2.2.2.2.2.1 ∧ Rd w p2_6_4 q2_6_4 a.2.1.2.2.2.2.2.2.2.2 ∧ Rd w p3_1_2 q3_1_2 a.2.2.1.2.1 ∧ Rd w p3_1_4 q3_1_4 a.2.2.1.2.2.2 ∧ RdL msgC w p3_4 q3_4 a.2.2.2.2.2.1 ∧ Rd w p3_5 q3_5 a.2.2.2.2.2.2.1 ∧ Rd w p3_6_1 q3_6_1 a.2.2.2.2.2.2.2.1 ∧ Rd w p3_6_2 q3_6_2 a.2.2.2.2.2.2.2.2.1 ∧ Rd w p3_6_3 q3_6_3 a.2.2.2.2.2.2.2.2.2.1 ∧ Rd w p3_6_4 q3_6_4 a.2.2.2.2.2.2.2.2.2.2 := by
  obtain ⟨us0, ts0, rfl, h0, us1, ts1, rfl, h1, h2⟩ := h
  have e0 : us0 = [Value.int .i64 _] := h0
  subst e0
  obtain ⟨p2_1_2, q2_1_2, p2_1_4, q2_1_4, p2_4, q2_4, p2_5, q2_5, p2_6_1, q2_6_1, p2_6_2, q2_6_2, p2_6_3, q2_6_3, p2_6_4, q2_6_4, rfl, r2_1_2, r2_1_4, r2_4, r2_5, r2_6_1, r2_6_2, r2_6_3, r2_6_4⟩ := end_rep h1
  obtain ⟨p3_1_2, q3_1_2, p3_1_4, q3_1_4, p3_4, q3_4, p3_5, q3_5, p3_6_1, q3_6_1, p3_6_2, q3_6_2, p3_6_3, q3_6_3, p3_6_4, q3_6_4, rfl, r3_1_2, r3_1_4, r3_4, r3_5, r3_6_1, r3_6_2, r3_6_3, r3_6_4⟩ := end_rep h2
  exact ⟨p2_1_2, q2_1_2, p2_1_4, q2_1_4, p2_4, q2_4, p2_5, q2_5, p2_6_1, q2_6_1, p2_6_2, q2_6_2, p2_6_3, q2_6_3, p2_6_4, q2_6_4, p3_1_2, q3_1_2, p3_1_4, q3_1_4, p3_4, q3_4, p3_5, q3_5, p3_6_1, q3_6_1, p3_6_2, q3_6_2, p3_6_3, q3_6_3, p3_6_4, q3_6_4, rfl, r2_1_2, r2_1_4, r2_4, r2_5, r2_6_1, r2_6_2, r2_6_3, r2_6_4, r3_1_2, r3_1_4, r3_4, r3_5, r3_6_1, r3_6_2, r3_6_3, r3_6_4⟩
end Go.Proofs.YtdbpnibcblelbaaGreatDoor
