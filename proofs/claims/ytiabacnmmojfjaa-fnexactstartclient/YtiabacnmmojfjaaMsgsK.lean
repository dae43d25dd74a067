/- Lists of messages as data (Cod), and the contracts of the laws' helpers on them. -/
import Derived.Test.YtiabacnmmojfjaaMsgC
import Derived.Test.YtiabacnmmojfjaaJoint9
namespace Go.Proofs.Ytiabacnmmojfjaa
open Go.ChangeShapes Go.WideShapes Go.ChangeAt Go.RowKit

abbrev msgsC : Cod (List MsgD) := listC 67 msgC
theorem toMsgS_k (l : List MsgD) (u : Value) (w : World) (h : msgsC.rep w l [u]) (hl : bulkM l ≤ 1048576) :
    Calls Try.prog 33 #[u] w fun e w' => ∃ v fp, e = .returned v ∧ msgsC.own w' w.heap.size l [v] fp ∧ Below w.heap.size w w' := by
  obtain ⟨p, q, e1, r⟩ := h
  simp only [List.cons.injEq, and_true] at e1
  subst e1
  exact (toMsgS_c l p q w r hl).mono fun _ _ ⟨v, xs, fp, h1, h2, h3⟩ => ⟨v, _, h1, ⟨v, xs, fp, rfl, h2, rfl⟩, h3⟩
theorem szMsgS_k (l : List MsgD) (u : Value) (left : Int) (w : World) (h : msgsC.rep w l [u]) (h0 : 0 ≤ left) (h1 : left ≤ 1048576) :
    Calls Try.prog 30 #[u, .int .i64 left] w fun e w' => e = .returned (.int .i64 (szR (bulkM l) left)) ∧ Below w.heap.size w w' := by
  obtain ⟨p, q, e1, r⟩ := h
  simp only [List.cons.injEq, and_true] at e1
  subst e1
  exact szMsgS_c l p q left w r h0 h1
theorem eqMsgS_k (l : List MsgD) (u v : Value) (w : World) (h1 : msgsC.rep w l [u]) (h2 : msgsC.rep w l [v]) :
    Calls Try.prog 38 #[u, v] w fun e w' => e = .returned (.bool true) ∧ Below w.heap.size w w' := by
  obtain ⟨p, q, e1, r⟩ := h1
  obtain ⟨p2, q2, e2, r2⟩ := h2
  simp only [List.cons.injEq, and_true] at e1 e2
  subst e1 e2
  exact eqMsgS_c l p p2 q q2 w r r2
theorem markMsgS_k (l : List MsgD) (v : Value) (fp : List Nat) (B m : Nat) (mi : Int) (hmi : mi = (m : Int)) (w : World) (h : msgsC.own w B l [v] fp) (hm : m + bulkM l ≤ 1000000000) (hbl : bulkM l ≤ 1000000000) :
    Calls Try.prog 49 #[v, .int .i64 mi] w fun e w' => e = .returned (.int .i64 (mi + (bulkM l : Int))) ∧ msgsC.own w' B (mkM l m) [v] fp ∧ Only fp w w' := by
  subst hmi
  obtain ⟨u, xs, f, e1, o, rfl⟩ := h
  simp only [List.cons.injEq, and_true] at e1
  subst e1
  exact (markMsgS_c _ l B v xs f m w o hm hbl).mono fun _ _ ⟨h1, ⟨ys, h2⟩, h3⟩ => ⟨by rw [h1]; rfl, ⟨v, ys, f, rfl, h2, rfl⟩, h3⟩
theorem heldMsgS_k (l : List MsgD) (u : Value) (m : Nat) (mi : Int) (hmi : mi = (m : Int)) (w : World) (h : msgsC.rep w (mkM l m) [u]) (hm : m + bulkM l ≤ 1048577) :
    Calls Try.prog 51 #[u, .int .i64 mi] w fun e w' => e = .returned (.int .i64 (mi + (bulkM l : Int))) ∧ Below w.heap.size w w' := by
  subst hmi
  obtain ⟨p, q, e1, r⟩ := h
  simp only [List.cons.injEq, and_true] at e1
  subst e1
  rw [mkM_len]
  exact (heldMsgS_c l p q m w r hm).mono fun _ _ ⟨h1, h2⟩ => ⟨by rw [h1]; rfl, h2⟩
end Go.Proofs.Ytiabacnmmojfjaa

