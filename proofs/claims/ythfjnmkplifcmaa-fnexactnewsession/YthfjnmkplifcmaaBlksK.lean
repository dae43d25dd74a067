/- Lists of bytes as data (Cod), and the contracts of the laws' helpers on them. -/
import Derived.Test.YthfjnmkplifcmaaBlkC
import Derived.Test.YthfjnmkplifcmaaCodK
namespace Go.Proofs.Ythfjnmkplifcmaa
open Go.ChangeShapes Go.WideShapes Go.ChangeAt Go.RowKit

theorem sumB_bulk (l : List BlkD) : sumB l ≤ 8 * bulkB l := by unfold bulkB; omega
abbrev blksC : Cod (List BlkD) := listC 22 bytC
theorem toByteSS_k (l : List BlkD) (u : Value) (w : World) (h : blksC.rep w l [u]) (hl : bulkB l ≤ 1048576) :
    Calls Try.prog 53 #[u] w fun e w' => ∃ v fp, e = .returned v ∧ blksC.own w' w.heap.size l [v] fp ∧ Below w.heap.size w w' := by
  obtain ⟨p, q, e1, r⟩ := h
  simp only [List.cons.injEq, and_true] at e1
  subst e1
  exact (toByteSS_c l p q w r hl).mono fun _ _ ⟨v, xs, fp, h1, h2, h3⟩ => ⟨v, _, h1, ⟨v, xs, fp, rfl, h2, rfl⟩, h3⟩
theorem szByteSS_k (l : List BlkD) (u : Value) (left : Int) (w : World) (h : blksC.rep w l [u]) (h0 : 0 ≤ left) (h1 : left ≤ 1048576) :
    Calls Try.prog 51 #[u, .int .i64 left] w fun e w' => e = .returned (.int .i64 (szR (bulkB l) left)) ∧ Below w.heap.size w w' := by
  obtain ⟨p, q, e1, r⟩ := h
  simp only [List.cons.injEq, and_true] at e1
  subst e1
  exact szByteSS_c l p q left w r h0 h1
theorem eqByteSS_k (l : List BlkD) (u v : Value) (w : World) (h1 : blksC.rep w l [u]) (h2 : blksC.rep w l [v]) :
    Calls Try.prog 55 #[u, v] w fun e w' => e = .returned (.bool true) ∧ Below w.heap.size w w' := by
  obtain ⟨p, q, e1, r⟩ := h1
  obtain ⟨p2, q2, e2, r2⟩ := h2
  simp only [List.cons.injEq, and_true] at e1 e2
  subst e1 e2
  exact eqByteSS_c l p p2 q q2 w r r2
theorem markByteSS_k (l : List BlkD) (v : Value) (fp : List Nat) (B m : Nat) (mi : Int) (hmi : mi = (m : Int)) (w : World) (h : blksC.own w B l [v] fp) (hm : m + sumB l ≤ 1000000000) (hbl : sumB l ≤ 1000000000) :
    Calls Try.prog 64 #[v, .int .i64 mi] w fun e w' => e = .returned (.int .i64 (mi + (sumB l : Int))) ∧ blksC.own w' B (mkB l m) [v] fp ∧ Only fp w w' := by
  subst hmi
  obtain ⟨u, xs, f, e1, o, rfl⟩ := h
  simp only [List.cons.injEq, and_true] at e1
  subst e1
  exact (markByteSS_c _ l B v xs f m w o hm hbl).mono fun _ _ ⟨h1, ⟨ys, h2⟩, h3⟩ => ⟨by rw [h1]; rfl, ⟨v, ys, f, rfl, h2, rfl⟩, h3⟩
theorem heldByteSS_k (l : List BlkD) (u : Value) (m : Nat) (mi : Int) (hmi : mi = (m : Int)) (w : World) (h : blksC.rep w (mkB l m) [u]) (hm : m + sumB l ≤ 1048577) :
    Calls Try.prog 84 #[u, .int .i64 mi] w fun e w' => e = .returned (.int .i64 (mi + (sumB l : Int))) ∧ Below w.heap.size w w' := by
  subst hmi
  obtain ⟨p, q, e1, r⟩ := h
  simp only [List.cons.injEq, and_true] at e1
  subst e1
  rw [mkB_len]
  exact (heldByteSS_c l p q m w r hm).mono fun _ _ ⟨h1, h2⟩ => ⟨by rw [h1]; rfl, h2⟩
end Go.Proofs.Ythfjnmkplifcmaa

