/- Sessions that are drawn: what can be read of them further on. -/
import Derived.Test.YtflhoefocjmihaaDrawSf
import Derived.Test.YtflhoefocjmihaaGenS
namespace Go.Proofs.Ytflhoefocjmihaa
open Go.ChangeShapes Go.WideShapes Go.ChangeAt Go.RowKit

theorem Clo.go {W V : World} {B : Nat} {x : SesD} {vs : List Value} (h : Clo W B x vs) (hk : ∀ k, B ≤ k → k < W.heap.size → V.heap[k]? = W.heap[k]?) (hz : W.heap.size ≤ V.heap.size) : Clo V B x vs := fun U hU => h U fun k h1 h2 => (hU k h1 (by omega)).trans (hk k h1 h2)
theorem Clo.rds {W : World} {B : Nat} {x : SesD} {p1 p3 p4 p5 : Option Addr} {q1 q3 q4 q5 : Nat} (h : Clo W B x [.slice p1 x.1.length q1, .int .i64 x.2.1, .slice p3 x.2.2.1.length q3, .slice p4 x.2.2.2.1.length q4, .slice p5 x.2.2.2.2.length q5]) : Rd W p1 q1 x.1 ∧ RdL bytC W p3 q3 x.2.2.1 ∧ RdL bytC W p4 q4 x.2.2.2.1 ∧ RdL holdC W p5 q5 x.2.2.2.2 := by
  obtain ⟨a1, b1, a3, b3, a4, b4, a5, b5, e, r1, r3, r4, r5⟩ := session_rep (h W (fun _ _ _ => rfl))
  simp only [List.cons.injEq, Value.slice.injEq, and_true, true_and] at e
  obtain ⟨⟨rfl, rfl⟩, ⟨rfl, rfl⟩, ⟨rfl, rfl⟩, rfl, rfl⟩ := e
  exact ⟨r1, r3, r4, r5⟩
theorem rd_fromT {w w' : World} {a : Option Addr} {cap : Nat} {bs : List UInt8} (h : Rd w a cap bs) (hk : ∀ x : Addr, a = some x → w'.heap[x.block]? = w.heap[x.block]?) : Rd w' a cap bs :=
  ⟨h.1, h.2.1, h.2.2.1, fun hp => by
    obtain ⟨b, o, e, hc⟩ := h.2.2.2 hp
    refine ⟨b, o, e, fun i hi => ?_⟩
    rw [← hc i hi]
    unfold World.cell?
    rw [hk ⟨b, o, none⟩ e]⟩
end Go.Proofs.Ytflhoefocjmihaa

