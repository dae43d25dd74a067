/- The lists that a World holds, each as data (Cod), and the contracts of the laws' helpers on them, said alike. -/
import Derived.Test.YthiabbgkfmopiaaGreatJoint11
import Derived.Test.YthiabbgkfmopiaaGreatJoint10
import Derived.Test.YthiabbgkfmopiaaGreatJoint8
import Derived.Test.YthiabbgkfmopiaaGreatSignsK
import Derived.Test.YthiabbgkfmopiaaGreatLinksK
import Derived.Test.YthiabbgkfmopiaaGreatEventsK
namespace Go.Proofs.YthiabbgkfmopiaaGreat
open Go.ChangeShapes Go.WideShapes Go.ChangeAt Go.RowKit

abbrev intsC : Cod (List Int) := listC 2 (intC .i64)
theorem ownI_all (w : World) (B : Nat) : ∀ l : List Int, OwnAll (intC .i64) w B l (l.map i64z) []
  | [] => ⟨rfl, rfl⟩
  | a :: l => ⟨[i64z a], l.map i64z, [], [], rfl, rfl, ⟨rfl, rfl⟩, ownI_all w B l⟩
theorem ownI_cod {w : World} {B : Nat} {v : Value} {l : List Int} (h : OwnI w B v l) : intsC.own w B l [v] (v.ownBlock.toList ++ []) :=
  ⟨v, l.map i64z, [], rfl, ⟨h, ownI_all w B l, by rw [List.append_nil]; exact nodup_opt _⟩, rfl⟩
theorem list_one {α : Type} {e : TypeId} {c : Cod α} {w : World} {l : List α} {u : Value} (h : (listC e c).rep w l [u]) : ∃ p q, u = .slice p l.length q ∧ RdL c w p q l := by
  obtain ⟨p, q, e1, r⟩ := h
  simp only [List.cons.injEq, and_true] at e1
  exact ⟨p, q, e1, r⟩
theorem szInt64S_c (p : Option Addr) (q n : Nat) (left : Int) (w : World) (hn : n ≤ q) (hq : q ≤ 2 ^ 63 - 1) (h0 : 0 ≤ left) (h1 : left ≤ 1048576) :
    Calls Tryz.prog 10 #[.slice p n q, .int .i64 left] w fun e w' => e = .returned (.int .i64 (szR n left)) ∧ w' = w := by
  have hw : wrap64 (left - (n : Int)) = left - n := by unfold wrap64; omega
  by_cases h : (n : Int) ≤ left
  · have h2 : ¬ (left - (n : Int) < 0) := by omega
    rw [szR, if_pos h]
    go_enter Tryz.func10, Tryz.ntmps10
    go_wp2
    go_ret
    exact ⟨rfl, rfl⟩
  · have h2 : left - (n : Int) < 0 := by omega
    rw [szR, if_neg h]
    go_enter Tryz.func10, Tryz.ntmps10
    go_wp2
    go_ret
    exact ⟨rfl, rfl⟩
theorem szInt64S_k (l : List Int) (u : Value) (left : Int) (w : World) (h : intsC.rep w l [u]) (h0 : 0 ≤ left) (h1 : left ≤ 1048576) :
    Calls Tryz.prog 10 #[u, .int .i64 left] w fun e w' => e = .returned (.int .i64 (szR l.length left)) ∧ Below w.heap.size w w' := by
  obtain ⟨p, q, rfl, r⟩ := list_one h
  exact (szInt64S_c p q l.length left w r.1 r.2.1 h0 h1).mono fun _ _ ⟨h1, h2⟩ => ⟨h1, by rw [h2]; exact Below.refl _ _⟩
theorem szCertS_k (l : List CertD) (u : Value) (left : Int) (w : World) (h : certsC.rep w l [u]) (h0 : 0 ≤ left) (h1 : left ≤ 1048576) :
    Calls Tryz.prog 9 #[u, .int .i64 left] w fun e w' => e = .returned (.int .i64 (szR l.length left)) ∧ Below w.heap.size w w' := by
  obtain ⟨p, q, rfl, r⟩ := list_one h
  exact (szCertS_c p q l.length left w r.1 r.2.1 h0 h1).mono fun _ _ ⟨h1, h2⟩ => ⟨h1, by rw [h2]; exact Below.refl _ _⟩
theorem toInt64S_k (l : List Int) (u : Value) (w : World) (h : intsC.rep w l [u]) (hl : l.length ≤ 1048576) :
    Calls Tryz.prog 19 #[u] w fun e w' => ∃ v fp, e = .returned v ∧ intsC.own w' w.heap.size l [v] fp ∧ Below w.heap.size w w' := by
  obtain ⟨p, q, rfl, r⟩ := list_one h
  exact (toInt64S_c p q l w (rdI_cod r) hl).mono fun _ _ ⟨v, h1, h2, h3⟩ => ⟨v, _, h1, ownI_cod h2, h3⟩
theorem toCertS_k (l : List CertD) (u : Value) (w : World) (h : certsC.rep w l [u]) (hl : l.length ≤ 1048576) :
    Calls Tryz.prog 18 #[u] w fun e w' => ∃ v fp, e = .returned v ∧ certsC.own w' w.heap.size l [v] fp ∧ Below w.heap.size w w' := by
  obtain ⟨p, q, rfl, r⟩ := list_one h
  exact (toCertS_c l p q w r hl).mono fun _ _ ⟨v, xs, fp, h1, h2, h3⟩ => ⟨v, _, h1, ⟨v, xs, fp, rfl, h2, rfl⟩, h3⟩
theorem eqInt64S_cod (l : List Int) (p p2 : Option Addr) (q q2 : Nat) (w : World) (h1 : RdL (intC .i64) w p q l) (h2 : RdL (intC .i64) w p2 q2 l) :
    Calls Tryz.prog 30 #[.slice p l.length q, .slice p2 l.length q2] w fun e w' => e = .returned (.bool true) ∧ Below w.heap.size w w' :=
  eqInt64S_c p p2 q q2 l w (rdI_cod h1) (rdI_cod h2)
theorem szSignS_k (l : List SignD) (u : Value) (left : Int) (w : World) (h : signsC.rep w l [u]) (h0 : 0 ≤ left) (h1 : left ≤ 1048576) :
    Calls Tryz.prog 11 #[u, .int .i64 left] w fun e w' => e = .returned (.int .i64 (szR (sizeSign l) left)) ∧ Below w.heap.size w w' := by
  obtain ⟨p, q, rfl, r⟩ := list_one h
  exact szSignS_c l p q left w r h0 h1
theorem toSignS_k (l : List SignD) (u : Value) (w : World) (h : signsC.rep w l [u]) (hl : sizeSign l ≤ 1048576) :
    Calls Tryz.prog 20 #[u] w fun e w' => ∃ v fp, e = .returned v ∧ signsC.own w' w.heap.size l [v] fp ∧ Below w.heap.size w w' := by
  obtain ⟨p, q, rfl, r⟩ := list_one h
  exact (toSignS_c l p q w r hl).mono fun _ _ ⟨v, xs, fp, h1, h2, h3⟩ => ⟨v, _, h1, ⟨v, xs, fp, rfl, h2, rfl⟩, h3⟩
theorem szLinkS_k (l : List LinkD) (u : Value) (left : Int) (w : World) (h : linksC.rep w l [u]) (h0 : 0 ≤ left) (h1 : left ≤ 1048576) :
    Calls Tryz.prog 12 #[u, .int .i64 left] w fun e w' => e = .returned (.int .i64 (szR (sizeLink l) left)) ∧ Below w.heap.size w w' := by
  obtain ⟨p, q, rfl, r⟩ := list_one h
  exact szLinkS_c l p q left w r h0 h1
theorem toLinkS_k (l : List LinkD) (u : Value) (w : World) (h : linksC.rep w l [u]) (hl : sizeLink l ≤ 1048576) :
    Calls Tryz.prog 21 #[u] w fun e w' => ∃ v fp, e = .returned v ∧ linksC.own w' w.heap.size l [v] fp ∧ Below w.heap.size w w' := by
  obtain ⟨p, q, rfl, r⟩ := list_one h
  exact (toLinkS_c l p q w r hl).mono fun _ _ ⟨v, xs, fp, h1, h2, h3⟩ => ⟨v, _, h1, ⟨v, xs, fp, rfl, h2, rfl⟩, h3⟩
theorem szEventS_k (l : List EventD) (u : Value) (left : Int) (w : World) (h : eventsC.rep w l [u]) (h0 : 0 ≤ left) (h1 : left ≤ 1048576) :
    Calls Tryz.prog 14 #[u, .int .i64 left] w fun e w' => e = .returned (.int .i64 (szR (sizeEvent l) left)) ∧ Below w.heap.size w w' := by
  obtain ⟨p, q, rfl, r⟩ := list_one h
  exact szEventS_c l p q left w r h0 h1
theorem toEventS_k (l : List EventD) (u : Value) (w : World) (h : eventsC.rep w l [u]) (hl : sizeEvent l ≤ 1048576) :
    Calls Tryz.prog 23 #[u] w fun e w' => ∃ v fp, e = .returned v ∧ eventsC.own w' w.heap.size l [v] fp ∧ Below w.heap.size w w' := by
  obtain ⟨p, q, rfl, r⟩ := list_one h
  exact (toEventS_c l p q w r hl).mono fun _ _ ⟨v, xs, fp, h1, h2, h3⟩ => ⟨v, _, h1, ⟨v, xs, fp, rfl, h2, rfl⟩, h3⟩
end Go.Proofs.YthiabbgkfmopiaaGreat

