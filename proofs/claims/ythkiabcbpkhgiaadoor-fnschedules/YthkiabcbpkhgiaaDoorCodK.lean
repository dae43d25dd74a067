/- The laws' helpers on bytes, said of data that lies in memory ('Cod'): eqByteS, markByteS, heldByteS; what a call that writes in just these blocks leaves of an array. -/
import Derived.Test.YthkiabcbpkhgiaaDoorCod
import Derived.Test.YthkiabcbpkhgiaaDoorCopy
namespace Go.Proofs.YthkiabcbpkhgiaaDoor
open Go.ChangeShapes Go.WideShapes Go.ChangeAt Go.RowKit

theorem Arr.only {w w' : World} {g : Nat} {t : TypeId} {vs : List Value} {fp : List Nat} (h : Arr w g t vs) (ho : Only fp w w') (hn : g ∉ fp) : Arr w' g t vs := (ho.block g h.lt hn).trans h
theorem Only.trans_sub {fp f : List Nat} {a b c : World} (h : Only fp a b) (k : Only f b c) (hs : ∀ x, x ∈ f → x ∈ fp) : Only fp a c := h.trans (k.more hs)
theorem nodup_apart {f g : List Nat} (h : (f ++ g).Nodup) : ∀ k, k ∈ f → k ∉ g := fun k h1 h2 => (List.nodup_append.1 h).2.2 k h1 k h2 rfl
theorem nodup_apart' {f g : List Nat} (h : (f ++ g).Nodup) : ∀ k, k ∈ g → k ∉ f := fun k h1 h2 => (List.nodup_append.1 h).2.2 k h2 k h1 rfl
theorem markByteS_k (a : List UInt8) (v : Value) (fp : List Nat) (B m : Nat) (mi : Int) (hmi : mi = (m : Int)) (w : World) (h : bytC.own w B a [v] fp) (hm : m + a.length ≤ 1000000000000) :
    Calls Tryd.prog 27 #[v, .int .i64 mi] w fun e w' => e = .returned (.int .i64 (mi + (a.length : Int))) ∧ bytC.own w' B (marks m a.length) [v] fp ∧ Only fp w w' := by
  subst hmi
  obtain ⟨u, e1, o, rfl⟩ := h
  simp only [List.cons.injEq, and_true] at e1
  subst e1
  refine (markByteS_c B v a m w o hm).mono ?_
  rintro e w' ⟨rfl, o1, hg⟩
  exact ⟨rfl, ⟨v, rfl, o1, rfl⟩, Only.grown hg⟩
theorem heldByteS_k (bs : List UInt8) (p : Option Addr) (q n m : Nat) (hb : bs = marks m n) (mi : Int) (hmi : mi = (m : Int)) (w : World) (hr : Rd w p q bs) (hm : m + n ≤ 1048577) :
    Calls Tryd.prog 57 #[.slice p bs.length q, .int .i64 mi] w fun e w' => e = .returned (.int .i64 (mi + (n : Int))) ∧ w' = w := by
  subst hmi hb
  rw [marks_len]
  exact heldByteS_c p q n m w hr hm
end Go.Proofs.YthkiabcbpkhgiaaDoor

