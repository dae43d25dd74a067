/- The laws' helpers on bytes, said of data that lies in memory ('Cod'): toByteS, szByteS, markByteS, heldByteS; what a call that writes in just these blocks leaves of an array. -/
import Derived.Test.YtgjmhlolbjmibaaDoorCod
import Derived.Test.YtgjmhlolbjmibaaDoorSzB
namespace Go.Proofs.YtgjmhlolbjmibaaDoor
open Go.ChangeShapes Go.WideShapes Go.ChangeAt Go.RowKit

theorem Arr.only {w w' : World} {g : Nat} {t : TypeId} {vs : List Value} {fp : List Nat} (h : Arr w g t vs) (ho : Only fp w w') (hn : g ∉ fp) : Arr w' g t vs := (ho.block g h.lt hn).trans h
theorem Only.trans_sub {fp f : List Nat} {a b c : World} (h : Only fp a b) (k : Only f b c) (hs : ∀ x, x ∈ f → x ∈ fp) : Only fp a c := h.trans (k.more hs)
theorem nodup_apart {f g : List Nat} (h : (f ++ g).Nodup) : ∀ k, k ∈ f → k ∉ g := fun k h1 h2 => (List.nodup_append.1 h).2.2 k h1 k h2 rfl
theorem nodup_apart' {f g : List Nat} (h : (f ++ g).Nodup) : ∀ k, k ∈ g → k ∉ f := fun k h1 h2 => (List.nodup_append.1 h).2.2 k h2 k h1 rfl
theorem Cod.set {α : Type} (c : Cod α) {w : World} {B : Nat} {a : α} {us : List Value} {fp : List Nat} (h : c.own w B a us fp) {p : Addr} (hp : p.block < B) (u : Value) : c.own (w.setCell p u) B a us fp :=
  c.fr h fun k hk => heap_setCell_other _ _ k _ (by have := (c.ins h k hk).1; omega)
theorem own_int {w : World} {B : Nat} {z : Int} {k : IntKind} : (intC k).own w B z [.int k z] [] := ⟨rfl, rfl⟩
theorem lt_nil {m : Nat} : ∀ k, k ∈ ([] : List Nat) → k < m := fun _ h => by cases h
theorem ge_nil {m : Nat} : ∀ k, k ∈ ([] : List Nat) → m ≤ k := fun _ h => by cases h
theorem ge_app {f g : List Nat} {m : Nat} (h1 : ∀ k, k ∈ f → m ≤ k) (h2 : ∀ k, k ∈ g → m ≤ k) : ∀ k, k ∈ f ++ g → m ≤ k := fun k hk => (List.mem_append.1 hk).elim (h1 k) (h2 k)
theorem byt_own {w : World} {B : Nat} {u : Value} {bs : List UInt8} (h : Own w B u bs) : bytC.own w B bs [u] u.ownBlock.toList := ⟨u, rfl, h, rfl⟩
theorem own_pair {α β : Type} {c : Cod α} {d : Cod β} {w : World} {B : Nat} {a : α × β} {us ts : List Value} {f g : List Nat} (m : Nat) (h1 : c.own w B a.1 us f) (h2 : d.own w B a.2 ts g) (hf : ∀ k, k ∈ f → k < m) (hg : ∀ k, k ∈ g → m ≤ k) : (prodC c d).own w B a (us ++ ts) (f ++ g) :=
  ⟨us, ts, f, g, rfl, rfl, List.nodup_append.2 ⟨c.nd h1, d.nd h2, fun x hx y hy e => by subst e; have := hf x hx; have := hg x hy; omega⟩, h1, h2⟩
theorem toByteS_k (a : List UInt8) (u : Value) (w : World) (h : bytC.rep w a [u]) (hl : a.length ≤ 1048576) :
    Calls Tryd.prog 20 #[u] w fun e w' => ∃ v fp, e = .returned v ∧ bytC.own w' w.heap.size a [v] fp ∧ Below w.heap.size w w' := by
  obtain ⟨p, q, e1, r⟩ := h
  simp only [List.cons.injEq, and_true] at e1
  subst e1
  refine (toByteS_c p q a w r hl).mono ?_
  rintro e w' ⟨v, rfl, o, hb⟩
  exact ⟨v, _, rfl, ⟨v, rfl, o, rfl⟩, hb⟩
theorem eqByteS_k (a : List UInt8) (u v : Value) (w : World) (h1 : bytC.rep w a [u]) (h2 : bytC.rep w a [v]) :
    Calls Tryd.prog 28 #[u, v] w fun e w' => e = .returned (.bool true) ∧ Below w.heap.size w w' := by
  obtain ⟨p, q, e1, r⟩ := h1
  obtain ⟨p2, q2, e2, r2⟩ := h2
  simp only [List.cons.injEq, and_true] at e1 e2
  subst e1 e2
  exact eqByteS_c p p2 q q2 a w r r2
theorem szByteS_k (a : List UInt8) (u : Value) (left : Int) (w : World) (h : bytC.rep w a [u]) (h0 : 0 ≤ left) (h1 : left ≤ 1048576) :
    Calls Tryd.prog 16 #[u, .int .i64 left] w fun e w' => e = .returned (.int .i64 (szR a.length left)) ∧ Below w.heap.size w w' := by
  obtain ⟨p, q, e1, r⟩ := h
  simp only [List.cons.injEq, and_true] at e1
  subst e1
  refine (szByteS_c p q a.length left w r.1 r.2.1 h0 h1).mono ?_
  rintro e w' ⟨rfl, rfl⟩
  exact ⟨rfl, Below.refl _ _⟩
end Go.Proofs.YtgjmhlolbjmibaaDoor
