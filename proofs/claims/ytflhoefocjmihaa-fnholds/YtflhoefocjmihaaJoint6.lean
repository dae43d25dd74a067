/- The contracts of HexOf in the specification, and of what it calls. -/
import Derived.Test.YtflhoefocjmihaaRows
import Derived.Test.YtflhoefocjmihaaJoint2
import Derived.ProofKit
import Derived.OpenShut
import Derived.Deep.QuietTactic
import Derived.BigQuiet
import Derived.Test.YtflhoefocjmihaaJoint5
import Derived.Test.YtflhoefocjmihaaSha
import Derived.Test.YtflhoefocjmihaaJoint3
import Derived.Deep.RegionWith
import Derived.Test.YtflhoefocjmihaaCod
namespace Go.Proofs.Ytflhoefocjmihaa
open Go.ChangeShapes Go.WideShapes Go.ChangeAt Go.RowKit

def hexCode (bs : List UInt8) : Int := if bs.length ≤ 600 then 0 else 2
def hexText (bs : List UInt8) : List UInt8 := if bs.length ≤ 600 then hexL bs else []

end Go.Proofs.Ytflhoefocjmihaa

/- The contract of the laws' own draw of a number (lwAt): it is below the bound. -/
namespace Go.Proofs.Ytflhoefocjmihaa
open Go.ChangeShapes Go.WideShapes Go.ChangeAt Go.RowKit

theorem emod_nat (v : Int) (n : Nat) (h : 0 < n) : ∃ m : Nat, v % (n : Int) = (m : Int) ∧ m < n := by
  have h1 := Int.emod_nonneg v (show (n : Int) ≠ 0 by omega)
  have h2 := Int.emod_lt_of_pos v (show (0 : Int) < (n : Int) by omega)
  exact ⟨(v % (n : Int)).toNat, by omega, by omega⟩

end Go.Proofs.Ytflhoefocjmihaa

/- The contracts of a round: spec.l2Round and impl.mixed (and what it calls) both answer roundN of their arguments; what was there stays. For words below 2^32. -/
namespace Go.Proofs.Ytflhoefocjmihaa
open Go.ChangeShapes Go.WideShapes Go.ChangeAt Go.RowKit

theorem i64_xor32 {a b : Nat} (ha : a < 4294967296) (hb : b < 4294967296) : bits .xor .i64 (a : Int) (b : Int) = ((a ^^^ b : Nat) : Int) := i64_xor_nat a b (by omega) (by omega)
theorem i64_and32 {a b : Nat} (ha : a < 4294967296) (hb : b < 4294967296) : bits .and .i64 (a : Int) (b : Int) = ((a &&& b : Nat) : Int) := i64_and_nat a b (by omega) (by omega)




theorem not32 (e : Nat) (h : e < 4294967296) : bits .xor .u32 IntKind.u32.max (e : Int) = ((4294967295 - e : Nat) : Int) := by
  have h1 : IntKind.u32.max = ((4294967295 : Nat) : Int) := by decide
  rw [h1, u32_xor_nat _ _ (by decide) h]
  congr 1
  have h2 : (BitVec.allOnes 32 ^^^ BitVec.ofNat 32 e).toNat = 4294967295 ^^^ e := by
    rw [BitVec.toNat_xor, BitVec.toNat_allOnes, BitVec.toNat_ofNat, Nat.mod_eq_of_lt (by omega)]
  rw [← h2, BitVec.allOnes_xor, BitVec.toNat_not, BitVec.toNat_ofNat, Nat.mod_eq_of_lt (by omega)]


end Go.Proofs.Ytflhoefocjmihaa

/- The contract of the laws' count of bytes: szByteS. -/
namespace Go.Proofs.Ytflhoefocjmihaa
open Go.ChangeShapes Go.WideShapes Go.ChangeAt Go.RowKit

end Go.Proofs.Ytflhoefocjmihaa

/- The laws' helpers on bytes, said of data that lies in memory ('Cod'): toByteS, szByteS, markByteS, heldByteS; what a call that writes in just these blocks leaves of an array. -/
namespace Go.Proofs.Ytflhoefocjmihaa
open Go.ChangeShapes Go.WideShapes Go.ChangeAt Go.RowKit

theorem Arr.only {w w' : World} {g : Nat} {t : TypeId} {vs : List Value} {fp : List Nat} (h : Arr w g t vs) (ho : Only fp w w') (hn : g ∉ fp) : Arr w' g t vs := (ho.block g h.lt hn).trans h
theorem Only.trans_sub {fp f : List Nat} {a b c : World} (h : Only fp a b) (k : Only f b c) (hs : ∀ x, x ∈ f → x ∈ fp) : Only fp a c := h.trans (k.more hs)
theorem nodup_apart {f g : List Nat} (h : (f ++ g).Nodup) : ∀ k, k ∈ f → k ∉ g := fun k h1 h2 => (List.nodup_append.1 h).2.2 k h1 k h2 rfl
theorem nodup_apart' {f g : List Nat} (h : (f ++ g).Nodup) : ∀ k, k ∈ g → k ∉ f := fun k h1 h2 => (List.nodup_append.1 h).2.2 k h2 k h1 rfl
theorem Cod.set {α : Type} (c : Cod α) {w : World} {B : Nat} {a : α} {us : List Value} {fp : List Nat} (h : c.own w B a us fp) {p : Addr} (hp : p.block < B) (u : Value) : c.own (w.setCell p u) B a us fp :=
  c.fr h fun k hk => heap_setCell_other _ _ k _ (by have := (c.ins h k hk).1; omega)
theorem own_int {w : World} {B : Nat} {z : Int} {k : IntKind} : (intC k).own w B z [.int k z] [] := ⟨rfl, rfl⟩
theorem lt_nil {m : Nat} : ∀ k, k ∈ ([] : List Nat) → k < m := fun _ h => by cases h
theorem ge_nil {m : Nat} : ∀ k, k ∈ ([] : List Nat) → m ≤ k := fun _ h => by cases h
theorem ge_app {f g : List Nat} {m : Nat} (h1 : ∀ k, k ∈ f → m ≤ k) (h2 : ∀ k, k ∈ g → m ≤ k) : ∀ k, k ∈ f ++ g → m ≤ k := fun k hk => (List.mem_append.1 hk).elim (h1 k) (h2 k)
theorem byt_own {w : World} {B : Nat} {u : Value} {bs : List UInt8} (h : Own w B u bs) : bytC.own w B bs [u] u.ownBlock.toList := ⟨u, rfl, h, rfl⟩
theorem own_pair {α β : Type} {c : Cod α} {d : Cod β} {w : World} {B : Nat} {a : α × β} {us ts : List Value} {f g : List Nat} (m : Nat) (h1 : c.own w B a.1 us f) (h2 : d.own w B a.2 ts g) (hf : ∀ k, k ∈ f → k < m) (hg : ∀ k, k ∈ g → m ≤ k) : (prodC c d).own w B a (us ++ ts) (f ++ g) :=
  ⟨us, ts, f, g, rfl, rfl, List.nodup_append.2 ⟨c.nd h1, d.nd h2, fun x hx y hy e => by subst e; have := hf x hx; have := hg x hy; omega⟩, h1, h2⟩
end Go.Proofs.Ytflhoefocjmihaa

/- How Cert lies in memory, alone and in lists, and the contracts of the laws' helpers on it (written by tools/certgen.py). -/
namespace Go.Proofs.Ytflhoefocjmihaa
open Go.ChangeShapes Go.WideShapes Go.ChangeAt Go.RowKit

abbrev CertD := Int × Int × Int
def certC : Cod CertD := prodC (intC .i64) (prodC (intC .i64) (intC .i64))
theorem cert_rep {w : World} {a : CertD} {vs : List Value} (h : certC.rep w a vs) : vs = [.int .i64 a.1, .int .i64 a.2.1, .int .i64 a.2.2] := by
  obtain ⟨us0, ts0, rfl, h0, us1, ts1, rfl, h1, h2⟩ := h
  have e0 : us0 = [Value.int .i64 _] := h0
  have e1 : us1 = [Value.int .i64 _] := h1
  have e2 : ts1 = [Value.int .i64 _] := h2
  rw [e0, e1, e2]
  rfl
theorem cert_mk {w : World} {a : CertD} : certC.rep w a [.int .i64 a.1, .int .i64 a.2.1, .int .i64 a.2.2] := ⟨[_], _, rfl, rfl, [_], _, rfl, rfl, rfl⟩
theorem cert_own {w : World} {B : Nat} {a : CertD} : certC.own w B a [.int .i64 a.1, .int .i64 a.2.1, .int .i64 a.2.2] [] := ⟨[_], _, [], [], rfl, rfl, List.nodup_nil, ⟨rfl, rfl⟩, [_], _, [], [], rfl, rfl, List.nodup_nil, ⟨rfl, rfl⟩, rfl, rfl⟩
theorem cert_own_inv {w : World} {B : Nat} {a : CertD} {vs : List Value} {fp : List Nat} (h : certC.own w B a vs fp) : vs = [.int .i64 a.1, .int .i64 a.2.1, .int .i64 a.2.2] ∧ fp = [] := by
  obtain ⟨us0, ts0, f0, g0, rfl, rfl, -, ⟨rfl, rfl⟩, us1, ts1, f1, g1, rfl, rfl, -, ⟨rfl, rfl⟩, ⟨rfl, rfl⟩⟩ := h
  exact ⟨rfl, rfl⟩
end Go.Proofs.Ytflhoefocjmihaa

/- How Sign lies in memory, and the contracts of the laws' helpers on it (written by tools/codgen.py). -/
namespace Go.Proofs.Ytflhoefocjmihaa
open Go.ChangeShapes Go.WideShapes Go.ChangeAt Go.RowKit

abbrev SignD := Int × Int × List UInt8
def signC : Cod SignD := prodC (intC .i64) (prodC (intC .i64) bytC)
theorem sign_rep {w : World} {a : SignD} {vs : List Value} (h : signC.rep w a vs) : ∃ p3 q3, vs = [.int .i64 a.1, .int .i64 a.2.1, .slice p3 a.2.2.length q3] ∧ Rd w p3 q3 a.2.2 := by
  obtain ⟨us0, ts0, rfl, h0, us1, ts1, rfl, h1, h2⟩ := h
  have e0 : us0 = [Value.int .i64 _] := h0
  subst e0
  have e1 : us1 = [Value.int .i64 _] := h1
  subst e1
  obtain ⟨p3, q3, rfl, r3⟩ := h2
  exact ⟨p3, q3, rfl, r3⟩
theorem sign_mk {w : World} {a : SignD} {p3 : Option Addr} {q3 : Nat} (r3 : Rd w p3 q3 a.2.2) : signC.rep w a [.int .i64 a.1, .int .i64 a.2.1, .slice p3 a.2.2.length q3] := ⟨[.int .i64 a.1], _, rfl, rfl, ⟨[.int .i64 a.2.1], _, rfl, rfl, ⟨p3, q3, rfl, r3⟩⟩⟩
def signT (a : SignD) : Nat := a.2.2.length
def signM (a : SignD) (m : Nat) : SignD := (a.1, a.2.1, marks m a.2.2.length)

def signN (a : SignD) : Nat := a.2.2.length
theorem signT_le (a : SignD) : signT a ≤ 8 * signN a := by
  unfold signT signN
  omega






end Go.Proofs.Ytflhoefocjmihaa

/- How Auth lies in memory, and the contracts of the laws' helpers on it (written by tools/codgen.py). -/
namespace Go.Proofs.Ytflhoefocjmihaa
open Go.ChangeShapes Go.WideShapes Go.ChangeAt Go.RowKit

abbrev AuthD := List UInt8 × CertD × Int × List UInt8
def authC : Cod AuthD := prodC bytC (prodC certC (prodC (intC .i64) bytC))
theorem auth_rep {w : World} {a : AuthD} {vs : List Value} (h : authC.rep w a vs) : ∃ p1 q1 p4 q4, vs = [.slice p1 a.1.length q1, .int .i64 a.2.1.1, .int .i64 a.2.1.2.1, .int .i64 a.2.1.2.2, .int .i64 a.2.2.1, .slice p4 a.2.2.2.length q4] ∧ Rd w p1 q1 a.1 ∧ Rd w p4 q4 a.2.2.2 := by
  obtain ⟨us0, ts0, rfl, h0, us1, ts1, rfl, h1, us2, ts2, rfl, h2, h3⟩ := h
  obtain ⟨p1, q1, rfl, r1⟩ := h0
  have e1 := cert_rep h1
  subst e1
  have e2 : us2 = [Value.int .i64 _] := h2
  subst e2
  obtain ⟨p4, q4, rfl, r4⟩ := h3
  exact ⟨p1, q1, p4, q4, rfl, r1, r4⟩
theorem auth_mk {w : World} {a : AuthD} {p1 : Option Addr} {q1 : Nat} {p4 : Option Addr} {q4 : Nat} (r1 : Rd w p1 q1 a.1) (r4 : Rd w p4 q4 a.2.2.2) : authC.rep w a [.slice p1 a.1.length q1, .int .i64 a.2.1.1, .int .i64 a.2.1.2.1, .int .i64 a.2.1.2.2, .int .i64 a.2.2.1, .slice p4 a.2.2.2.length q4] := ⟨[.slice p1 a.1.length q1], _, rfl, ⟨p1, q1, rfl, r1⟩, ⟨[.int .i64 a.2.1.1, .int .i64 a.2.1.2.1, .int .i64 a.2.1.2.2], _, rfl, cert_mk, ⟨[.int .i64 a.2.2.1], _, rfl, rfl, ⟨p4, q4, rfl, r4⟩⟩⟩⟩
def authT (a : AuthD) : Nat := a.1.length + a.2.2.2.length
def authM (a : AuthD) (m : Nat) : AuthD := (marks m a.1.length, a.2.1, a.2.2.1, marks (m + a.1.length) a.2.2.2.length)

def authN (a : AuthD) : Nat := a.1.length + a.2.2.2.length
theorem authT_le (a : AuthD) : authT a ≤ 8 * authN a := by
  unfold authT authN
  omega






end Go.Proofs.Ytflhoefocjmihaa

