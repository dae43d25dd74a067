/- The contract of the laws' count of bytes: szByteS. -/
import Derived.Test.YtflhoefocjmihaaDoorJoint8
import Derived.Test.YtflhoefocjmihaaDoorCod
import Derived.Test.YtflhoefocjmihaaDoorJoint6
namespace Go.Proofs.YtflhoefocjmihaaDoor
open Go.ChangeShapes Go.WideShapes Go.ChangeAt Go.RowKit

end Go.Proofs.YtflhoefocjmihaaDoor

/- The laws' helpers on bytes, said of data that lies in memory ('Cod'): toByteS, szByteS, markByteS, heldByteS; what a call that writes in just these blocks leaves of an array. -/
namespace Go.Proofs.YtflhoefocjmihaaDoor
open Go.ChangeShapes Go.WideShapes Go.ChangeAt Go.RowKit

theorem Arr.only {w w' : World} {g : Nat} {t : TypeId} {vs : List Value} {fp : List Nat} (h : Arr w g t vs) (ho : Only fp w w') (hn : g ∉ fp) : Arr w' g t vs := (ho.block g h.lt hn).trans h
theorem Only.trans_sub {fp f : List Nat} {a b c : World} (h : Only fp a b) (k : Only f b c) (hs : ∀ x, x ∈ f → x ∈ fp) : Only fp a c := h.trans (k.more hs)
theorem nodup_apart {f g : List Nat} (h : (f ++ g).Nodup) : ∀ k, k ∈ f → k ∉ g := fun k h1 h2 => (List.nodup_append.1 h).2.2 k h1 k h2 rfl
theorem nodup_apart' {f g : List Nat} (h : (f ++ g).Nodup) : ∀ k, k ∈ g → k ∉ f := fun k h1 h2 => (List.nodup_append.1 h).2.2 k h2 k h1 rfl
theorem Cod.set {α : Type} (c : Cod α) {w : World} {B : Nat} {a : α} {us : List Value} {fp : List Nat} (h : c.own w B a us fp) {p : Addr} (hp : p.block < B) (u : Value) : c.own (w.setCell p u) B a us fp :=
  c.fr h fun k hk => heap_setCell_other _ _ k _ (by have := (c.ins h k hk).1; omega)
theorem own_int {w : World} {B : Nat} {z : Int} {k : IntKind} : (intC k).own w B z [.int k z] [] := ⟨rfl, rfl⟩
theorem lt_nil {m : Nat} : ∀ k, k ∈ ([] : List Nat) → k < m := fun _ h => by cases h
theorem ge_nil {m : Nat} : ∀ k, k ∈ ([] : List Nat) → m ≤ k := fun _ h => by cases h
theorem ge_app {f g : List Nat} {m : Nat} (h1 : ∀ k, k ∈ f → m ≤ k) (h2 : ∀ k, k ∈ g → m ≤ k) : ∀ k, k ∈ f ++ g → m ≤ k := fun k hk => (List.mem_append.1 hk).elim (h1 k) (h2 k)
theorem byt_own {w : World} {B : Nat} {u : Value} {bs : List UInt8} (h : Own w B u bs) : bytC.own w B bs [u] u.ownBlock.toList := ⟨u, rfl, h, rfl⟩
theorem own_pair {α β : Type} {c : Cod α} {d : Cod β} {w : World} {B : Nat} {a : α × β} {us ts : List Value} {f g : List Nat} (m : Nat) (h1 : c.own w B a.1 us f) (h2 : d.own w B a.2 ts g) (hf : ∀ k, k ∈ f → k < m) (hg : ∀ k, k ∈ g → m ≤ k) : (prodC c d).own w B a (us ++ ts) (f ++ g) :=
  ⟨us, ts, f, g, rfl, rfl, List.nodup_append.2 ⟨c.nd h1, d.nd h2, fun x hx y hy e => by subst e; have := hf x hx; have := hg x hy; omega⟩, h1, h2⟩
end Go.Proofs.YtflhoefocjmihaaDoor

/- How Cert lies in memory, alone and in lists, and the contracts of the laws' helpers on it (written by tools/certgen.py). -/
namespace Go.Proofs.YtflhoefocjmihaaDoor
open Go.ChangeShapes Go.WideShapes Go.ChangeAt Go.RowKit

abbrev CertD := Int × Int × Int
def certC : Cod CertD := prodC (intC .i64) (prodC (intC .i64) (intC .i64))
theorem cert_rep {w : World} {a : CertD} {vs : List Value} (h : certC.rep w a vs) : vs = [.int .i64 a.1, .int .i64 a.2.1, .int .i64 a.2.2] := by
  obtain ⟨us0, ts0, rfl, h0, us1, ts1, rfl, h1, h2⟩ := h
  have e0 : us0 = [Value.int .i64 _] := h0
  have e1 : us1 = [Value.int .i64 _] := h1
  have e2 : ts1 = [Value.int .i64 _] := h2
  rw [e0, e1, e2]
  rfl
theorem cert_mk {w : World} {a : CertD} : certC.rep w a [.int .i64 a.1, .int .i64 a.2.1, .int .i64 a.2.2] := ⟨[_], _, rfl, rfl, [_], _, rfl, rfl, rfl⟩
theorem cert_own {w : World} {B : Nat} {a : CertD} : certC.own w B a [.int .i64 a.1, .int .i64 a.2.1, .int .i64 a.2.2] [] := ⟨[_], _, [], [], rfl, rfl, List.nodup_nil, ⟨rfl, rfl⟩, [_], _, [], [], rfl, rfl, List.nodup_nil, ⟨rfl, rfl⟩, rfl, rfl⟩
theorem cert_own_inv {w : World} {B : Nat} {a : CertD} {vs : List Value} {fp : List Nat} (h : certC.own w B a vs fp) : vs = [.int .i64 a.1, .int .i64 a.2.1, .int .i64 a.2.2] ∧ fp = [] := by
  obtain ⟨us0, ts0, f0, g0, rfl, rfl, -, ⟨rfl, rfl⟩, us1, ts1, f1, g1, rfl, rfl, -, ⟨rfl, rfl⟩, ⟨rfl, rfl⟩⟩ := h
  exact ⟨rfl, rfl⟩
end Go.Proofs.YtflhoefocjmihaaDoor

/- How Sign lies in memory, and the contracts of the laws' helpers on it (written by tools/codgen.py). -/
namespace Go.Proofs.YtflhoefocjmihaaDoor
open Go.ChangeShapes Go.WideShapes Go.ChangeAt Go.RowKit

abbrev SignD := Int × Int × List UInt8
def signC : Cod SignD := prodC (intC .i64) (prodC (intC .i64) bytC)
theorem sign_rep {w : World} {a : SignD} {vs : List Value} (h : signC.rep w a vs) : ∃ p3 q3, vs = [.int .i64 a.1, .int .i64 a.2.1, .slice p3 a.2.2.length q3] ∧ Rd w p3 q3 a.2.2 := by
  obtain ⟨us0, ts0, rfl, h0, us1, ts1, rfl, h1, h2⟩ := h
  have e0 : us0 = [Value.int .i64 _] := h0
  subst e0
  have e1 : us1 = [Value.int .i64 _] := h1
  subst e1
  obtain ⟨p3, q3, rfl, r3⟩ := h2
  exact ⟨p3, q3, rfl, r3⟩
theorem sign_mk {w : World} {a : SignD} {p3 : Option Addr} {q3 : Nat} (r3 : Rd w p3 q3 a.2.2) : signC.rep w a [.int .i64 a.1, .int .i64 a.2.1, .slice p3 a.2.2.length q3] := ⟨[.int .i64 a.1], _, rfl, rfl, ⟨[.int .i64 a.2.1], _, rfl, rfl, ⟨p3, q3, rfl, r3⟩⟩⟩
def signT (a : SignD) : Nat := a.2.2.length
def signM (a : SignD) (m : Nat) : SignD := (a.1, a.2.1, marks m a.2.2.length)

def signN (a : SignD) : Nat := a.2.2.length
theorem signT_le (a : SignD) : signT a ≤ 8 * signN a := by
  unfold signT signN
  omega






end Go.Proofs.YtflhoefocjmihaaDoor

/- How Auth lies in memory, and the contracts of the laws' helpers on it (written by tools/codgen.py). -/
namespace Go.Proofs.YtflhoefocjmihaaDoor
open Go.ChangeShapes Go.WideShapes Go.ChangeAt Go.RowKit

abbrev AuthD := List UInt8 × CertD × Int × List UInt8
def authC : Cod AuthD := prodC bytC (prodC certC (prodC (intC .i64) bytC))
theorem auth_rep {w : World} {a : AuthD} {vs : List Value} (h : authC.rep w a vs) : ∃ p1 q1 p4 q4, vs = [.slice p1 a.1.length q1, .int .i64 a.2.1.1, .int .i64 a.2.1.2.1, .int .i64 a.2.1.2.2, .int .i64 a.2.2.1, .slice p4 a.2.2.2.length q4] ∧ Rd w p1 q1 a.1 ∧ Rd w p4 q4 a.2.2.2 := by
  obtain ⟨us0, ts0, rfl, h0, us1, ts1, rfl, h1, us2, ts2, rfl, h2, h3⟩ := h
  obtain ⟨p1, q1, rfl, r1⟩ := h0
  have e1 := cert_rep h1
  subst e1
  have e2 : us2 = [Value.int .i64 _] := h2
  subst e2
  obtain ⟨p4, q4, rfl, r4⟩ := h3
  exact ⟨p1, q1, p4, q4, rfl, r1, r4⟩
theorem auth_mk {w : World} {a : AuthD} {p1 : Option Addr} {q1 : Nat} {p4 : Option Addr} {q4 : Nat} (r1 : Rd w p1 q1 a.1) (r4 : Rd w p4 q4 a.2.2.2) : authC.rep w a [.slice p1 a.1.length q1, .int .i64 a.2.1.1, .int .i64 a.2.1.2.1, .int .i64 a.2.1.2.2, .int .i64 a.2.2.1, .slice p4 a.2.2.2.length q4] := ⟨[.slice p1 a.1.length q1], _, rfl, ⟨p1, q1, rfl, r1⟩, ⟨[.int .i64 a.2.1.1, .int .i64 a.2.1.2.1, .int .i64 a.2.1.2.2], _, rfl, cert_mk, ⟨[.int .i64 a.2.2.1], _, rfl, rfl, ⟨p4, q4, rfl, r4⟩⟩⟩⟩
def authT (a : AuthD) : Nat := a.1.length + a.2.2.2.length
def authM (a : AuthD) (m : Nat) : AuthD := (marks m a.1.length, a.2.1, a.2.2.1, marks (m + a.1.length) a.2.2.2.length)

def authN (a : AuthD) : Nat := a.1.length + a.2.2.2.length
theorem authT_le (a : AuthD) : authT a ≤ 8 * authN a := by
  unfold authT authN
  omega






end Go.Proofs.YtflhoefocjmihaaDoor

/- The contracts of the laws' helpers on lists of bytes, and on answers that hold such a list: toByteSS, szByteSS, eqByteSS, markByteSS, heldByteSS; eqBlocksResult, markBlocksResult, heldBlocksResult. -/
namespace Go.Proofs.YtflhoefocjmihaaDoor
open Go.ChangeShapes Go.WideShapes Go.ChangeAt Go.RowKit

abbrev BlkD := List UInt8
theorem blk_rep {w : World} {a : BlkD} {vs : List Value} (h : bytC.rep w a vs) : ∃ p q, vs = [.slice p a.length q] ∧ Rd w p q a := h
theorem blk_own {w : World} {B : Nat} {a : BlkD} {vs : List Value} {fp : List Nat} (h : bytC.own w B a vs fp) : ∃ v, vs = [v] ∧ Own w B v a ∧ fp = v.ownBlock.toList := h
theorem blk_own_mk {w : World} {B : Nat} {a : BlkD} {v : Value} (o : Own w B v a) : bytC.own w B a [v] v.ownBlock.toList := ⟨v, rfl, o, rfl⟩
def sumB (l : List BlkD) : Nat := (l.map List.length).sum
def bulkB (l : List BlkD) : Nat := sumB l + l.length
theorem sumB_take {l : List BlkD} {k : Nat} {a : BlkD} (h : l[k]? = some a) : sumB (l.take (k + 1)) = sumB (l.take k) + a.length := by
  rw [List.take_add_one, h]; simp [sumB]
theorem sumB_append (l r : List BlkD) : sumB (l ++ r) = sumB l + sumB r := by simp [sumB]
theorem sumB_le (l : List BlkD) (k : Nat) : sumB (l.take k) ≤ sumB l := by
  conv => rhs; rw [← List.take_append_drop k l, sumB_append]
  omega
theorem sumB_at {l : List BlkD} {k : Nat} {a : BlkD} (h : l[k]? = some a) : a.length ≤ sumB l := by
  have h1 := sumB_take h
  have h2 := sumB_le l (k + 1)
  omega

theorem infoBlk : (Tryd.prog.info? 22).map (fun i => (i.zero, i.size, i.bytes)) = some (some (.slice none 0 0), 1, 24) := by kernel_rfl



def mkB : List BlkD → Nat → List BlkD
  | [], _ => []
  | a :: l, m => marks m a.length :: mkB l (m + a.length)
theorem mkB_append : ∀ (l r : List BlkD) (m : Nat), mkB (l ++ r) m = mkB l m ++ mkB r (m + sumB l)
  | [], r, m => by simp [mkB, sumB]
  | a :: l, r, m => by
    rw [List.cons_append, mkB, mkB, mkB_append l r, List.cons_append, show m + a.length + sumB l = m + sumB (a :: l) by simp [sumB]; omega]
theorem mkB_len : ∀ (l : List BlkD) (m : Nat), (mkB l m).length = l.length
  | [], _ => rfl
  | a :: l, m => by rw [mkB, List.length_cons, mkB_len l, List.length_cons]
theorem mkB_take {l : List BlkD} {k : Nat} {a : BlkD} (h : l[k]? = some a) (m : Nat) : mkB (l.take (k + 1)) m = mkB (l.take k) m ++ [marks (m + sumB (l.take k)) a.length] := by
  rw [List.take_add_one, h, mkB_append]; rfl
theorem mkB_at {l : List BlkD} {k : Nat} {a : BlkD} (h : l[k]? = some a) (m : Nat) : (mkB l m)[k]? = some (marks (m + sumB (l.take k)) a.length) := by
  have hk := (List.getElem?_eq_some_iff.1 h).1
  conv => lhs; rw [← List.take_append_drop k l, drop_at h, mkB_append]
  rw [List.getElem?_append_right (by rw [mkB_len, List.length_take]; omega), mkB_len, List.length_take, Nat.min_eq_left (by omega), Nat.sub_self]
  rfl



end Go.Proofs.YtflhoefocjmihaaDoor

/- Lists of bytes as data (Cod), and the contracts of the laws' helpers on them. -/
namespace Go.Proofs.YtflhoefocjmihaaDoor
open Go.ChangeShapes Go.WideShapes Go.ChangeAt Go.RowKit

theorem sumB_bulk (l : List BlkD) : sumB l ≤ 8 * bulkB l := by unfold bulkB; omega
abbrev blksC : Cod (List BlkD) := listC 22 bytC
end Go.Proofs.YtflhoefocjmihaaDoor

/- How Held lies in memory, alone and in lists, and the contracts of the laws' helpers on it (written by tools/heldgen.py). -/
namespace Go.Proofs.YtflhoefocjmihaaDoor
open Go.ChangeShapes Go.WideShapes Go.ChangeAt Go.RowKit

abbrev HeldD := Int × Int
def holdC : Cod HeldD := prodC (intC .i64) (intC .i64)
theorem hold_rep {w : World} {a : HeldD} {vs : List Value} (h : holdC.rep w a vs) : vs = [.int .i64 a.1, .int .i64 a.2] := by
  obtain ⟨us0, ts0, rfl, h0, h1⟩ := h
  have e0 : us0 = [Value.int .i64 _] := h0
  have e1 : ts0 = [Value.int .i64 _] := h1
  rw [e0, e1]
  rfl
theorem hold_mk {w : World} {a : HeldD} : holdC.rep w a [.int .i64 a.1, .int .i64 a.2] := ⟨[_], _, rfl, rfl, rfl⟩
theorem hold_own {w : World} {B : Nat} {a : HeldD} : holdC.own w B a [.int .i64 a.1, .int .i64 a.2] [] := ⟨[_], _, [], [], rfl, rfl, List.nodup_nil, ⟨rfl, rfl⟩, rfl, rfl⟩
theorem hold_own_inv {w : World} {B : Nat} {a : HeldD} {vs : List Value} {fp : List Nat} (h : holdC.own w B a vs fp) : vs = [.int .i64 a.1, .int .i64 a.2] ∧ fp = [] := by
  obtain ⟨us0, ts0, f0, g0, rfl, rfl, -, ⟨rfl, rfl⟩, ⟨rfl, rfl⟩⟩ := h
  exact ⟨rfl, rfl⟩
abbrev holdsC : Cod (List HeldD) := listC 58 holdC
theorem infoHeld : (Tryd.prog.info? 58).map (fun i => (i.zero, i.size, i.bytes)) = some (some (.agg #[.int .i64 0, .int .i64 0]), 2, 16) := by kernel_rfl
def bulkH (l : List HeldD) : Nat := 2 * l.length
def sizeH (l : List HeldD) : Nat := l.length
theorem bulkH_le (l : List HeldD) : bulkH l ≤ 8 * sizeH l := by unfold bulkH sizeH; omega
def mkH : List HeldD → Nat → List HeldD
  | [], _ => []
  | _ :: l, m => ((m : Int), (m : Int) + 1) :: mkH l (m + 2)
theorem mkH_len : ∀ (l : List HeldD) (m : Nat), (mkH l m).length = l.length
  | [], _ => rfl
  | _ :: l, m => by rw [mkH, List.length_cons, mkH_len l, List.length_cons]
theorem mkH_append : ∀ (l r : List HeldD) (m : Nat), mkH (l ++ r) m = mkH l m ++ mkH r (m + bulkH l)
  | [], _, _ => rfl
  | a :: l, r, m => by
    rw [List.cons_append, mkH, mkH_append l r, mkH, List.cons_append, show m + 2 + bulkH l = m + bulkH (a :: l) by unfold bulkH; rw [List.length_cons]; omega]
theorem mkH_take {l : List HeldD} {k : Nat} {a : HeldD} (h : l[k]? = some a) (m : Nat) : mkH (l.take (k + 1)) m = mkH (l.take k) m ++ [(((m + bulkH (l.take k) : Nat) : Int), ((m + bulkH (l.take k) : Nat) : Int) + 1)] := by
  rw [List.take_add_one, h, mkH_append]; rfl
theorem mkH_at {l : List HeldD} {k : Nat} {a : HeldD} (h : l[k]? = some a) (m : Nat) : (mkH l m)[k]? = some (((m + bulkH (l.take k) : Nat) : Int), ((m + bulkH (l.take k) : Nat) : Int) + 1) := by
  have hk := (List.getElem?_eq_some_iff.1 h).1
  conv => lhs; rw [← List.take_append_drop k l, drop_at h, mkH_append]
  rw [List.getElem?_append_right (by rw [mkH_len, List.length_take]; omega), mkH_len, List.length_take, Nat.min_eq_left (by omega), Nat.sub_self]
  rfl
theorem bulkH_at {l : List HeldD} {k : Nat} (h : k ≤ l.length) : bulkH (l.take k) = 2 * k := by unfold bulkH; rw [List.length_take, Nat.min_eq_left h]
end Go.Proofs.YtflhoefocjmihaaDoor

