/- Chapter 5 as plain functions on bytes, with no program in it: a tag (tagN), what is sealed (sealN), what is opened (openN), a finished value (finN); their lengths; what is sealed is opened again. No conditions but those in each line. -/
import Derived.Test.YtiabacnmmojfjaaJoint3
import Derived.Test.YtiabacnmmojfjaaStream
import Derived.Test.YtiabacnmmojfjaaCopy
import Derived.Test.YtiabacnmmojfjaaCod
namespace Go.Proofs.Ytiabacnmmojfjaa
open Go.RowKit

def tagN (key nonce extra sealed : List UInt8) : List UInt8 := (macN key (nonce ++ [UInt8.ofNat extra.length] ++ extra ++ sealed)).take 16
theorem tagN_len (key nonce extra sealed : List UInt8) : (tagN key nonce extra sealed).length = 16 := by rw [tagN, List.length_take, macN_len]; rfl
def sealN (key nonce extra plain : List UInt8) : List UInt8 := hideN key nonce plain ++ tagN key nonce extra (hideN key nonce plain)
theorem sealN_len (key nonce extra plain : List UInt8) : (sealN key nonce extra plain).length = plain.length + 16 := by rw [sealN, List.length_append, hideN_len, tagN_len]
/-- Does the tag bear the others? -/
def borne (key nonce extra sealed : List UInt8) : Bool := tagN key nonce extra (sealed.take (sealed.length - 16)) == sealed.drop (sealed.length - 16)
def openC (key nonce extra sealed : List UInt8) : Int := if sealed.length < 16 then 5 else (if 220 < sealed.length - 16 then 2 else (if borne key nonce extra sealed then 0 else 7))
def openL (key nonce extra sealed : List UInt8) : List UInt8 := if openC key nonce extra sealed = 0 then hideN key nonce (sealed.take (sealed.length - 16)) else []
theorem openC_zero {key nonce extra sealed : List UInt8} (h : openC key nonce extra sealed = 0) : 16 ≤ sealed.length ∧ sealed.length - 16 ≤ 220 ∧ borne key nonce extra sealed = true := by
  unfold openC at h
  split at h
  · cases h
  · split at h
    · cases h
    · split at h
      · rename_i h1 h2 h3
        exact ⟨by omega, by omega, h3⟩
      · cases h
theorem openL_len (key nonce extra sealed : List UInt8) : (openL key nonce extra sealed).length ≤ 1048576 := by
  unfold openL; split
  · rename_i h
    have := (openC_zero h).2.1
    rw [hideN_len, List.length_take]; omega
  · simp
/-- What is sealed is opened again. -/
theorem sealN_take (key nonce extra plain : List UInt8) : (sealN key nonce extra plain).take plain.length = hideN key nonce plain := by
  rw [sealN, List.take_append_of_le_length (by rw [hideN_len]; exact Nat.le_refl _), List.take_of_length_le (by rw [hideN_len]; exact Nat.le_refl _)]
theorem sealN_drop (key nonce extra plain : List UInt8) : (sealN key nonce extra plain).drop plain.length = tagN key nonce extra (hideN key nonce plain) := by
  have h := hideN_len key nonce plain
  conv => lhs; rw [sealN, ← h]
  exact List.drop_left
theorem open_seal (key nonce extra plain : List UInt8) (h : plain.length ≤ 220) : openC key nonce extra (sealN key nonce extra plain) = 0 ∧ openL key nonce extra (sealN key nonce extra plain) = plain := by
  have hl := sealN_len key nonce extra plain
  have e : (sealN key nonce extra plain).length - 16 = plain.length := by omega
  have hb : borne key nonce extra (sealN key nonce extra plain) = true := by
    unfold borne
    rw [e, sealN_take, sealN_drop]
    simp
  have hc : openC key nonce extra (sealN key nonce extra plain) = 0 := by
    unfold openC
    rw [if_neg (by omega), if_neg (by omega), hb]
    rfl
  refine ⟨hc, ?_⟩
  unfold openL
  rw [if_pos hc, e, sealN_take, hideN_twice]
/-- What is opened is sealed again as it was. -/
theorem seal_open {key nonce extra sealed : List UInt8} (h : openC key nonce extra sealed = 0) : sealN key nonce extra (openL key nonce extra sealed) = sealed := by
  obtain ⟨h1, h2, h3⟩ := openC_zero h
  unfold openL
  rw [if_pos h, sealN, hideN_twice]
  unfold borne at h3
  rw [eq_of_beq h3, List.take_append_drop]
def finN (key digest : List UInt8) : List UInt8 := macN (expandN key (labelB [102, 105, 110, 105, 115, 104, 101, 100] [] 32) 32) digest
theorem finN_len (key digest : List UInt8) : (finN key digest).length = 32 := macN_len _ _
end Go.Proofs.Ytiabacnmmojfjaa

/- The contract of the laws' count of bytes: szByteS. -/
namespace Go.Proofs.Ytiabacnmmojfjaa
open Go.ChangeShapes Go.WideShapes Go.ChangeAt Go.RowKit

set_option maxRecDepth 4000 in
set_option maxHeartbeats 400000 in
theorem szByteS_c (p : Option Addr) (q n : Nat) (left : Int) (w : World) (hn : n ≤ q) (hq : q ≤ 2 ^ 63 - 1) (h0 : 0 ≤ left) (h1 : left ≤ 1048576) :
    Calls Try.prog 22 #[.slice p n q, .int .i64 left] w fun e w' => e = .returned (.int .i64 (szR n left)) ∧ w' = w := by
  have hw : wrap64 (left - (n : Int)) = left - n := by unfold wrap64; omega
  by_cases h : (n : Int) ≤ left
  · rw [show szR n left = left - n by rw [szR, if_pos h]]
    have h2 : ¬ (left - (n : Int) < 0) := by omega
    go_enter Try.func22, Try.ntmps22
    go_wp2
    go_ret
    exact ⟨rfl, rfl⟩
  · rw [show szR n left = -1 by rw [szR, if_neg h]]
    have h2 : left - (n : Int) < 0 := by omega
    go_enter Try.func22, Try.ntmps22
    go_wp2
    go_ret
    exact ⟨rfl, rfl⟩
end Go.Proofs.Ytiabacnmmojfjaa

/- The laws' helpers on bytes, said of data that lies in memory ('Cod'): toByteS, szByteS, markByteS, heldByteS; what a call that writes in just these blocks leaves of an array. -/
namespace Go.Proofs.Ytiabacnmmojfjaa
open Go.ChangeShapes Go.WideShapes Go.ChangeAt Go.RowKit

theorem Arr.only {w w' : World} {g : Nat} {t : TypeId} {vs : List Value} {fp : List Nat} (h : Arr w g t vs) (ho : Only fp w w') (hn : g ∉ fp) : Arr w' g t vs := (ho.block g h.lt hn).trans h
theorem Only.trans_sub {fp f : List Nat} {a b c : World} (h : Only fp a b) (k : Only f b c) (hs : ∀ x, x ∈ f → x ∈ fp) : Only fp a c := h.trans (k.more hs)
theorem nodup_apart {f g : List Nat} (h : (f ++ g).Nodup) : ∀ k, k ∈ f → k ∉ g := fun k h1 h2 => (List.nodup_append.1 h).2.2 k h1 k h2 rfl
theorem nodup_apart' {f g : List Nat} (h : (f ++ g).Nodup) : ∀ k, k ∈ g → k ∉ f := fun k h1 h2 => (List.nodup_append.1 h).2.2 k h2 k h1 rfl
theorem Cod.set {α : Type} (c : Cod α) {w : World} {B : Nat} {a : α} {us : List Value} {fp : List Nat} (h : c.own w B a us fp) {p : Addr} (hp : p.block < B) (u : Value) : c.own (w.setCell p u) B a us fp :=
  c.fr h fun k hk => heap_setCell_other _ _ k _ (by have := (c.ins h k hk).1; omega)
theorem own_int {w : World} {B : Nat} {z : Int} {k : IntKind} : (intC k).own w B z [.int k z] [] := ⟨rfl, rfl⟩
theorem lt_nil {m : Nat} : ∀ k, k ∈ ([] : List Nat) → k < m := fun _ h => by cases h
theorem ge_nil {m : Nat} : ∀ k, k ∈ ([] : List Nat) → m ≤ k := fun _ h => by cases h
theorem ge_app {f g : List Nat} {m : Nat} (h1 : ∀ k, k ∈ f → m ≤ k) (h2 : ∀ k, k ∈ g → m ≤ k) : ∀ k, k ∈ f ++ g → m ≤ k := fun k hk => (List.mem_append.1 hk).elim (h1 k) (h2 k)
theorem byt_own {w : World} {B : Nat} {u : Value} {bs : List UInt8} (h : Own w B u bs) : bytC.own w B bs [u] u.ownBlock.toList := ⟨u, rfl, h, rfl⟩
theorem own_pair {α β : Type} {c : Cod α} {d : Cod β} {w : World} {B : Nat} {a : α × β} {us ts : List Value} {f g : List Nat} (m : Nat) (h1 : c.own w B a.1 us f) (h2 : d.own w B a.2 ts g) (hf : ∀ k, k ∈ f → k < m) (hg : ∀ k, k ∈ g → m ≤ k) : (prodC c d).own w B a (us ++ ts) (f ++ g) :=
  ⟨us, ts, f, g, rfl, rfl, List.nodup_append.2 ⟨c.nd h1, d.nd h2, fun x hx y hy e => by subst e; have := hf x hx; have := hg x hy; omega⟩, h1, h2⟩
theorem toByteS_k (a : List UInt8) (u : Value) (w : World) (h : bytC.rep w a [u]) (hl : a.length ≤ 1048576) :
    Calls Try.prog 24 #[u] w fun e w' => ∃ v fp, e = .returned v ∧ bytC.own w' w.heap.size a [v] fp ∧ Below w.heap.size w w' := by
  obtain ⟨p, q, e1, r⟩ := h
  simp only [List.cons.injEq, and_true] at e1
  subst e1
  refine (toByteS_c p q a w r hl).mono ?_
  rintro e w' ⟨v, rfl, o, hb⟩
  exact ⟨v, _, rfl, ⟨v, rfl, o, rfl⟩, hb⟩
theorem eqByteS_k (a : List UInt8) (u v : Value) (w : World) (h1 : bytC.rep w a [u]) (h2 : bytC.rep w a [v]) :
    Calls Try.prog 29 #[u, v] w fun e w' => e = .returned (.bool true) ∧ Below w.heap.size w w' := by
  obtain ⟨p, q, e1, r⟩ := h1
  obtain ⟨p2, q2, e2, r2⟩ := h2
  simp only [List.cons.injEq, and_true] at e1 e2
  subst e1 e2
  exact eqByteS_c p p2 q q2 a w r r2
theorem szByteS_k (a : List UInt8) (u : Value) (left : Int) (w : World) (h : bytC.rep w a [u]) (h0 : 0 ≤ left) (h1 : left ≤ 1048576) :
    Calls Try.prog 22 #[u, .int .i64 left] w fun e w' => e = .returned (.int .i64 (szR a.length left)) ∧ Below w.heap.size w w' := by
  obtain ⟨p, q, e1, r⟩ := h
  simp only [List.cons.injEq, and_true] at e1
  subst e1
  refine (szByteS_c p q a.length left w r.1 r.2.1 h0 h1).mono ?_
  rintro e w' ⟨rfl, rfl⟩
  exact ⟨rfl, Below.refl _ _⟩
theorem markByteS_k (a : List UInt8) (v : Value) (fp : List Nat) (B m : Nat) (mi : Int) (hmi : mi = (m : Int)) (w : World) (h : bytC.own w B a [v] fp) (hm : m + a.length ≤ 1000000000000) :
    Calls Try.prog 47 #[v, .int .i64 mi] w fun e w' => e = .returned (.int .i64 (mi + (a.length : Int))) ∧ bytC.own w' B (marks m a.length) [v] fp ∧ Only fp w w' := by
  subst hmi
  obtain ⟨u, e1, o, rfl⟩ := h
  simp only [List.cons.injEq, and_true] at e1
  subst e1
  refine (markByteS_c B v a m w o hm).mono ?_
  rintro e w' ⟨rfl, o1, hg⟩
  exact ⟨rfl, ⟨v, rfl, o1, rfl⟩, Only.grown hg⟩
theorem heldByteS_k (bs : List UInt8) (p : Option Addr) (q n m : Nat) (hb : bs = marks m n) (mi : Int) (hmi : mi = (m : Int)) (w : World) (hr : Rd w p q bs) (hm : m + n ≤ 1048577) :
    Calls Try.prog 68 #[.slice p bs.length q, .int .i64 mi] w fun e w' => e = .returned (.int .i64 (mi + (n : Int))) ∧ w' = w := by
  subst hmi hb
  rw [marks_len]
  exact heldByteS_c p q n m w hr hm
end Go.Proofs.Ytiabacnmmojfjaa

/- How Hello lies in memory, and the contracts of the laws' helpers on it (written by tools/codgen.py). -/
namespace Go.Proofs.Ytiabacnmmojfjaa
open Go.ChangeShapes Go.WideShapes Go.ChangeAt Go.RowKit

abbrev HelloD := List UInt8 × Int × Int
def helloC : Cod HelloD := prodC bytC (prodC (intC .i64) ((intC .i64)))
theorem hello_rep {w : World} {a : HelloD} {vs : List Value} (h : helloC.rep w a vs) : ∃ p1 q1, vs = [.slice p1 a.1.length q1, .int .i64 a.2.1, .int .i64 a.2.2] ∧ Rd w p1 q1 a.1 := by
  obtain ⟨us0, ts0, rfl, h0, us1, ts1, rfl, h1, h2⟩ := h
  obtain ⟨p1, q1, rfl, r1⟩ := h0
  have e1 : us1 = [Value.int .i64 _] := h1
  subst e1
  have e2 : _ = [Value.int .i64 _] := h2
  subst e2
  exact ⟨p1, q1, rfl, r1⟩
theorem hello_mk {w : World} {a : HelloD} {p1 : Option Addr} {q1 : Nat} (r1 : Rd w p1 q1 a.1) : helloC.rep w a [.slice p1 a.1.length q1, .int .i64 a.2.1, .int .i64 a.2.2] := ⟨[.slice p1 a.1.length q1], _, rfl, ⟨p1, q1, rfl, r1⟩, ⟨[.int .i64 a.2.1], _, rfl, rfl, rfl⟩⟩
def helloT (a : HelloD) : Nat := a.1.length
def helloM (a : HelloD) (m : Nat) : HelloD := (marks m a.1.length, a.2.1, a.2.2)

def helloN (a : HelloD) : Nat := a.1.length
theorem helloT_le (a : HelloD) : helloT a ≤ 8 * helloN a := by
  unfold helloT helloN
  omega






end Go.Proofs.Ytiabacnmmojfjaa

/- How HelloResult lies in memory, and the contracts of the laws' helpers on it (written by tools/codgen.py). -/
namespace Go.Proofs.Ytiabacnmmojfjaa
open Go.ChangeShapes Go.WideShapes Go.ChangeAt Go.RowKit

abbrev HelloResultD := Int × HelloD
def helloResultC : Cod HelloResultD := prodC (intC .i64) helloC
theorem helloResult_rep {w : World} {a : HelloResultD} {vs : List Value} (h : helloResultC.rep w a vs) : ∃ p2_1 q2_1, vs = [.int .i64 a.1, .slice p2_1 a.2.1.length q2_1, .int .i64 a.2.2.1, .int .i64 a.2.2.2] ∧ Rd w p2_1 q2_1 a.2.1 := by
  obtain ⟨us0, ts0, rfl, h0, h1⟩ := h
  have e0 : us0 = [Value.int .i64 _] := h0
  subst e0
  obtain ⟨p2_1, q2_1, rfl, r2_1⟩ := hello_rep h1
  exact ⟨p2_1, q2_1, rfl, r2_1⟩
theorem helloResult_mk {w : World} {a : HelloResultD} {p2_1 : Option Addr} {q2_1 : Nat} (r2_1 : Rd w p2_1 q2_1 a.2.1) : helloResultC.rep w a [.int .i64 a.1, .slice p2_1 a.2.1.length q2_1, .int .i64 a.2.2.1, .int .i64 a.2.2.2] := ⟨[.int .i64 a.1], _, rfl, rfl, (hello_mk r2_1)⟩
def helloResultT (a : HelloResultD) : Nat := helloT a.2
def helloResultM (a : HelloResultD) (m : Nat) : HelloResultD := (a.1, helloM a.2 m)

def helloResultN (a : HelloResultD) : Nat := helloN a.2
theorem helloResultT_le (a : HelloResultD) : helloResultT a ≤ 8 * helloResultN a := by
  have h1 := helloT_le a.2
  unfold helloResultT helloResultN
  omega






end Go.Proofs.Ytiabacnmmojfjaa

/- The contracts of the laws' helpers on BytesResult: eqBytesResult answers true at equal answers; markBytesResult lays marks into the answer's own row; heldBytesResult finds them. For at most 1048576 bytes. -/
namespace Go.Proofs.Ytiabacnmmojfjaa
open Go.ChangeShapes Go.WideShapes Go.ChangeAt Go.RowKit

end Go.Proofs.Ytiabacnmmojfjaa

