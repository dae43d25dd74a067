/- The contracts of the specification's l12Unpack, UnpackCert, LookCert, at every argument (written by tools/cert_t.py). What was there stays. -/
import Derived.Test.YtflhoefocjmihaaDoorJoint15
import Derived.Test.YtflhoefocjmihaaDoorJoint7
import Derived.Test.YtflhoefocjmihaaDoorJoint10
import Derived.Test.YtflhoefocjmihaaDoorJoint6
import Derived.Test.YtflhoefocjmihaaDoorJoint11
import Derived.Test.YtflhoefocjmihaaDoorGen
import Derived.Test.YtflhoefocjmihaaDoorJoint12
import Derived.Test.YtflhoefocjmihaaDoorPad
import Derived.Test.YtflhoefocjmihaaDoorMacS
import Derived.Test.YtflhoefocjmihaaDoorJoint13
import Derived.Test.YtflhoefocjmihaaDoorJoint2
import Derived.Handy
namespace Go.Proofs.YtflhoefocjmihaaDoor
open Go.ChangeShapes Go.WideShapes Go.ChangeAt Go.RowKit

abbrev aggC (r : Int × CertD) : Value := .agg #[.int .i64 r.1, .int .i64 r.2.1, .int .i64 r.2.2.1, .int .i64 r.2.2.2]
theorem wrap_u8 (x : UInt8) : wrap64 (x.toNat : Int) = x.toNat := by unfold wrap64; have := x.toNat_lt; omega
theorem getB_two (c d : UInt8) : ((getB [c, d] : Nat) : Int) = c.toNat * 256 + d.toNat := by simp [getB]
theorem ucD_bad {a b c d : UInt8} (h : okC (rdC a b c d) = false) : ucD [a, b, c, d] = (5, zC) := by show (if okC (rdC a b c d) then _ else _) = _; rw [h]; rfl
theorem ucD_good {a b c d : UInt8} (h : okC (rdC a b c d) = true) : ucD [a, b, c, d] = (0, rdC a b c d) := by show (if okC (rdC a b c d) then _ else _) = _; rw [h]; rfl
end Go.Proofs.YtflhoefocjmihaaDoor

/- The contracts of the certificates in the program: isCertId, isOwner, isGiver, isCertUntil, isCert, certOf, CertsFault, PackCert, UnpackCert, LookCert, at every argument. What was there stays. -/
namespace Go.Proofs.YtflhoefocjmihaaDoor
open Go.ChangeShapes Go.WideShapes Go.ChangeAt Go.RowKit

theorem isCertId_c (v : Int) (w : World) : Calls Tryd.prog 44 #[.int .i64 v] w fun e w' => e = .returned (.bool (inB v 1 99)) ∧ w' = w := by
  by_cases h1 : 1 ≤ v
  · by_cases h2 : v ≤ 99
    · rw [inB_true h1 h2]
      go_enter Tryd.func44, Tryd.ntmps44
      go_wp2
      go_ret
      exact ⟨rfl, rfl⟩
    · rw [inB_false (by omega)]
      go_enter Tryd.func44, Tryd.ntmps44
      go_wp2
      go_ret
      exact ⟨rfl, rfl⟩
  · rw [inB_false (by omega)]
    go_enter Tryd.func44, Tryd.ntmps44
    go_wp2
    go_ret
    exact ⟨rfl, rfl⟩
theorem isCertUntil_c (v : Int) (w : World) : Calls Tryd.prog 45 #[.int .i64 v] w fun e w' => e = .returned (.bool (inB v 0 9999)) ∧ w' = w := by
  by_cases h1 : 0 ≤ v
  · by_cases h2 : v ≤ 9999
    · rw [inB_true h1 h2]
      go_enter Tryd.func45, Tryd.ntmps45
      go_wp2
      go_ret
      exact ⟨rfl, rfl⟩
    · rw [inB_false (by omega)]
      go_enter Tryd.func45, Tryd.ntmps45
      go_wp2
      go_ret
      exact ⟨rfl, rfl⟩
  · rw [inB_false (by omega)]
    go_enter Tryd.func45, Tryd.ntmps45
    go_wp2
    go_ret
    exact ⟨rfl, rfl⟩
end Go.Proofs.YtflhoefocjmihaaDoor

/- The draws of chapter 12 on certificates: l12Right, l12Bent, DrawUnpackCert, DrawPackCert, DrawLookCert: what comes out owns its memory; its bounds, no more (written by tools/draw_ct.py). -/
namespace Go.Proofs.YtflhoefocjmihaaDoor
open Go.ChangeShapes Go.WideShapes Go.ChangeAt Go.RowKit

theorem OwnL.drawC {α : Type} {e : TypeId} {c : Cod α} {w w' : World} {B b : Nat} {v : Value} {l : List α} {xs : List Value} {fp : List Nat} (h : OwnL e c w B v l xs fp) (hg : w.grownBy w' (some b)) (hb : b < B) : OwnL e c w' B v l xs fp :=
  h.other (Only.grown hg) (fun k hk e => by have := (h.ins k hk).1; simp at e; omega)
theorem grown_newC {w v v' : World} {r row : Option Nat} (h : w.grownBy v r) (k : v.grownBy v' row) (hr : ∀ j, row = some j → w.heap.size ≤ j) : w.grownBy v' r :=
  ⟨k.os.trans h.os, k.tape.trans h.tape, k.output.trans h.output, Nat.le_trans h.size k.size, fun i hi hn => (k.block i (Nat.lt_of_lt_of_le hi h.size) (fun e => by have := hr i e.symm; omega)).trans (h.block i hi hn)⟩
theorem ownAll_same {α : Type} {c : Cod α} {w : World} {B : Nat} {a : α} {us : List Value} (h : c.own w B a us []) : ∀ n, OwnAll c w B (List.replicate n a) (List.replicate n us).flatten []
  | 0 => ⟨rfl, rfl⟩
  | n + 1 => by
    have h1 := OwnAll.snoc (ownAll_same h n) h
    rw [← List.replicate_succ', List.append_nil] at h1
    rw [show (List.replicate (n + 1) us).flatten = (List.replicate n us).flatten ++ us by rw [List.replicate_succ', List.flatten_append]; simp]
    exact h1
end Go.Proofs.YtflhoefocjmihaaDoor

/- The draws of chapter 13 for authenticators that are made: what comes out can be read; its bounds, no more (written by tools/draw_au.py). -/
namespace Go.Proofs.YtflhoefocjmihaaDoor
open Go.ChangeShapes Go.WideShapes Go.ChangeAt Go.RowKit

set_option maxRecDepth 4000 in
set_option maxHeartbeats 1000000 in
theorem l13DrawContext_c (b : Nat) (p : Option Addr) (q : Nat) (cs : List UInt8) (t : Int) (w : World) (hs : Src w b p q cs t) (ht : 0 ≤ t) (ht2 : t ≤ 700000000) :
    Calls Tryd.prog 32 #[.pointer (some ⟨b, 0, none⟩)] w fun e w' => ∃ v x t', e = .returned v ∧ Own w' w.heap.size v x ∧ x.length ≤ 21 ∧ t ≤ t' ∧ t' ≤ t + 30 ∧ Src w' b p q cs t' ∧ w.grownBy w' (some b) := by
  go_enter Tryd.func32, Tryd.ntmps32
  go_wp2_with fail
  refine (l1Next_c b p q cs t 9 _ hs (by omega) (by omega) (by omega) (by omega)).mono ?_
  rintro e w1 ⟨n, rfl, x0, y0, hs1, hg1⟩
  clear hs
  go_wp2_with fail
  refine (l1Pick_c b p q cs (t + 1) w1.heap.size [1, 4, 8, 20, 1 + n, 0, 21] 7 _ (hs1.keep (alloc_below _ _)) (by omega) (by omega) rfl (by decide) (by decide) (by have := hs1.lt; omega) (new_ints _ _ _ [1, 4, 8, 20, 1 + n, 0, 21] rfl)).mono ?_
  rintro e w2 ⟨r, hr, rfl, hs2, hg2⟩
  have hr2 : 0 ≤ r ∧ r ≤ 21 := by simp at hr; omega
  have hg : w.grownBy w2 (some b) := grownBy_trans (grownBy_trans hg1 (World.grownBy_alloc _ _ _)) hg2
  have hz : w.heap.size ≤ w2.heap.size := hg.size
  clear hs1 hg1 hg2 hr
  go_wp2_with fail
  refine (l1Some_c b p q cs (t + 1 + 1) r _ hs2 (by omega) (by omega) hr2.1 (by omega)).mono ?_
  rintro e w3 ⟨u, bs, rfl, hbl, ko, hs3, hg3⟩
  go_wp2
  go_ret
  exact ⟨u, bs, t + 1 + 1 + r, rfl, ko.lower hz, by omega, by omega, by omega, hs3, grownBy_trans hg hg3⟩
end Go.Proofs.YtflhoefocjmihaaDoor

/- Chapter 13 of the specification: the binding (l13Bind, BindOf): code and bytes at every argument. What was there stays. -/
namespace Go.Proofs.YtflhoefocjmihaaDoor
open Go.RowKit

theorem binding_str : (⟨#[99, 104, 97, 110, 110, 101, 108, 32, 98, 105, 110, 100, 105, 110, 103]⟩ : ByteArray) = strB bindingB := rfl
set_option maxRecDepth 4000 in
set_option maxHeartbeats 1000000 in
theorem l13Bind_c (p : Option Addr) (q : Nat) (x : List UInt8) (w : World) (hr : Rd w p q x) (hx : x.length ≤ 64) :
    Calls Tryd.prog 17 #[.slice p x.length q] w fun e w' => ∃ u, e = .returned u ∧ Own w' w.heap.size u (biN x) ∧ Below w.heap.size w w' := by
  have K : Hid (Calls Tryd.prog 37 #[.slice p x.length q, .string (strB bindingB), .slice none 0 0, .int .i64 32] w fun e w' => ∃ u, e = .returned u ∧ Own w' w.heap.size u (biN x) ∧ Below w.heap.size w w') := l7Export_c p none q 0 x bindingB [] 32 w hr (rd_nil _) hx (by decide) (by decide) (by decide)
  clear hr hx
  go_enter Tryd.func17, Tryd.ntmps17
  go_wp2_with fail
  refine Calls.mono K.out ?_
  rintro e w1 ⟨u, rfl, k, hb⟩
  go_wp2
  go_ret
  exact ⟨_, rfl, k, hb⟩
set_option maxRecDepth 4000 in
set_option maxHeartbeats 1000000 in
theorem specBi_c (p : Option Addr) (q : Nat) (x : List UInt8) (w : World) (hr : Rd w p q x) :
    Calls Tryd.prog 12 #[.slice p x.length q] w fun e w' => ∃ u, e = .returned (.agg #[.int .i64 (biD x).1, u]) ∧ Own w' w.heap.size u (biD x).2 ∧ Below w.heap.size w w' := by
  have BW := alloc_below w (.cells #[.int .i64 0, .slice none 0 0] 33)
  have R := Arr.new w [.int .i64 0, .slice none 0 0] 33
  have KA := l7Secret_c p q x (w.alloc (.cells #[.int .i64 0, .slice none 0 0] 33))
  cases h0 : is32 x
  · rw [show biD x = (1, []) by rw [biD, h0]; rfl]
    rw [h0] at KA
    have KA : Hid _ := KA
    clear hr R BW
    go_enter Tryd.func12, Tryd.ntmps12
    go_wp2_with fail
    refine Calls.mono KA.out ?_
    rintro e w2 ⟨rfl, hw⟩
    subst hw
    go_wp2
    exact bodyPost_ret (v := .agg #[.int .i64 1, .slice none 0 0]) (by simp [results, Tryd.results12, go_sem]) rfl ⟨_, rfl, Own_nil _ _, alloc_below _ _⟩
  · rw [show biD x = (0, biN x) by rw [biD, h0]; rfl]
    rw [h0] at KA
    have KA : Hid _ := KA
    have hx : x.length = 32 := by simpa [is32] using h0
    have KK : Hid (Calls Tryd.prog 17 #[.slice p x.length q] (w.alloc (.cells #[.int .i64 0, .slice none 0 0] 33)) fun e w' => ∃ u, e = .returned u ∧ Own w' (w.alloc (.cells #[.int .i64 0, .slice none 0 0] 33)).heap.size u (biN x) ∧ Below (w.alloc (.cells #[.int .i64 0, .slice none 0 0] 33)).heap.size (w.alloc (.cells #[.int .i64 0, .slice none 0 0] 33)) w') := l13Bind_c p q x _ (hr.keep BW) (by omega)
    obtain ⟨pw, HP⟩ : ∃ pw, Hid (biN x = pw) := ⟨_, rfl⟩
    rw [HP.out] at KK ⊢
    clear HP hx h0 hr
    go_enter Tryd.func12, Tryd.ntmps12
    go_wp2_with fail
    refine Calls.mono KA.out ?_
    rintro e w2 ⟨rfl, hw⟩
    subst hw
    go_wp2_with fail
    refine Calls.mono KK.out ?_
    rintro e w3 ⟨u3, rfl, k3, hb3⟩
    have BW3 := Below.step BW hb3
    have R3 := R.stay hb3
    have hlt : Hid (w.heap.size < (w.alloc (.cells #[.int .i64 0, .slice none 0 0] 33)).heap.size) := R.lt
    obtain ⟨p3, q3, rfl, -⟩ := k3.rd
    have c0 := R3.cell 0
    have c1 := R3.cell 1
    have fz := R3.frozen
    simp at c0 c1
    clear R KK KA hb3 R3
    go_wp2
    refine bodyPost_ret (v := .agg #[.int .i64 0, .slice p3 pw.length q3]) (by simp [results, Tryd.results12, go_sem, c0, c1]) rfl ⟨_, rfl, ?_, (BW3.setCell (Nat.le_refl _) _).setCell (Nat.le_refl _) _⟩
    exact ((k3.set (a := ⟨w.heap.size, 0, none⟩) hlt.out _).set (a := ⟨w.heap.size, 1, none⟩) hlt.out _).lower (B' := w.heap.size) (by have := hlt.out; omega)
end Go.Proofs.YtflhoefocjmihaaDoor

/- Chapter 13 of the specification: the digest that is signed (l13Digest). For right arguments. -/
namespace Go.Proofs.YtflhoefocjmihaaDoor
open Go.RowKit

theorem rdl_four (w : World) (x y z v : Pc) (t : TypeId) (hx : Rd w x.p x.q x.bs) (hy : Rd w y.p y.q y.bs) (hz : Rd w z.p z.q z.bs) (hv : Rd w v.p v.q v.bs) :
    RdL bytC (w.alloc (.cells #[x.val, y.val, z.val, v.val] t)) (some ⟨w.heap.size, 0, none⟩) 4 [x.bs, y.bs, z.bs, v.bs] := by
  have hb := alloc_below w (.cells #[x.val, y.val, z.val, v.val] t)
  have A := Arr.new w [x.val, y.val, z.val, v.val] t
  refine ⟨by simp, by unfold maxLen; decide, (fun e => by cases e), fun _ => ⟨w.heap.size, 0, rfl, fun i a hi => ?_⟩⟩
  match i, hi with
  | 0, hi => cases hi; exact ⟨[x.val], ⟨x.p, x.q, rfl, hx.keep hb⟩, fun j u hj => by
      match j, hj with
      | 0, hj => cases hj; exact A.cell 0⟩
  | 1, hi => cases hi; exact ⟨[y.val], ⟨y.p, y.q, rfl, hy.keep hb⟩, fun j u hj => by
      match j, hj with
      | 0, hj => cases hj; exact A.cell 1⟩
  | 2, hi => cases hi; exact ⟨[z.val], ⟨z.p, z.q, rfl, hz.keep hb⟩, fun j u hj => by
      match j, hj with
      | 0, hj => cases hj; exact A.cell 2⟩
  | 3, hi => cases hi; exact ⟨[v.val], ⟨v.p, v.q, rfl, hv.keep hb⟩, fun j u hj => by
      match j, hj with
      | 0, hj => cases hj; exact A.cell 3⟩
end Go.Proofs.YtflhoefocjmihaaDoor

/- Chapter 13 of the specification: faults (l13Fault), AuthKey, AuthDigest, MakeAuth: code and bytes at every argument. What was there stays. -/
namespace Go.Proofs.YtflhoefocjmihaaDoor
open Go.RowKit

theorem akC_len {x : List UInt8} {r : Int} (h : akC x r = 0) : x.length = 32 := by
  unfold akC at h
  cases h1 : is32 x
  · rw [h1] at h; cases h
  · simpa [is32] using h1
end Go.Proofs.YtflhoefocjmihaaDoor

/- The contracts of the program's CertsFault, PackCert, UnpackCert, LookCert, at every argument (written by tools/cert_i.py). What was there stays. -/
namespace Go.Proofs.YtflhoefocjmihaaDoor
open Go.ChangeShapes Go.WideShapes Go.ChangeAt Go.RowKit

theorem or_certs (x y : UInt8) : bits .or .i64 ((x.toNat : Int) * 256) (y.toNat : Int) = (x.toNat : Int) * 256 + y.toNat := by
  have hx := x.toNat_lt
  have hy := y.toNat_lt
  have e : ∀ n : Nat, n < 18446744073709551616 → (BitVec.ofInt 64 (n : Int)).toNat = n := fun n hn => by rw [BitVec.toNat_ofInt]; omega
  have h2 : y.toNat < 2 ^ 8 := by omega
  rw [show ((x.toNat : Int) * 256) = ((x.toNat * 256 : Nat) : Int) by omega]
  show IntKind.i64.wrap ((BitVec.ofInt 64 ((x.toNat * 256 : Nat) : Int) ||| BitVec.ofInt 64 (y.toNat : Int)).toNat : Int) = _
  rw [BitVec.toNat_or, e _ (by omega), e _ (by omega), show x.toNat * 256 = x.toNat <<< 8 by rw [Nat.shiftLeft_eq], ← Nat.shiftLeft_add_eq_or_of_lt h2, Nat.shiftLeft_eq, IntKind.wrap_i64]
  omega
theorem RdL.front {α : Type} {c : Cod α} {w : World} {p : Option Addr} {q : Nat} {l : List α} (h : RdL c w p q l) (n : Nat) : RdL c w p q (l.take n) := by
  obtain ⟨h1, h2, h3, h4⟩ := h
  refine ⟨by rw [List.length_take]; omega, h2, h3, fun hp => ?_⟩
  obtain ⟨b, o, rfl, hc⟩ := h4 (by rw [List.length_take] at hp; omega)
  refine ⟨b, o, rfl, fun i a hi => hc i a ?_⟩
  have hlt := (List.getElem?_eq_some_iff.1 hi).1
  rw [List.length_take] at hlt
  rw [List.getElem?_take_of_lt (by omega)] at hi
  exact hi
end Go.Proofs.YtflhoefocjmihaaDoor

/- isKey of the program: does it have 32 bytes? -/
namespace Go.Proofs.YtflhoefocjmihaaDoor
open Go.ChangeShapes Go.WideShapes Go.ChangeAt Go.RowKit

theorem isKeyR_c (p : Option Addr) (q : Nat) (bs : List UInt8) (w : World) : Calls Tryd.prog 25 #[.slice p bs.length q] w fun e w' => e = .returned (.bool (is32 bs)) ∧ w' = w := by
  by_cases h : bs.length = 32
  · rw [show is32 bs = true by simp [is32, h]]
    have d1 : ((bs.length : Int) == 32) = true := by rw [beq_iff_eq]; omega
    clear h
    go_enter Tryd.func25, Tryd.ntmps25
    go_wp2
    go_ret
    exact ⟨rfl, rfl⟩
  · rw [show is32 bs = false by simp [is32, h]]
    have d1 : ((bs.length : Int) == 32) = false := by rw [beq_eq_false_iff_ne]; omega
    clear h
    go_enter Tryd.func25, Tryd.ntmps25
    go_wp2
    go_ret
    exact ⟨rfl, rfl⟩
end Go.Proofs.YtflhoefocjmihaaDoor

