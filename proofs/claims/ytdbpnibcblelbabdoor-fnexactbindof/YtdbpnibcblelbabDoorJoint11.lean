/- Chapter 13 of the specification: the binding (l13Bind, BindOf): code and bytes at every argument. What was there stays. -/
import Derived.Test.YtdbpnibcblelbabDoorJoint10
import Derived.Test.YtdbpnibcblelbabDoorStoreR
namespace Go.Proofs.YtdbpnibcblelbabDoor
open Go.RowKit

theorem binding_str : (⟨#[99, 104, 97, 110, 110, 101, 108, 32, 98, 105, 110, 100, 105, 110, 103]⟩ : ByteArray) = strB bindingB := rfl
set_option maxRecDepth 4000 in
set_option maxHeartbeats 1000000 in
theorem l13Bind_c (p : Option Addr) (q : Nat) (x : List UInt8) (w : World) (hr : Rd w p q x) (hx : x.length ≤ 64) :
    Calls Tryd.prog 13 #[.slice p x.length q] w fun e w' => ∃ u, e = .returned u ∧ Own w' w.heap.size u (biN x) ∧ Below w.heap.size w w' := by
  have K : Hid (Calls Tryd.prog 17 #[.slice p x.length q, .string (strB bindingB), .slice none 0 0, .int .i64 32] w fun e w' => ∃ u, e = .returned u ∧ Own w' w.heap.size u (biN x) ∧ Below w.heap.size w w') := l7Export_c p none q 0 x bindingB [] 32 w hr (rd_nil _) hx (by decide) (by decide) (by decide)
  clear hr hx
  go_enter Tryd.func13, Tryd.ntmps13
  go_wp2_with fail
  refine Calls.mono K.out ?_
  rintro e w1 ⟨u, rfl, k, hb⟩
  go_wp2
  go_ret
  exact ⟨_, rfl, k, hb⟩
set_option maxRecDepth 4000 in
set_option maxHeartbeats 1000000 in
theorem specBi_c (p : Option Addr) (q : Nat) (x : List UInt8) (w : World) (hr : Rd w p q x) :
    Calls Tryd.prog 4 #[.slice p x.length q] w fun e w' => ∃ u, e = .returned (.agg #[.int .i64 (biD x).1, u]) ∧ Own w' w.heap.size u (biD x).2 ∧ Below w.heap.size w w' := by
  have BW := alloc_below w (.cells #[.int .i64 0, .slice none 0 0] 24)
  have R := Arr.new w [.int .i64 0, .slice none 0 0] 24
  have KA := l7Secret_c p q x (w.alloc (.cells #[.int .i64 0, .slice none 0 0] 24))
  cases h0 : is32 x
  · rw [show biD x = (1, []) by rw [biD, h0]; rfl]
    rw [h0] at KA
    have KA : Hid _ := KA
    clear hr R BW
    go_enter Tryd.func4, Tryd.ntmps4
    go_wp2_with fail
    refine Calls.mono KA.out ?_
    rintro e w2 ⟨rfl, hw⟩
    subst hw
    go_wp2
    exact bodyPost_ret (v := .agg #[.int .i64 1, .slice none 0 0]) (by simp [results, Tryd.results4, go_sem]) rfl ⟨_, rfl, Own_nil _ _, alloc_below _ _⟩
  · rw [show biD x = (0, biN x) by rw [biD, h0]; rfl]
    rw [h0] at KA
    have KA : Hid _ := KA
    have hx : x.length = 32 := by simpa [is32] using h0
    have KK : Hid (Calls Tryd.prog 13 #[.slice p x.length q] (w.alloc (.cells #[.int .i64 0, .slice none 0 0] 24)) fun e w' => ∃ u, e = .returned u ∧ Own w' (w.alloc (.cells #[.int .i64 0, .slice none 0 0] 24)).heap.size u (biN x) ∧ Below (w.alloc (.cells #[.int .i64 0, .slice none 0 0] 24)).heap.size (w.alloc (.cells #[.int .i64 0, .slice none 0 0] 24)) w') := l13Bind_c p q x _ (hr.keep BW) (by omega)
    obtain ⟨pw, HP⟩ : ∃ pw, Hid (biN x = pw) := ⟨_, rfl⟩
    rw [HP.out] at KK ⊢
    clear HP hx h0 hr
    go_enter Tryd.func4, Tryd.ntmps4
    go_wp2_with fail
    refine Calls.mono KA.out ?_
    rintro e w2 ⟨rfl, hw⟩
    subst hw
    go_wp2_with fail
    refine Calls.mono KK.out ?_
    rintro e w3 ⟨u3, rfl, k3, hb3⟩
    have BW3 := Below.step BW hb3
    have R3 := R.stay hb3
    have hlt : Hid (w.heap.size < (w.alloc (.cells #[.int .i64 0, .slice none 0 0] 24)).heap.size) := R.lt
    obtain ⟨p3, q3, rfl, -⟩ := k3.rd
    have c0 := R3.cell 0
    have c1 := R3.cell 1
    have fz := R3.frozen
    simp at c0 c1
    clear R KK KA hb3 R3
    go_wp2
    refine bodyPost_ret (v := .agg #[.int .i64 0, .slice p3 pw.length q3]) (by simp [results, Tryd.results4, go_sem, c0, c1]) rfl ⟨_, rfl, ?_, (BW3.setCell (Nat.le_refl _) _).setCell (Nat.le_refl _) _⟩
    exact ((k3.set (a := ⟨w.heap.size, 0, none⟩) hlt.out _).set (a := ⟨w.heap.size, 1, none⟩) hlt.out _).lower (B' := w.heap.size) (by have := hlt.out; omega)
end Go.Proofs.YtdbpnibcblelbabDoor

/- The contracts of the specification's l12Unpack, UnpackCert, LookCert, at every argument (written by tools/cert_t.py). What was there stays. -/
namespace Go.Proofs.YtdbpnibcblelbabDoor
open Go.ChangeShapes Go.WideShapes Go.ChangeAt Go.RowKit

abbrev aggC (r : Int × CertD) : Value := .agg #[.int .i64 r.1, .int .i64 r.2.1, .int .i64 r.2.2.1, .int .i64 r.2.2.2]
theorem wrap_u8 (x : UInt8) : wrap64 (x.toNat : Int) = x.toNat := by unfold wrap64; have := x.toNat_lt; omega
theorem getB_two (c d : UInt8) : ((getB [c, d] : Nat) : Int) = c.toNat * 256 + d.toNat := by simp [getB]
theorem ucD_bad {a b c d : UInt8} (h : okC (rdC a b c d) = false) : ucD [a, b, c, d] = (5, zC) := by show (if okC (rdC a b c d) then _ else _) = _; rw [h]; rfl
theorem ucD_good {a b c d : UInt8} (h : okC (rdC a b c d) = true) : ucD [a, b, c, d] = (0, rdC a b c d) := by show (if okC (rdC a b c d) then _ else _) = _; rw [h]; rfl
end Go.Proofs.YtdbpnibcblelbabDoor

/- The contracts of the certificates in the program: isCertId, isOwner, isGiver, isCertUntil, isCert, certOf, CertsFault, PackCert, UnpackCert, LookCert, at every argument. What was there stays. -/
namespace Go.Proofs.YtdbpnibcblelbabDoor
open Go.ChangeShapes Go.WideShapes Go.ChangeAt Go.RowKit

end Go.Proofs.YtdbpnibcblelbabDoor

/- The contracts of the program's CertsFault, PackCert, UnpackCert, LookCert, at every argument (written by tools/cert_i.py). What was there stays. -/
namespace Go.Proofs.YtdbpnibcblelbabDoor
open Go.ChangeShapes Go.WideShapes Go.ChangeAt Go.RowKit

theorem or_certs (x y : UInt8) : bits .or .i64 ((x.toNat : Int) * 256) (y.toNat : Int) = (x.toNat : Int) * 256 + y.toNat := by
  have hx := x.toNat_lt
  have hy := y.toNat_lt
  have e : ∀ n : Nat, n < 18446744073709551616 → (BitVec.ofInt 64 (n : Int)).toNat = n := fun n hn => by rw [BitVec.toNat_ofInt]; omega
  have h2 : y.toNat < 2 ^ 8 := by omega
  rw [show ((x.toNat : Int) * 256) = ((x.toNat * 256 : Nat) : Int) by omega]
  show IntKind.i64.wrap ((BitVec.ofInt 64 ((x.toNat * 256 : Nat) : Int) ||| BitVec.ofInt 64 (y.toNat : Int)).toNat : Int) = _
  rw [BitVec.toNat_or, e _ (by omega), e _ (by omega), show x.toNat * 256 = x.toNat <<< 8 by rw [Nat.shiftLeft_eq], ← Nat.shiftLeft_add_eq_or_of_lt h2, Nat.shiftLeft_eq, IntKind.wrap_i64]
  omega
theorem RdL.front {α : Type} {c : Cod α} {w : World} {p : Option Addr} {q : Nat} {l : List α} (h : RdL c w p q l) (n : Nat) : RdL c w p q (l.take n) := by
  obtain ⟨h1, h2, h3, h4⟩ := h
  refine ⟨by rw [List.length_take]; omega, h2, h3, fun hp => ?_⟩
  obtain ⟨b, o, rfl, hc⟩ := h4 (by rw [List.length_take] at hp; omega)
  refine ⟨b, o, rfl, fun i a hi => hc i a ?_⟩
  have hlt := (List.getElem?_eq_some_iff.1 hi).1
  rw [List.length_take] at hlt
  rw [List.getElem?_take_of_lt (by omega)] at hi
  exact hi
end Go.Proofs.YtdbpnibcblelbabDoor

