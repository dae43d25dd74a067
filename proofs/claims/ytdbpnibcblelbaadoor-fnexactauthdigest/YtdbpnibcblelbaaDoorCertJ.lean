/- The contracts of the program's CertsFault, PackCert, UnpackCert, LookCert, at every argument (written by tools/cert_i.py). What was there stays. -/
import Derived.Test.YtdbpnibcblelbaaDoorJoint14
namespace Go.Proofs.YtdbpnibcblelbaaDoor
open Go.ChangeShapes Go.WideShapes Go.ChangeAt Go.RowKit

theorem or_certs (x y : UInt8) : bits .or .i64 ((x.toNat : Int) * 256) (y.toNat : Int) = (x.toNat : Int) * 256 + y.toNat := by
  have hx := x.toNat_lt
  have hy := y.toNat_lt
  have e : ∀ n : Nat, n < 18446744073709551616 → (BitVec.ofInt 64 (n : Int)).toNat = n := fun n hn => by rw [BitVec.toNat_ofInt]; omega
  have h2 : y.toNat < 2 ^ 8 := by omega
  rw [show ((x.toNat : Int) * 256) = ((x.toNat * 256 : Nat) : Int) by omega]
  show IntKind.i64.wrap ((BitVec.ofInt 64 ((x.toNat * 256 : Nat) : Int) ||| BitVec.ofInt 64 (y.toNat : Int)).toNat : Int) = _
  rw [BitVec.toNat_or, e _ (by omega), e _ (by omega), show x.toNat * 256 = x.toNat <<< 8 by rw [Nat.shiftLeft_eq], ← Nat.shiftLeft_add_eq_or_of_lt h2, Nat.shiftLeft_eq, IntKind.wrap_i64]
  omega
theorem RdL.front {α : Type} {c : Cod α} {w : World} {p : Option Addr} {q : Nat} {l : List α} (h : RdL c w p q l) (n : Nat) : RdL c w p q (l.take n) := by
  obtain ⟨h1, h2, h3, h4⟩ := h
  refine ⟨by rw [List.length_take]; omega, h2, h3, fun hp => ?_⟩
  obtain ⟨b, o, rfl, hc⟩ := h4 (by rw [List.length_take] at hp; omega)
  refine ⟨b, o, rfl, fun i a hi => hc i a ?_⟩
  have hlt := (List.getElem?_eq_some_iff.1 hi).1
  rw [List.length_take] at hlt
  rw [List.getElem?_take_of_lt (by omega)] at hi
  exact hi
set_option maxRecDepth 4000 in
set_option maxHeartbeats 1000000 in
theorem implPc_c (c : CertD) (w : World) :
    Calls Tryd.prog 27 #[.agg #[.int .i64 c.1, .int .i64 c.2.1, .int .i64 c.2.2]] w fun e w' => ∃ u, e = .returned (.agg #[.int .i64 (pcD c).1, u]) ∧ Own w' w.heap.size u (pcD c).2 ∧ Below w.heap.size w w' := by
  have BW := Below.mk (alloc_below w (.cells #[.int .i64 c.1, .int .i64 c.2.1, .int .i64 c.2.2] 35)) (.cells #[.int .i64 0, .slice none 0 0] 24)
  have A := (Arr.new w [.int .i64 c.1, .int .i64 c.2.1, .int .i64 c.2.2] 35).old _ (.cells #[.int .i64 0, .slice none 0 0] 24)
  have R := Arr.new (w.alloc (.cells #[.int .i64 c.1, .int .i64 c.2.1, .int .i64 c.2.2] 35)) [.int .i64 0, .slice none 0 0] 24
  rw [size_alloc] at R
  have K1 := isCert_c c ((w.alloc (.cells #[.int .i64 c.1, .int .i64 c.2.1, .int .i64 c.2.2] 35)).alloc (.cells #[.int .i64 0, .slice none 0 0] 24))
  cases hc : okC c
  · rw [hc] at K1
    rw [show pcD c = (3, []) by simp [pcD, hc]]
    have KK : Hid (Calls Tryd.prog 45 #[.agg #[.int .i64 c.1, .int .i64 c.2.1, .int .i64 c.2.2]] _ _) := K1
    go_enter Tryd.func27, Tryd.ntmps27
    go_wp2_with fail
    refine KK.out.mono ?_
    rintro e w2 ⟨rfl, hb⟩
    have R2 := R.stay hb
    have r0 := R2.cell 0
    have r1 := R2.cell 1
    have fr := R2.frozen
    simp at r0 r1
    have B2 := Below.step BW hb
    clear KK K1 A R hb R2
    go_wp2_with fail
    refine bodyPost_ret (v := .agg #[.int .i64 3, .slice none 0 0]) (by simp [results, Tryd.results27, go_sem, r0, r1]) rfl ⟨_, rfl, Own_nil _ _, (B2.setCell (by show w.heap.size ≤ w.heap.size + 1; omega) _).setCell (by show w.heap.size ≤ w.heap.size + 1; omega) _⟩
  · rw [hc] at K1
    rw [show pcD c = (0, pcL c) by simp [pcD, hc]]
    have KK : Hid (Calls Tryd.prog 45 #[.agg #[.int .i64 c.1, .int .i64 c.2.1, .int .i64 c.2.2]] _ _) := K1
    go_enter Tryd.func27, Tryd.ntmps27
    go_wp2_with fail
    refine KK.out.mono ?_
    rintro e w2 ⟨rfl, hb⟩
    have R2 := R.stay hb
    have A2 := A.stay hb
    have r0 := R2.cell 0
    have r1 := R2.cell 1
    have fr := R2.frozen
    have a0 := A2.cell 0
    have a1 := A2.cell 1
    have a2 := A2.cell 2
    have R3 := R2.old _ (.cells #[.int .u8 (c.1 % 256), .int .u8 (c.2.1 % 256), .int .u8 (c.2.2 / 256 % 256), .int .u8 (c.2.2 % 256)] 5)
    have s0 := R3.cell 0
    have s1 := R3.cell 1
    have fs := R3.frozen
    simp at r0 r1 a0 a1 a2 s0 s1
    have B2 := Below.step BW hb
    have hlt : Hid (w.heap.size + 1 < w2.heap.size) := R2.lt
    have k3 := bytesLit_own w2 (pcL c) w2.heap.size (Nat.le_refl _) (by simp [pcL])
    have hp := okC_parts hc
    rw [show ((pcL c).map u8v).toArray = #[.int .u8 (c.1 % 256), .int .u8 (c.2.1 % 256), .int .u8 (c.2.2 / 256 % 256), .int .u8 (c.2.2 % 256)] by
      simp only [pcL, List.map_cons, List.map_nil]; rw [u8v_mod (by omega), u8v_mod (by omega), u8v_mod (by omega), show c.2.2.toNat / 256 = (c.2.2 / 256).toNat by omega, u8v_mod (by omega)], show (pcL c).length = 4 from rfl] at k3
    have HK : Hid (Own _ _ _ _) := k3
    clear KK K1 A R hb A2 hp k3
    go_wp2_with fail
    refine bodyPost_ret (v := .agg #[.int .i64 0, .slice (some ⟨w2.heap.size, 0, none⟩) 4 4]) (by simp [results, Tryd.results27, go_sem, s0, s1]) rfl ⟨_, rfl, ?_, ((Below.mk B2 _).setCell (by show w.heap.size ≤ w.heap.size + 1; omega) _).setCell (by show w.heap.size ≤ w.heap.size + 1; omega) _⟩
    exact ((HK.out.set (a := ⟨w.heap.size + 1, 0, none⟩) hlt.out _).set (a := ⟨w.heap.size + 1, 1, none⟩) hlt.out _).lower (B' := w.heap.size) (by have := hlt.out; omega)
end Go.Proofs.YtdbpnibcblelbaaDoor

