/- The contracts of what reads in chapter 6 of the program: a head (readHead), the first message and the first block of bytes. What was there stays. -/
import Derived.Test.YtdbpnibcblelbabJoint9
namespace Go.Proofs.Ytdbpnibcblelbab
open Go.ChangeShapes Go.WideShapes Go.ChangeAt Go.RowKit

/-- The number that three bytes tell. -/
theorem get3 (data : List UInt8) (h : 4 ≤ data.length) : ((lenAt data 0 : Nat) : Int) = (at8 data 1 * 256 + at8 data 2) * 256 + at8 data 3 := by
  match data, h with
  | a :: b :: c :: d :: rest, _ =>
    simp [lenAt, getB, at8]
theorem i64_or_nat (a b : Nat) (ha : a < 9223372036854775808) (hb : b < 9223372036854775808) : bits .or .i64 (a : Int) (b : Int) = ((a ||| b : Nat) : Int) := by
  have hx : a ||| b < 2 ^ 63 := Nat.or_lt_two_pow (by omega) (by omega)
  show IntKind.i64.wrap ((BitVec.ofInt 64 (a : Int) ||| BitVec.ofInt 64 (b : Int)).toNat : Int) = _
  rw [BitVec.toNat_or, ofInt_i64 a ha, ofInt_i64 b hb, wrap_i64_nat _ (by omega)]
theorem or_addW (a b k : Nat) (h : a < 2 ^ k) : b * 2 ^ k ||| a = b * 2 ^ k + a := by
  rw [← Nat.shiftLeft_eq, ← Nat.shiftLeft_add_eq_or_of_lt h]
theorem or3 (y1 y2 y3 : Int) (l1 : 0 ≤ y1) (u1 : y1 ≤ 255) (l2 : 0 ≤ y2) (u2 : y2 ≤ 255) (l3 : 0 ≤ y3) (u3 : y3 ≤ 255) : bits .or .i64 (bits .or .i64 (y1 * 65536) (y2 * 256)) y3 = (y1 * 256 + y2) * 256 + y3 := by
  obtain ⟨y1, rfl⟩ := Int.eq_ofNat_of_zero_le l1
  obtain ⟨y2, rfl⟩ := Int.eq_ofNat_of_zero_le l2
  obtain ⟨y3, rfl⟩ := Int.eq_ofNat_of_zero_le l3
  have e1 := or_addW (y2 * 2 ^ 8) y1 16 (by omega)
  have e2 := or_addW y3 (y1 * 2 ^ 8 + y2) 8 (by omega)
  rw [show ((y1 : Int) * 65536) = ((y1 * 2 ^ 16 : Nat) : Int) by omega, show ((y2 : Int) * 256) = ((y2 * 2 ^ 8 : Nat) : Int) by omega, i64_or_nat _ _ (by omega) (by omega), e1, i64_or_nat _ _ (by omega) (by omega), show y1 * 2 ^ 16 + y2 * 2 ^ 8 = (y1 * 2 ^ 8 + y2) * 2 ^ 8 by omega, e2]
  omega
set_option maxRecDepth 4000 in
set_option maxHeartbeats 1000000 in
theorem readHead_m (b o q : Nat) (data : List UInt8) (w : World) (hr : Rd w (some ⟨b, o, none⟩) q data) (hl : 4 ≤ data.length) :
    Calls Try.prog 32 #[.int .i64 0, .slice (some ⟨b, o, none⟩) data.length q] w fun e w' => e = .returned (.tuple #[.int .u8 (at8 data 0), .int .i64 ((lenAt data 0 : Nat) : Int)]) ∧ Below w.heap.size w w' := by
  obtain ⟨b', o', e, hc⟩ := hr.2.2.2 (by omega)
  cases e
  have h0 := hc 0 (by omega)
  have h1 := hc 1 (by omega)
  have h2 := hc 2 (by omega)
  have h3 := hc 3 (by omega)
  rw [Nat.add_zero] at h0
  rw [get3 data hl]
  have hlI : 4 ≤ (data.length : Int) := by omega
  have l1 := at8_lo data 1
  have u1 := at8_hi data 1
  have l2 := at8_lo data 2
  have u2 := at8_hi data 2
  have l3 := at8_lo data 3
  have u3 := at8_hi data 3
  generalize at8 data 0 = y0 at *
  generalize at8 data 1 = y1 at *
  generalize at8 data 2 = y2 at *
  generalize at8 data 3 = y3 at *
  clear hc hr hl
  go_enter Try.func32, Try.ntmps32
  go_wp2_with fail
  have HO := or3 y1 y2 y3 l1 u1 l2 u2 l3 u3
  go_quiet (fail)
  go_wp2_with fail
  exact bodyPost_ret (v := .tuple #[.int .u8 y0, .int .i64 ((y1 * 256 + y2) * 256 + y3)]) (by simp [results, Try.results32, go_sem]) rfl ⟨rfl, ⟨rfl, rfl, rfl, Nat.le_refl _, fun _ _ => rfl⟩⟩
set_option maxRecDepth 4000 in
set_option maxHeartbeats 1000000 in
theorem readHead_b (b o q : Nat) (data : List UInt8) (w : World) (hr : Rd w (some ⟨b, o, none⟩) q data) (hl : 1 ≤ data.length) :
    Calls Try.prog 32 #[.int .i64 1, .slice (some ⟨b, o, none⟩) data.length q] w fun e w' => e = .returned (.tuple #[.int .u8 0, .int .i64 ((numAt data 0 : Nat) : Int)]) ∧ Below w.heap.size w w' := by
  obtain ⟨b', o', e, hc⟩ := hr.2.2.2 (by omega)
  cases e
  have h0 := hc 0 (by omega)
  rw [Nat.add_zero] at h0
  have hlI : 1 ≤ (data.length : Int) := by omega
  have l0 := at8_lo data 0
  have u0 := at8_hi data 0
  rw [show ((numAt data 0 : Nat) : Int) = at8 data 0 from rfl]
  generalize at8 data 0 = y0 at *
  have HO : bits .or .i64 0 y0 = y0 := by
    obtain ⟨y0, rfl⟩ := Int.eq_ofNat_of_zero_le l0
    have h := i64_or_nat 0 y0 (by omega) (by omega)
    rw [Nat.zero_or] at h
    exact h
  clear hc hr hl
  go_enter Try.func32, Try.ntmps32
  go_wp2_with fail
  exact bodyPost_ret (v := .tuple #[.int .u8 0, .int .i64 y0]) (by simp [results, Try.results32, go_sem]) rfl ⟨rfl, Below.refl _ _⟩


set_option maxRecDepth 4000 in
set_option maxHeartbeats 1000000 in
theorem firstBlock_no (b o q : Nat) (data : List UInt8) (w : World) (hr : Rd w (some ⟨b, o, none⟩) q data) (hl : 1 ≤ data.length) (h2 : 120 < numAt data 0 ∨ data.length - 1 < numAt data 0) :
    Calls Try.prog 30 #[.slice (some ⟨b, o, none⟩) data.length q] w fun e w' => e = .returned (.tuple #[.slice none 0 0, .bool false]) ∧ Below w.heap.size w w' := by
  have hlI : 1 ≤ (data.length : Int) := by omega
  have hq1 : data.length ≤ q := hr.1
  have hq2 : q ≤ 2 ^ 63 - 1 := hr.2.1
  have K : Hid (Calls Try.prog 32 #[.int .i64 1, .slice (some ⟨b, o, none⟩) data.length q] w fun e w' => e = .returned (.tuple #[.int .u8 0, .int .i64 ((numAt data 0 : Nat) : Int)]) ∧ Below w.heap.size w w') := readHead_b b o q data w hr hl
  generalize numAt data 0 = n at *
  clear hr
  by_cases h3 : 120 < n
  case' pos =>
    have h3I : 120 < (n : Int) := by omega
    clear h2 h3
  case' neg =>
    have h3I : ¬ (120 < (n : Int)) := by omega
    have h4I : (data.length : Int) - 1 < (n : Int) := by omega
    have h5 : data.length - 1 < n := by omega
    clear h2 h3
  all_goals
    go_enter Try.func30, Try.ntmps30
    go_wp2_with fail
    refine K.out.mono ?_
    rintro e w2 ⟨rfl, hb⟩
    clear K
    go_wp2_with fail
    all_goals exact bodyPost_ret (v := .tuple #[.slice none 0 0, .bool false]) (by simp [results, Try.results30, go_sem]) rfl ⟨rfl, hb⟩
set_option maxRecDepth 4000 in
set_option maxHeartbeats 1000000 in
theorem firstBlock_ok (b o q : Nat) (data : List UInt8) (w : World) (hr : Rd w (some ⟨b, o, none⟩) q data) (hl : 1 ≤ data.length) (h2 : ¬ (120 < numAt data 0 ∨ data.length - 1 < numAt data 0)) :
    Calls Try.prog 30 #[.slice (some ⟨b, o, none⟩) data.length q] w fun e w' => ∃ u, e = .returned (.tuple #[u, .bool true]) ∧ Own w' w.heap.size u (blkAt data 0) ∧ Below w.heap.size w w' := by
  have hlI : 1 ≤ (data.length : Int) := by omega
  have hq1 : data.length ≤ q := hr.1
  have hq2 : q ≤ 2 ^ 63 - 1 := hr.2.1
  have K : Hid (Calls Try.prog 32 #[.int .i64 1, .slice (some ⟨b, o, none⟩) data.length q] w fun e w' => e = .returned (.tuple #[.int .u8 0, .int .i64 ((numAt data 0 : Nat) : Int)]) ∧ Below w.heap.size w w') := readHead_b b o q data w hr hl
  have h3I : ¬ (120 < ((numAt data 0 : Nat) : Int)) := by omega
  have h4I : ¬ ((data.length : Int) - 1 < ((numAt data 0 : Nat) : Int)) := by omega
  have h5 : ¬ (data.length - 1 < numAt data 0) := by omega
  have hbl : Hid ((blkAt data 0).length = numAt data 0) := by show _ = _; unfold blkAt; rw [List.length_take, List.length_drop]; omega
  have hR2 : Hid (Rd w (if q = 1 then some ⟨b, o, none⟩ else some ⟨b, o + 1, none⟩) (q - 1) (blkAt data 0)) := by
    have hcut := hr.cut 1 (numAt data 0) (q - 1) (by omega) (by omega) (by have := hr.2.1; omega)
    show Rd _ _ _ _
    split
    · rename_i hq
      have hn0 : numAt data 0 = 0 := by omega
      have e0 : blkAt data 0 = [] := List.eq_nil_of_length_eq_zero (by rw [hbl.out, hn0])
      rw [e0]
      exact ⟨by simp, by unfold maxLen; omega, fun e => by simp at e, fun h => by simp at h⟩
    · exact hcut
  have KC : Hid (∀ W, Below w.heap.size w W → Calls Try.prog 33 #[.slice (if q = 1 then some ⟨b, o, none⟩ else some ⟨b, o + 1, none⟩) (numAt data 0) (q - 1)] W fun e w' => ∃ u, e = .returned u ∧ Own w' W.heap.size u (blkAt data 0) ∧ Below W.heap.size W w') := fun W hb => by
    have h := bytesClone_c _ _ _ W (hR2.out.keep hb) (by rw [hbl.out]; omega)
    rw [hbl.out] at h
    exact h
  generalize blkAt data 0 = body at *
  generalize numAt data 0 = n at *
  clear hr h2 hR2
  go_enter Try.func30, Try.ntmps30
  go_wp2_with fail
  refine K.out.mono ?_
  rintro e w2 ⟨rfl, hb⟩
  clear K
  go_wp2_with fail
  all_goals
    have KC2 := KC.out w2 hb
    simp only [h, if_true, if_false, Nat.sub_self] at KC2
    refine KC2.mono ?_
    rintro e w3 ⟨u3, rfl, k3, hb3⟩
    have B3 := Below.step hb hb3
    have k3' := k3.lower (B' := w.heap.size) hb.size
    obtain ⟨p3, q3, rfl, -⟩ := k3.rd
    rw [hbl.out] at k3' ⊢
    clear KC KC2 hb3 k3
    go_wp2_with fail
    exact bodyPost_ret (v := .tuple #[.slice p3 n q3, .bool true]) (by simp [results, Try.results30, go_sem]) rfl ⟨_, rfl, k3', B3⟩
end Go.Proofs.Ytdbpnibcblelbab

