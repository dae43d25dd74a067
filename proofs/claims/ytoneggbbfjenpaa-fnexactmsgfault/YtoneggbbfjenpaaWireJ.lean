/- The contracts of what reads in chapter 6 of the program: a head (readHead), the first message and the first block of bytes. What was there stays. -/
import Derived.Test.YtoneggbbfjenpaaWireP
namespace Go.Proofs.Ytoneggbbfjenpaa
open Go.ChangeShapes Go.WideShapes Go.ChangeAt Go.RowKit

/-- The number that three bytes tell. -/
theorem get3 (data : List UInt8) (h : 4 ≤ data.length) : ((lenAt data 0 : Nat) : Int) = (at8 data 1 * 256 + at8 data 2) * 256 + at8 data 3 := by
  match data, h with
  | a :: b :: c :: d :: rest, _ =>
    simp [lenAt, getB, at8]
theorem i64_or_nat (a b : Nat) (ha : a < 9223372036854775808) (hb : b < 9223372036854775808) : bits .or .i64 (a : Int) (b : Int) = ((a ||| b : Nat) : Int) := by
  have hx : a ||| b < 2 ^ 63 := Nat.or_lt_two_pow (by omega) (by omega)
  show IntKind.i64.wrap ((BitVec.ofInt 64 (a : Int) ||| BitVec.ofInt 64 (b : Int)).toNat : Int) = _
  rw [BitVec.toNat_or, ofInt_i64 a ha, ofInt_i64 b hb, wrap_i64_nat _ (by omega)]
theorem or_addW (a b k : Nat) (h : a < 2 ^ k) : b * 2 ^ k ||| a = b * 2 ^ k + a := by
  rw [← Nat.shiftLeft_eq, ← Nat.shiftLeft_add_eq_or_of_lt h]
theorem or3 (y1 y2 y3 : Int) (l1 : 0 ≤ y1) (u1 : y1 ≤ 255) (l2 : 0 ≤ y2) (u2 : y2 ≤ 255) (l3 : 0 ≤ y3) (u3 : y3 ≤ 255) : bits .or .i64 (bits .or .i64 (y1 * 65536) (y2 * 256)) y3 = (y1 * 256 + y2) * 256 + y3 := by
  obtain ⟨y1, rfl⟩ := Int.eq_ofNat_of_zero_le l1
  obtain ⟨y2, rfl⟩ := Int.eq_ofNat_of_zero_le l2
  obtain ⟨y3, rfl⟩ := Int.eq_ofNat_of_zero_le l3
  have e1 := or_addW (y2 * 2 ^ 8) y1 16 (by omega)
  have e2 := or_addW y3 (y1 * 2 ^ 8 + y2) 8 (by omega)
  rw [show ((y1 : Int) * 65536) = ((y1 * 2 ^ 16 : Nat) : Int) by omega, show ((y2 : Int) * 256) = ((y2 * 2 ^ 8 : Nat) : Int) by omega, i64_or_nat _ _ (by omega) (by omega), e1, i64_or_nat _ _ (by omega) (by omega), show y1 * 2 ^ 16 + y2 * 2 ^ 8 = (y1 * 2 ^ 8 + y2) * 2 ^ 8 by omega, e2]
  omega
set_option maxRecDepth 4000 in
set_option maxHeartbeats 1000000 in
theorem readHead_m (b o q : Nat) (data : List UInt8) (w : World) (hr : Rd w (some ⟨b, o, none⟩) q data) (hl : 4 ≤ data.length) :
    Calls Try.prog 66 #[.int .i64 0, .slice (some ⟨b, o, none⟩) data.length q] w fun e w' => e = .returned (.tuple #[.int .u8 (at8 data 0), .int .i64 ((lenAt data 0 : Nat) : Int)]) ∧ Below w.heap.size w w' := by
  obtain ⟨b', o', e, hc⟩ := hr.2.2.2 (by omega)
  cases e
  have h0 := hc 0 (by omega)
  have h1 := hc 1 (by omega)
  have h2 := hc 2 (by omega)
  have h3 := hc 3 (by omega)
  rw [Nat.add_zero] at h0
  rw [get3 data hl]
  have hlI : 4 ≤ (data.length : Int) := by omega
  have l1 := at8_lo data 1
  have u1 := at8_hi data 1
  have l2 := at8_lo data 2
  have u2 := at8_hi data 2
  have l3 := at8_lo data 3
  have u3 := at8_hi data 3
  generalize at8 data 0 = y0 at *
  generalize at8 data 1 = y1 at *
  generalize at8 data 2 = y2 at *
  generalize at8 data 3 = y3 at *
  clear hc hr hl
  go_enter Try.func66, Try.ntmps66
  go_wp2_with fail
  have HO := or3 y1 y2 y3 l1 u1 l2 u2 l3 u3
  go_quiet (fail)
  go_wp2_with fail
  exact bodyPost_ret (v := .tuple #[.int .u8 y0, .int .i64 ((y1 * 256 + y2) * 256 + y3)]) (by simp [results, Try.results66, go_sem]) rfl ⟨rfl, ⟨rfl, rfl, rfl, Nat.le_refl _, fun _ _ => rfl⟩⟩
set_option maxRecDepth 4000 in
set_option maxHeartbeats 1000000 in
theorem readHead_b (b o q : Nat) (data : List UInt8) (w : World) (hr : Rd w (some ⟨b, o, none⟩) q data) (hl : 1 ≤ data.length) :
    Calls Try.prog 66 #[.int .i64 1, .slice (some ⟨b, o, none⟩) data.length q] w fun e w' => e = .returned (.tuple #[.int .u8 0, .int .i64 ((numAt data 0 : Nat) : Int)]) ∧ Below w.heap.size w w' := by
  obtain ⟨b', o', e, hc⟩ := hr.2.2.2 (by omega)
  cases e
  have h0 := hc 0 (by omega)
  rw [Nat.add_zero] at h0
  have hlI : 1 ≤ (data.length : Int) := by omega
  have l0 := at8_lo data 0
  have u0 := at8_hi data 0
  rw [show ((numAt data 0 : Nat) : Int) = at8 data 0 from rfl]
  generalize at8 data 0 = y0 at *
  have HO : bits .or .i64 0 y0 = y0 := by
    obtain ⟨y0, rfl⟩ := Int.eq_ofNat_of_zero_le l0
    have h := i64_or_nat 0 y0 (by omega) (by omega)
    rw [Nat.zero_or] at h
    exact h
  clear hc hr hl
  go_enter Try.func66, Try.ntmps66
  go_wp2_with fail
  exact bodyPost_ret (v := .tuple #[.int .u8 0, .int .i64 y0]) (by simp [results, Try.results66, go_sem]) rfl ⟨rfl, Below.refl _ _⟩

set_option maxRecDepth 4000 in
set_option maxHeartbeats 1000000 in
theorem firstMsg_short (b o q ah : Nat) (data : List UInt8) (w : World) (hl : data.length < 4) :
    Calls Try.prog 49 #[.slice (some ⟨b, o, none⟩) data.length q, .int .i64 ah] w fun e w' => e = .returned (.tuple #[.agg #[.int .i64 0, .slice none 0 0], .int .i64 5]) ∧ Below w.heap.size w w' := by
  have hlI : (data.length : Int) < 4 := by omega
  go_enter Try.func49, Try.ntmps49
  go_wp2
  exact bodyPost_ret (v := .tuple #[.agg #[.int .i64 0, .slice none 0 0], .int .i64 5]) (by simp [results, Try.results49, go_sem]) rfl ⟨rfl, alloc_below _ _⟩
set_option maxRecDepth 4000 in
set_option maxHeartbeats 1000000 in
theorem firstMsg_many (b o q ah : Nat) (data : List UInt8) (w : World) (hr : Rd w (some ⟨b, o, none⟩) q data) (hl : ¬ data.length < 4) (h2 : 160 < lenAt data 0 ∨ ah = 12) :
    Calls Try.prog 49 #[.slice (some ⟨b, o, none⟩) data.length q, .int .i64 ah] w fun e w' => e = .returned (.tuple #[.agg #[.int .i64 0, .slice none 0 0], .int .i64 2]) ∧ Below w.heap.size w w' := by
  have hlI : ¬ ((data.length : Int) < 4) := by omega
  have B0 := alloc_below w (.cells #[.int .i64 0, .slice none 0 0] 36)
  have A0 := Arr.new w [.int .i64 0, .slice none 0 0] 36
  have K : Hid (∀ W, Rd W (some ⟨b, o, none⟩) q data → Calls Try.prog 66 #[.int .i64 0, .slice (some ⟨b, o, none⟩) data.length q] W fun e w' => e = .returned (.tuple #[.int .u8 (at8 data 0), .int .i64 ((lenAt data 0 : Nat) : Int)]) ∧ Below W.heap.size W w') := fun W h => readHead_m b o q data W h (by omega)
  have HR : Hid (Rd w (some ⟨b, o, none⟩) q data) := hr
  generalize lenAt data 0 = n at *
  generalize at8 data 0 = y0 at *
  clear hr hl
  by_cases h3 : 160 < n
  case' pos =>
    have h3I : 160 < (n : Int) := by omega
    clear h2 h3
  case' neg =>
    have h3I : ¬ (160 < (n : Int)) := by omega
    have h4I : (ah : Int) = 12 := by omega
    clear h2 h3
  all_goals
    go_enter Try.func49, Try.ntmps49
    go_wp2_with fail
    refine (K.out _ (HR.out.keep B0)).mono ?_
    rintro e w2 ⟨rfl, hb⟩
    have A2 := A0.stay hb
    have B2 := Below.step B0 hb
    have c0 := A2.cell 0
    have c1 := A2.cell 1
    have fz := A2.frozen
    simp at c0 c1
    clear A0 A2 B0 hb K HR
    go_wp2_with fail
    exact bodyPost_ret (v := .tuple #[.agg #[.int .i64 0, .slice none 0 0], .int .i64 2]) (by simp [results, Try.results49, go_sem, c0, c1]) rfl ⟨rfl, (B2.setCell (Nat.le_refl _) _).setCell (Nat.le_refl _) _⟩
set_option maxRecDepth 4000 in
set_option maxHeartbeats 1000000 in
theorem firstMsg_less (b o q ah : Nat) (data : List UInt8) (w : World) (hr : Rd w (some ⟨b, o, none⟩) q data) (hl : ¬ data.length < 4) (h2 : ¬ (160 < lenAt data 0 ∨ ah = 12)) (h3 : data.length - 4 < lenAt data 0) :
    Calls Try.prog 49 #[.slice (some ⟨b, o, none⟩) data.length q, .int .i64 ah] w fun e w' => e = .returned (.tuple #[.agg #[.int .i64 0, .slice none 0 0], .int .i64 5]) ∧ Below w.heap.size w w' := by
  have hlI : ¬ ((data.length : Int) < 4) := by omega
  have hq1 : data.length ≤ q := hr.1
  have hq2 : q ≤ 2 ^ 63 - 1 := hr.2.1
  have h3I : ¬ (160 < ((lenAt data 0 : Nat) : Int)) := by omega
  have h4I : ((ah : Int) == 12) = false := by rw [beq_eq_false_iff_ne]; omega
  have h5I : (data.length : Int) - 4 < ((lenAt data 0 : Nat) : Int) := by omega
  have B0 := alloc_below w (.cells #[.int .i64 0, .slice none 0 0] 36)
  have A0 := Arr.new w [.int .i64 0, .slice none 0 0] 36
  have K : Hid (∀ W, Rd W (some ⟨b, o, none⟩) q data → Calls Try.prog 66 #[.int .i64 0, .slice (some ⟨b, o, none⟩) data.length q] W fun e w' => e = .returned (.tuple #[.int .u8 (at8 data 0), .int .i64 ((lenAt data 0 : Nat) : Int)]) ∧ Below W.heap.size W w') := fun W h => readHead_m b o q data W h (by omega)
  have HR : Hid (Rd w (some ⟨b, o, none⟩) q data) := hr
  generalize lenAt data 0 = n at *
  generalize at8 data 0 = y0 at *
  clear hr h2 h3
  go_enter Try.func49, Try.ntmps49
  go_wp2_with fail
  refine (K.out _ (HR.out.keep B0)).mono ?_
  rintro e w2 ⟨rfl, hb⟩
  have A2 := A0.stay hb
  have B2 := Below.step B0 hb
  have c0 := A2.cell 0
  have c1 := A2.cell 1
  have fz := A2.frozen
  simp at c0 c1
  clear A0 A2 B0 hb K HR
  go_wp2_with fail
  all_goals exact bodyPost_ret (v := .tuple #[.agg #[.int .i64 0, .slice none 0 0], .int .i64 5]) (by simp [results, Try.results49, go_sem, c0, c1]) rfl ⟨rfl, (B2.setCell (Nat.le_refl _) _).setCell (Nat.le_refl _) _⟩
set_option maxRecDepth 4000 in
set_option maxHeartbeats 1000000 in
theorem firstMsg_ok (b o q ah : Nat) (data : List UInt8) (w : World) (hr : Rd w (some ⟨b, o, none⟩) q data) (hl : ¬ data.length < 4) (h2 : ¬ (160 < lenAt data 0 ∨ ah = 12)) (h3 : ¬ data.length - 4 < lenAt data 0) :
    Calls Try.prog 49 #[.slice (some ⟨b, o, none⟩) data.length q, .int .i64 ah] w fun e w' => ∃ u, e = .returned (.tuple #[.agg #[.int .i64 (at8 data 0), u], .int .i64 0]) ∧ Own w' w.heap.size u (bodyAt data 0) ∧ Below w.heap.size w w' := by
  have hlI : ¬ ((data.length : Int) < 4) := by omega
  have hq1 : data.length ≤ q := hr.1
  have hq2 : q ≤ 2 ^ 63 - 1 := hr.2.1
  have h3I : ¬ (160 < ((lenAt data 0 : Nat) : Int)) := by omega
  have h4I : ((ah : Int) == 12) = false := by rw [beq_eq_false_iff_ne]; omega
  have h5I : ¬ ((data.length : Int) - 4 < ((lenAt data 0 : Nat) : Int)) := by omega
  have B0 := alloc_below w (.cells #[.int .i64 0, .slice none 0 0] 36)
  have A0 := Arr.new w [.int .i64 0, .slice none 0 0] 36
  have K : Hid (∀ W, Rd W (some ⟨b, o, none⟩) q data → Calls Try.prog 66 #[.int .i64 0, .slice (some ⟨b, o, none⟩) data.length q] W fun e w' => e = .returned (.tuple #[.int .u8 (at8 data 0), .int .i64 ((lenAt data 0 : Nat) : Int)]) ∧ Below W.heap.size W w') := fun W h => readHead_m b o q data W h (by omega)
  have HR : Hid (Rd w (some ⟨b, o, none⟩) q data) := hr
  have hbl : Hid ((bodyAt data 0).length = lenAt data 0) := by show _ = _; unfold bodyAt; rw [List.length_take, List.length_drop]; omega
  have hR2 : Hid (Rd w (if q = 4 then some ⟨b, o, none⟩ else some ⟨b, o + 4, none⟩) (q - 4) (bodyAt data 0)) := by
    have hcut := hr.cut 4 (lenAt data 0) (q - 4) (by omega) (by omega) (by have := hr.2.1; omega)
    show Rd _ _ _ _
    split
    · rename_i hq
      have hn0 : lenAt data 0 = 0 := by omega
      have e0 : bodyAt data 0 = [] := List.eq_nil_of_length_eq_zero (by rw [hbl.out, hn0])
      rw [e0]
      exact ⟨by simp, by unfold maxLen; omega, fun e => by simp at e, fun h => by simp at h⟩
    · exact hcut
  have KC : Hid (∀ W, Below w.heap.size w W → Calls Try.prog 67 #[.slice (if q = 4 then some ⟨b, o, none⟩ else some ⟨b, o + 4, none⟩) (lenAt data 0) (q - 4)] W fun e w' => ∃ u, e = .returned u ∧ Own w' W.heap.size u (bodyAt data 0) ∧ Below W.heap.size W w') := fun W hb => by
    have h := bytesClone_c _ _ _ W (hR2.out.keep hb) (by rw [hbl.out]; omega)
    rw [hbl.out] at h
    exact h
  have y0l := at8_lo data 0
  have y0u := at8_hi data 0
  generalize bodyAt data 0 = body at *
  generalize lenAt data 0 = n at *
  generalize at8 data 0 = y0 at *
  clear hr h2 h3 hR2
  go_enter Try.func49, Try.ntmps49
  go_wp2_with fail
  refine (K.out _ (HR.out.keep B0)).mono ?_
  rintro e w2 ⟨rfl, hb⟩
  have A2 := A0.stay hb
  have B2 := Below.step B0 hb
  clear A0 B0 hb K HR
  go_wp2_with fail
  all_goals
    have KC2 := KC.out w2 B2
    simp only [h, if_true, if_false, Nat.sub_self] at KC2
    refine KC2.mono ?_
    rintro e w3 ⟨u3, rfl, k3, hb3⟩
    have A3 := A2.stay hb3
    have B3 := Below.step B2 hb3
    have hlt : Hid (w.heap.size < w2.heap.size) := A2.lt
    obtain ⟨p3, q3, rfl, -⟩ := k3.rd
    have c0 := A3.cell 0
    have c1 := A3.cell 1
    have fz := A3.frozen
    simp at c0 c1
    rw [hbl.out] at k3 ⊢
    clear A2 A3 B2 KC KC2 hb3
    go_wp2_with fail
    refine bodyPost_ret (v := .tuple #[.agg #[.int .i64 y0, .slice p3 n q3], .int .i64 0]) (by simp [results, Try.results49, go_sem, c0, c1]) rfl ⟨_, rfl, ?_, (B3.setCell (Nat.le_refl _) _).setCell (Nat.le_refl _) _⟩
    exact ((k3.set (a := ⟨w.heap.size, 0, none⟩) hlt.out _).set (a := ⟨w.heap.size, 1, none⟩) hlt.out _).lower (B' := w.heap.size) (Nat.le_of_lt hlt.out)

set_option maxRecDepth 4000 in
set_option maxHeartbeats 1000000 in
theorem firstBlock_no (b o q : Nat) (data : List UInt8) (w : World) (hr : Rd w (some ⟨b, o, none⟩) q data) (hl : 1 ≤ data.length) (h2 : 120 < numAt data 0 ∨ data.length - 1 < numAt data 0) :
    Calls Try.prog 58 #[.slice (some ⟨b, o, none⟩) data.length q] w fun e w' => e = .returned (.tuple #[.slice none 0 0, .bool false]) ∧ Below w.heap.size w w' := by
  have hlI : 1 ≤ (data.length : Int) := by omega
  have hq1 : data.length ≤ q := hr.1
  have hq2 : q ≤ 2 ^ 63 - 1 := hr.2.1
  have K : Hid (Calls Try.prog 66 #[.int .i64 1, .slice (some ⟨b, o, none⟩) data.length q] w fun e w' => e = .returned (.tuple #[.int .u8 0, .int .i64 ((numAt data 0 : Nat) : Int)]) ∧ Below w.heap.size w w') := readHead_b b o q data w hr hl
  generalize numAt data 0 = n at *
  clear hr
  by_cases h3 : 120 < n
  case' pos =>
    have h3I : 120 < (n : Int) := by omega
    clear h2 h3
  case' neg =>
    have h3I : ¬ (120 < (n : Int)) := by omega
    have h4I : (data.length : Int) - 1 < (n : Int) := by omega
    have h5 : data.length - 1 < n := by omega
    clear h2 h3
  all_goals
    go_enter Try.func58, Try.ntmps58
    go_wp2_with fail
    refine K.out.mono ?_
    rintro e w2 ⟨rfl, hb⟩
    clear K
    go_wp2_with fail
    all_goals exact bodyPost_ret (v := .tuple #[.slice none 0 0, .bool false]) (by simp [results, Try.results58, go_sem]) rfl ⟨rfl, hb⟩
set_option maxRecDepth 4000 in
set_option maxHeartbeats 1000000 in
theorem firstBlock_ok (b o q : Nat) (data : List UInt8) (w : World) (hr : Rd w (some ⟨b, o, none⟩) q data) (hl : 1 ≤ data.length) (h2 : ¬ (120 < numAt data 0 ∨ data.length - 1 < numAt data 0)) :
    Calls Try.prog 58 #[.slice (some ⟨b, o, none⟩) data.length q] w fun e w' => ∃ u, e = .returned (.tuple #[u, .bool true]) ∧ Own w' w.heap.size u (blkAt data 0) ∧ Below w.heap.size w w' := by
  have hlI : 1 ≤ (data.length : Int) := by omega
  have hq1 : data.length ≤ q := hr.1
  have hq2 : q ≤ 2 ^ 63 - 1 := hr.2.1
  have K : Hid (Calls Try.prog 66 #[.int .i64 1, .slice (some ⟨b, o, none⟩) data.length q] w fun e w' => e = .returned (.tuple #[.int .u8 0, .int .i64 ((numAt data 0 : Nat) : Int)]) ∧ Below w.heap.size w w') := readHead_b b o q data w hr hl
  have h3I : ¬ (120 < ((numAt data 0 : Nat) : Int)) := by omega
  have h4I : ¬ ((data.length : Int) - 1 < ((numAt data 0 : Nat) : Int)) := by omega
  have h5 : ¬ (data.length - 1 < numAt data 0) := by omega
  have hbl : Hid ((blkAt data 0).length = numAt data 0) := by show _ = _; unfold blkAt; rw [List.length_take, List.length_drop]; omega
  have hR2 : Hid (Rd w (if q = 1 then some ⟨b, o, none⟩ else some ⟨b, o + 1, none⟩) (q - 1) (blkAt data 0)) := by
    have hcut := hr.cut 1 (numAt data 0) (q - 1) (by omega) (by omega) (by have := hr.2.1; omega)
    show Rd _ _ _ _
    split
    · rename_i hq
      have hn0 : numAt data 0 = 0 := by omega
      have e0 : blkAt data 0 = [] := List.eq_nil_of_length_eq_zero (by rw [hbl.out, hn0])
      rw [e0]
      exact ⟨by simp, by unfold maxLen; omega, fun e => by simp at e, fun h => by simp at h⟩
    · exact hcut
  have KC : Hid (∀ W, Below w.heap.size w W → Calls Try.prog 67 #[.slice (if q = 1 then some ⟨b, o, none⟩ else some ⟨b, o + 1, none⟩) (numAt data 0) (q - 1)] W fun e w' => ∃ u, e = .returned u ∧ Own w' W.heap.size u (blkAt data 0) ∧ Below W.heap.size W w') := fun W hb => by
    have h := bytesClone_c _ _ _ W (hR2.out.keep hb) (by rw [hbl.out]; omega)
    rw [hbl.out] at h
    exact h
  generalize blkAt data 0 = body at *
  generalize numAt data 0 = n at *
  clear hr h2 hR2
  go_enter Try.func58, Try.ntmps58
  go_wp2_with fail
  refine K.out.mono ?_
  rintro e w2 ⟨rfl, hb⟩
  clear K
  go_wp2_with fail
  all_goals
    have KC2 := KC.out w2 hb
    simp only [h, if_true, if_false, Nat.sub_self] at KC2
    refine KC2.mono ?_
    rintro e w3 ⟨u3, rfl, k3, hb3⟩
    have B3 := Below.step hb hb3
    have k3' := k3.lower (B' := w.heap.size) hb.size
    obtain ⟨p3, q3, rfl, -⟩ := k3.rd
    rw [hbl.out] at k3' ⊢
    clear KC KC2 hb3 k3
    go_wp2_with fail
    exact bodyPost_ret (v := .tuple #[.slice p3 n q3, .bool true]) (by simp [results, Try.results58, go_sem]) rfl ⟨_, rfl, k3', B3⟩
end Go.Proofs.Ytoneggbbfjenpaa
