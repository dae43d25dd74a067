/- isKey of the program: does it have 32 bytes? -/
import Derived.Test.YtiabacnmmojfjabGreatDoorJoint7
import Derived.Test.YtiabacnmmojfjabGreatDoorJoint1
import Derived.Handy
import Derived.Test.YtiabacnmmojfjabGreatDoorJoint14
import Derived.Test.YtiabacnmmojfjabGreatDoorJoint13
import Derived.Test.YtiabacnmmojfjabGreatDoorShk
import Derived.Test.YtiabacnmmojfjabGreatDoorJoint10
import Derived.Test.YtiabacnmmojfjabGreatDoorHelG
namespace Go.Proofs.YtiabacnmmojfjabGreatDoor
open Go.ChangeShapes Go.WideShapes Go.ChangeAt Go.RowKit

theorem isKeyR_c (p : Option Addr) (q : Nat) (bs : List UInt8) (w : World) : Calls Tryz.prog 141 #[.slice p bs.length q] w fun e w' => e = .returned (.bool (is32 bs)) ∧ w' = w := by
  by_cases h : bs.length = 32
  · rw [show is32 bs = true by simp [is32, h]]
    have d1 : ((bs.length : Int) == 32) = true := by rw [beq_iff_eq]; omega
    clear h
    go_enter Tryz.func141, Tryz.ntmps141
    go_wp2
    go_ret
    exact ⟨rfl, rfl⟩
  · rw [show is32 bs = false by simp [is32, h]]
    have d1 : ((bs.length : Int) == 32) = false := by rw [beq_eq_false_iff_ne]; omega
    clear h
    go_enter Tryz.func141, Tryz.ntmps141
    go_wp2
    go_ret
    exact ⟨rfl, rfl⟩
end Go.Proofs.YtiabacnmmojfjabGreatDoor

/- The contracts of what reads in chapter 6 of the program: a head (readHead), the first message and the first block of bytes. What was there stays. -/
namespace Go.Proofs.YtiabacnmmojfjabGreatDoor
open Go.ChangeShapes Go.WideShapes Go.ChangeAt Go.RowKit

/-- The number that three bytes tell. -/
theorem get3 (data : List UInt8) (h : 4 ≤ data.length) : ((lenAt data 0 : Nat) : Int) = (at8 data 1 * 256 + at8 data 2) * 256 + at8 data 3 := by
  match data, h with
  | a :: b :: c :: d :: rest, _ =>
    simp [lenAt, getB, at8]
theorem i64_or_nat (a b : Nat) (ha : a < 9223372036854775808) (hb : b < 9223372036854775808) : bits .or .i64 (a : Int) (b : Int) = ((a ||| b : Nat) : Int) := by
  have hx : a ||| b < 2 ^ 63 := Nat.or_lt_two_pow (by omega) (by omega)
  show IntKind.i64.wrap ((BitVec.ofInt 64 (a : Int) ||| BitVec.ofInt 64 (b : Int)).toNat : Int) = _
  rw [BitVec.toNat_or, ofInt_i64 a ha, ofInt_i64 b hb, wrap_i64_nat _ (by omega)]
theorem or_addW (a b k : Nat) (h : a < 2 ^ k) : b * 2 ^ k ||| a = b * 2 ^ k + a := by
  rw [← Nat.shiftLeft_eq, ← Nat.shiftLeft_add_eq_or_of_lt h]
theorem or3 (y1 y2 y3 : Int) (l1 : 0 ≤ y1) (u1 : y1 ≤ 255) (l2 : 0 ≤ y2) (u2 : y2 ≤ 255) (l3 : 0 ≤ y3) (u3 : y3 ≤ 255) : bits .or .i64 (bits .or .i64 (y1 * 65536) (y2 * 256)) y3 = (y1 * 256 + y2) * 256 + y3 := by
  obtain ⟨y1, rfl⟩ := Int.eq_ofNat_of_zero_le l1
  obtain ⟨y2, rfl⟩ := Int.eq_ofNat_of_zero_le l2
  obtain ⟨y3, rfl⟩ := Int.eq_ofNat_of_zero_le l3
  have e1 := or_addW (y2 * 2 ^ 8) y1 16 (by omega)
  have e2 := or_addW y3 (y1 * 2 ^ 8 + y2) 8 (by omega)
  rw [show ((y1 : Int) * 65536) = ((y1 * 2 ^ 16 : Nat) : Int) by omega, show ((y2 : Int) * 256) = ((y2 * 2 ^ 8 : Nat) : Int) by omega, i64_or_nat _ _ (by omega) (by omega), e1, i64_or_nat _ _ (by omega) (by omega), show y1 * 2 ^ 16 + y2 * 2 ^ 8 = (y1 * 2 ^ 8 + y2) * 2 ^ 8 by omega, e2]
  omega
set_option maxRecDepth 4000 in
set_option maxHeartbeats 1000000 in
theorem readHead_m (b o q : Nat) (data : List UInt8) (w : World) (hr : Rd w (some ⟨b, o, none⟩) q data) (hl : 4 ≤ data.length) :
    Calls Tryz.prog 214 #[.int .i64 0, .slice (some ⟨b, o, none⟩) data.length q] w fun e w' => e = .returned (.tuple #[.int .u8 (at8 data 0), .int .i64 ((lenAt data 0 : Nat) : Int)]) ∧ Below w.heap.size w w' := by
  obtain ⟨b', o', e, hc⟩ := hr.2.2.2 (by omega)
  cases e
  have h0 := hc 0 (by omega)
  have h1 := hc 1 (by omega)
  have h2 := hc 2 (by omega)
  have h3 := hc 3 (by omega)
  rw [Nat.add_zero] at h0
  rw [get3 data hl]
  have hlI : 4 ≤ (data.length : Int) := by omega
  have l1 := at8_lo data 1
  have u1 := at8_hi data 1
  have l2 := at8_lo data 2
  have u2 := at8_hi data 2
  have l3 := at8_lo data 3
  have u3 := at8_hi data 3
  generalize at8 data 0 = y0 at *
  generalize at8 data 1 = y1 at *
  generalize at8 data 2 = y2 at *
  generalize at8 data 3 = y3 at *
  clear hc hr hl
  go_enter Tryz.func214, Tryz.ntmps214
  go_wp2_with fail
  have HO := or3 y1 y2 y3 l1 u1 l2 u2 l3 u3
  go_quiet (fail)
  go_wp2_with fail
  exact bodyPost_ret (v := .tuple #[.int .u8 y0, .int .i64 ((y1 * 256 + y2) * 256 + y3)]) (by simp [results, Tryz.results214, go_sem]) rfl ⟨rfl, ⟨rfl, rfl, rfl, Nat.le_refl _, fun _ _ => rfl⟩⟩
set_option maxRecDepth 4000 in
set_option maxHeartbeats 1000000 in
theorem readHead_b (b o q : Nat) (data : List UInt8) (w : World) (hr : Rd w (some ⟨b, o, none⟩) q data) (hl : 1 ≤ data.length) :
    Calls Tryz.prog 214 #[.int .i64 1, .slice (some ⟨b, o, none⟩) data.length q] w fun e w' => e = .returned (.tuple #[.int .u8 0, .int .i64 ((numAt data 0 : Nat) : Int)]) ∧ Below w.heap.size w w' := by
  obtain ⟨b', o', e, hc⟩ := hr.2.2.2 (by omega)
  cases e
  have h0 := hc 0 (by omega)
  rw [Nat.add_zero] at h0
  have hlI : 1 ≤ (data.length : Int) := by omega
  have l0 := at8_lo data 0
  have u0 := at8_hi data 0
  rw [show ((numAt data 0 : Nat) : Int) = at8 data 0 from rfl]
  generalize at8 data 0 = y0 at *
  have HO : bits .or .i64 0 y0 = y0 := by
    obtain ⟨y0, rfl⟩ := Int.eq_ofNat_of_zero_le l0
    have h := i64_or_nat 0 y0 (by omega) (by omega)
    rw [Nat.zero_or] at h
    exact h
  clear hc hr hl
  go_enter Tryz.func214, Tryz.ntmps214
  go_wp2_with fail
  exact bodyPost_ret (v := .tuple #[.int .u8 0, .int .i64 y0]) (by simp [results, Tryz.results214, go_sem]) rfl ⟨rfl, Below.refl _ _⟩


set_option maxRecDepth 4000 in
set_option maxHeartbeats 1000000 in
theorem firstBlock_no (b o q : Nat) (data : List UInt8) (w : World) (hr : Rd w (some ⟨b, o, none⟩) q data) (hl : 1 ≤ data.length) (h2 : 120 < numAt data 0 ∨ data.length - 1 < numAt data 0) :
    Calls Tryz.prog 207 #[.slice (some ⟨b, o, none⟩) data.length q] w fun e w' => e = .returned (.tuple #[.slice none 0 0, .bool false]) ∧ Below w.heap.size w w' := by
  have hlI : 1 ≤ (data.length : Int) := by omega
  have hq1 : data.length ≤ q := hr.1
  have hq2 : q ≤ 2 ^ 63 - 1 := hr.2.1
  have K : Hid (Calls Tryz.prog 214 #[.int .i64 1, .slice (some ⟨b, o, none⟩) data.length q] w fun e w' => e = .returned (.tuple #[.int .u8 0, .int .i64 ((numAt data 0 : Nat) : Int)]) ∧ Below w.heap.size w w') := readHead_b b o q data w hr hl
  generalize numAt data 0 = n at *
  clear hr
  by_cases h3 : 120 < n
  case' pos =>
    have h3I : 120 < (n : Int) := by omega
    clear h2 h3
  case' neg =>
    have h3I : ¬ (120 < (n : Int)) := by omega
    have h4I : (data.length : Int) - 1 < (n : Int) := by omega
    have h5 : data.length - 1 < n := by omega
    clear h2 h3
  all_goals
    go_enter Tryz.func207, Tryz.ntmps207
    go_wp2_with fail
    refine K.out.mono ?_
    rintro e w2 ⟨rfl, hb⟩
    clear K
    go_wp2_with fail
    all_goals exact bodyPost_ret (v := .tuple #[.slice none 0 0, .bool false]) (by simp [results, Tryz.results207, go_sem]) rfl ⟨rfl, hb⟩
set_option maxRecDepth 4000 in
set_option maxHeartbeats 1000000 in
theorem firstBlock_ok (b o q : Nat) (data : List UInt8) (w : World) (hr : Rd w (some ⟨b, o, none⟩) q data) (hl : 1 ≤ data.length) (h2 : ¬ (120 < numAt data 0 ∨ data.length - 1 < numAt data 0)) :
    Calls Tryz.prog 207 #[.slice (some ⟨b, o, none⟩) data.length q] w fun e w' => ∃ u, e = .returned (.tuple #[u, .bool true]) ∧ Own w' w.heap.size u (blkAt data 0) ∧ Below w.heap.size w w' := by
  have hlI : 1 ≤ (data.length : Int) := by omega
  have hq1 : data.length ≤ q := hr.1
  have hq2 : q ≤ 2 ^ 63 - 1 := hr.2.1
  have K : Hid (Calls Tryz.prog 214 #[.int .i64 1, .slice (some ⟨b, o, none⟩) data.length q] w fun e w' => e = .returned (.tuple #[.int .u8 0, .int .i64 ((numAt data 0 : Nat) : Int)]) ∧ Below w.heap.size w w') := readHead_b b o q data w hr hl
  have h3I : ¬ (120 < ((numAt data 0 : Nat) : Int)) := by omega
  have h4I : ¬ ((data.length : Int) - 1 < ((numAt data 0 : Nat) : Int)) := by omega
  have h5 : ¬ (data.length - 1 < numAt data 0) := by omega
  have hbl : Hid ((blkAt data 0).length = numAt data 0) := by show _ = _; unfold blkAt; rw [List.length_take, List.length_drop]; omega
  have hR2 : Hid (Rd w (if q = 1 then some ⟨b, o, none⟩ else some ⟨b, o + 1, none⟩) (q - 1) (blkAt data 0)) := by
    have hcut := hr.cut 1 (numAt data 0) (q - 1) (by omega) (by omega) (by have := hr.2.1; omega)
    show Rd _ _ _ _
    split
    · rename_i hq
      have hn0 : numAt data 0 = 0 := by omega
      have e0 : blkAt data 0 = [] := List.eq_nil_of_length_eq_zero (by rw [hbl.out, hn0])
      rw [e0]
      exact ⟨by simp, by unfold maxLen; omega, fun e => by simp at e, fun h => by simp at h⟩
    · exact hcut
  have KC : Hid (∀ W, Below w.heap.size w W → Calls Tryz.prog 167 #[.slice (if q = 1 then some ⟨b, o, none⟩ else some ⟨b, o + 1, none⟩) (numAt data 0) (q - 1)] W fun e w' => ∃ u, e = .returned u ∧ Own w' W.heap.size u (blkAt data 0) ∧ Below W.heap.size W w') := fun W hb => by
    have h := bytesClone_c _ _ _ W (hR2.out.keep hb) (by rw [hbl.out]; omega)
    rw [hbl.out] at h
    exact h
  generalize blkAt data 0 = body at *
  generalize numAt data 0 = n at *
  clear hr h2 hR2
  go_enter Tryz.func207, Tryz.ntmps207
  go_wp2_with fail
  refine K.out.mono ?_
  rintro e w2 ⟨rfl, hb⟩
  clear K
  go_wp2_with fail
  all_goals
    have KC2 := KC.out w2 hb
    simp only [h, if_true, if_false, Nat.sub_self] at KC2
    refine KC2.mono ?_
    rintro e w3 ⟨u3, rfl, k3, hb3⟩
    have B3 := Below.step hb hb3
    have k3' := k3.lower (B' := w.heap.size) hb.size
    obtain ⟨p3, q3, rfl, -⟩ := k3.rd
    rw [hbl.out] at k3' ⊢
    clear KC KC2 hb3 k3
    go_wp2_with fail
    exact bodyPost_ret (v := .tuple #[.slice p3 n q3, .bool true]) (by simp [results, Tryz.results207, go_sem]) rfl ⟨_, rfl, k3', B3⟩
end Go.Proofs.YtiabacnmmojfjabGreatDoor

/- The contracts of chapter 6's functions on messages in the program: MsgFault, PackMsg, PackMsgs, UnpackMsgs, SameMsgs: code, place, bytes and messages, at every argument. What was there stays. -/
namespace Go.Proofs.YtiabacnmmojfjabGreatDoor
open Go.ChangeShapes Go.WideShapes Go.ChangeAt Go.RowKit

theorem implMF_c (a : MsgD) (p : Option Addr) (q : Nat) (w : World) (_hr : Rd w p q a.2) :
    Calls Tryz.prog 140 #[.agg #[.int .i64 a.1, .slice p a.2.length q]] w fun e w' => e = .returned (.int .i64 (faultW a.1 a.2.length)) ∧ Below w.heap.size w w' := implMF_n a.1 a.2.length q p w




end Go.Proofs.YtiabacnmmojfjabGreatDoor

/- SideFault, EndFault of the program and what they are made of (lengthWhere, fitStage), at every argument. What was there stays. -/
namespace Go.Proofs.YtiabacnmmojfjabGreatDoor
open Go.ChangeShapes Go.WideShapes Go.ChangeAt Go.RowKit

theorem lengthWhere_c (t : Bool) (w : World) : Calls Tryz.prog 118 #[.bool t] w fun e w' => e = .returned (.int .i64 (if t then 32 else 0)) ∧ w' = w := by
  cases t
  · go_enter Tryz.func118, Tryz.ntmps118
    go_wp2
    go_ret
    exact ⟨rfl, rfl⟩
  · go_enter Tryz.func118, Tryz.ntmps118
    go_wp2
    go_ret
    exact ⟨rfl, rfl⟩
set_option maxRecDepth 4000 in
set_option maxHeartbeats 1000000 in
theorem implSi_k (s : SideD) (us : List Value) (w : World) (r : sideC.rep w s us) :
    Calls Tryz.prog 72 #[.agg us.toArray] w fun e w' => e = .returned (.int .i64 (sfC s)) ∧ Below w.heap.size w w' := by
  obtain ⟨p2, q2, p4, q4, rfl, -, -⟩ := side_rep r
  clear r
  have BW := alloc_below w (.cells #[.int .i64 s.1, .slice p2 s.2.1.length q2, .int .i64 s.2.2.1, .slice p4 s.2.2.2.length q4] 32)
  have A := Arr.new w [.int .i64 s.1, .slice p2 s.2.1.length q2, .int .i64 s.2.2.1, .slice p4 s.2.2.2.length q4] 32
  suffices H : ∀ Q : Ending → World → Prop, Hid (∀ c w', c = sfC s → Below w.heap.size w w' → Q (.returned (.int .i64 c)) w') → Calls Tryz.prog 72 #[.agg #[.int .i64 s.1, .slice p2 s.2.1.length q2, .int .i64 s.2.2.1, .slice p4 s.2.2.2.length q4]] w Q from H _ (show Hid _ from fun c w' hc hb => ⟨by rw [hc], hb⟩)
  intro Q HQ
  cases h1 : inB s.1 1 65519
  · have hc : Hid (3 = sfC s) := by show _ = _; simp [sfC, h1]
    go_enter Tryz.func72, Tryz.ntmps72
    go_wp2_with fail
    refine (isGroupSecret_c _ _).mono ?_
    rintro e w' ⟨rfl, rfl⟩
    rw [h1]
    go_wp2
    exact HQ.out _ _ hc.out BW
  · cases h2 : inB s.2.2.1 0 9
    · have hc : Hid (3 = sfC s) := by show _ = _; simp [sfC, h2]
      go_enter Tryz.func72, Tryz.ntmps72
      go_wp2_with fail
      refine (isGroupSecret_c _ _).mono ?_
      rintro e w' ⟨rfl, rfl⟩
      rw [h1]
      go_wp2_with fail
      refine (isPsk_c _ _).mono ?_
      rintro e w' ⟨rfl, rfl⟩
      rw [h2]
      go_wp2
      exact HQ.out _ _ hc.out BW
    · have HF : Hid (sfC s = if s.2.1.length = 8 ∧ s.2.2.2.length = keyW s.2.2.1 then 0 else 1) := by show _ = _; simp [sfC, h1, h2]
      have KW := fun w => isWhole_c p2 q2 s.2.1 w
      by_cases h8 : s.2.1.length = 8
      · rw [show decide (s.2.1.length = 8) = true by simp [h8]] at KW
        have KL := fun w => lengthWhere_c (s.2.2.1 != 0) w
        by_cases hk : s.2.2.2.length = keyW s.2.2.1
        · have hc : Hid (0 = sfC s) := by show _ = _; rw [HF.out, if_pos ⟨h8, hk⟩]
          have dk : ((s.2.2.2.length : Int) != (if (s.2.2.1 != 0) = true then 32 else 0)) = false := by
            rw [bne_eq_false_iff_eq, hk]
            unfold keyW
            by_cases h0 : s.2.2.1 = 0 <;> simp [h0]
          clear h8 hk HF
          generalize (if (s.2.2.1 != 0) = true then (32 : Int) else 0) = lw at *
          go_enter Tryz.func72, Tryz.ntmps72
          go_wp2_with fail
          refine (isGroupSecret_c _ _).mono ?_
          rintro e w' ⟨rfl, rfl⟩
          rw [h1]
          go_wp2_with fail
          refine (isPsk_c _ _).mono ?_
          rintro e w' ⟨rfl, rfl⟩
          rw [h2]
          go_wp2_with fail
          go_quiet (first | (go_at_call 117; exact Calls.quiet_of_same (KW _)) | (go_at_call 118; exact Calls.quiet_of_same (KL _)))
          go_wp2
          exact HQ.out _ _ hc.out ⟨BW.os, BW.tape, BW.output, BW.size, BW.block⟩
        · have hc : Hid (1 = sfC s) := by show _ = _; rw [HF.out, if_neg (fun h => hk h.2)]
          have dk : ((s.2.2.2.length : Int) != (if (s.2.2.1 != 0) = true then 32 else 0)) = true := by
            rw [bne_iff_ne]
            intro e
            apply hk
            unfold keyW
            by_cases h0 : s.2.2.1 = 0 <;> simp [h0] at e ⊢ <;> omega
          clear h8 hk HF
          generalize (if (s.2.2.1 != 0) = true then (32 : Int) else 0) = lw at *
          go_enter Tryz.func72, Tryz.ntmps72
          go_wp2_with fail
          refine (isGroupSecret_c _ _).mono ?_
          rintro e w' ⟨rfl, rfl⟩
          rw [h1]
          go_wp2_with fail
          refine (isPsk_c _ _).mono ?_
          rintro e w' ⟨rfl, rfl⟩
          rw [h2]
          go_wp2_with fail
          go_quiet (first | (go_at_call 117; exact Calls.quiet_of_same (KW _)) | (go_at_call 118; exact Calls.quiet_of_same (KL _)))
          go_wp2
          exact HQ.out _ _ hc.out ⟨BW.os, BW.tape, BW.output, BW.size, BW.block⟩
      · rw [show decide (s.2.1.length = 8) = false by simp [h8]] at KW
        have hc : Hid (1 = sfC s) := by show _ = _; rw [HF.out, if_neg (fun h => h8 h.1)]
        clear h8 HF
        go_enter Tryz.func72, Tryz.ntmps72
        go_wp2_with fail
        refine (isGroupSecret_c _ _).mono ?_
        rintro e w' ⟨rfl, rfl⟩
        rw [h1]
        go_wp2_with fail
        refine (isPsk_c _ _).mono ?_
        rintro e w' ⟨rfl, rfl⟩
        rw [h2]
        go_wp2_with fail
        go_quiet ((go_at_call 117; exact Calls.quiet_of_same (KW _)))
        go_wp2
        exact HQ.out _ _ hc.out ⟨BW.os, BW.tape, BW.output, BW.size, BW.block⟩
theorem seB_is (x : SecretsD) (n : Nat) : seB x n = ([x.1, x.2.1, x.2.2.1, x.2.2.2].all fun b => decide (b.length = n)) := by simp [seB]
set_option maxRecDepth 4000 in
set_option maxHeartbeats 1000000 in
theorem fitStage_c (x : SecretsD) (st : Int) (p1 p2 p3 p4 : Option Addr) (q1 q2 q3 q4 : Nat) (w : World) :
    Calls Tryz.prog 142 #[.agg #[.slice p1 x.1.length q1, .slice p2 x.2.1.length q2, .slice p3 x.2.2.1.length q3, .slice p4 x.2.2.2.length q4], .int .i64 st] w fun e w' => e = .returned (.bool (seB x (wantW st))) ∧ Below w.heap.size w w' := by
  obtain ⟨a, b, c, d⟩ := x
  have BW := Below.mk (alloc_below w (.cells #[.slice p1 a.length q1, .slice p2 b.length q2, .slice p3 c.length q3, .slice p4 d.length q4] 34)) (.cells #[.slice p1 a.length q1, .slice p2 b.length q2, .slice p3 c.length q3, .slice p4 d.length q4] 22)
  have KL := fun w => lengthWhere_c (st == 3) w
  obtain ⟨n, hn⟩ : ∃ n : Nat, n = wantW st := ⟨_, rfl⟩
  have hlw : (if (st == 3) = true then (32 : Int) else 0) = (n : Int) := by
    rw [hn]
    unfold wantW
    by_cases h0 : st = 3 <;> simp [h0]
  rw [hlw] at KL
  rw [← hn]
  have hn32 : n ≤ 32 := by rw [hn]; unfold wantW; split <;> decide
  clear hlw hn
  suffices H : ∀ Q : Ending → World → Prop, Hid (∀ c' w', c' = seB (a, b, c, d) n → Below w.heap.size w w' → Q (.returned (.bool c')) w') → Calls Tryz.prog 142 #[.agg #[.slice p1 a.length q1, .slice p2 b.length q2, .slice p3 c.length q3, .slice p4 d.length q4], .int .i64 st] w Q from H _ (show Hid _ from fun c w' hc hb => ⟨by rw [hc], hb⟩)
  intro Q HQ
  have HE : Hid (seB (a, b, c, d) n = ([a, b, c, d].all fun b => decide (b.length = n))) := seB_is _ _
  have A := Arr.new (w.alloc (.cells #[.slice p1 a.length q1, .slice p2 b.length q2, .slice p3 c.length q3, .slice p4 d.length q4] 34)) [.slice p1 a.length q1, .slice p2 b.length q2, .slice p3 c.length q3, .slice p4 d.length q4] 22
  rw [size_alloc] at A
  have HV : Hid (∀ k, k < 4 → ∃ x pk qk, [a, b, c, d][k]? = some x ∧ [Value.slice p1 a.length q1, .slice p2 b.length q2, .slice p3 c.length q3, .slice p4 d.length q4][k]? = some (.slice pk x.length qk)) := fun k hk => by
    match k, hk with
    | 0, _ => exact ⟨_, _, _, rfl, rfl⟩
    | 1, _ => exact ⟨_, _, _, rfl, rfl⟩
    | 2, _ => exact ⟨_, _, _, rfl, rfl⟩
    | 3, _ => exact ⟨_, _, _, rfl, rfl⟩
  go_enter Tryz.func142, Tryz.ntmps142
  go_wp2_with fail
  refine (KL _).mono ?_
  rintro e w' ⟨rfl, rfl⟩
  go_wp2_with fail
  generalize hW : (w.alloc (.cells #[.slice p1 a.length q1, .slice p2 b.length q2, .slice p3 c.length q3, .slice p4 d.length q4] 34)).alloc (.cells #[.slice p1 a.length q1, .slice p2 b.length q2, .slice p3 c.length q3, .slice p4 d.length q4] 22) = W at *
  clear hW KL
  generalize [Value.slice p1 a.length q1, .slice p2 b.length q2, .slice p3 c.length q3, .slice p4 d.length q4] = vs at *
  obtain ⟨ls, HLS⟩ : ∃ ls, Hid (ls = [a, b, c, d]) := ⟨_, rfl⟩
  rw [← HLS.out] at HE HV
  have H4 : Hid (ls.length = 4) := by show _ = _; rw [HLS.out]; rfl
  go_loopw [21] (fun i wr => ∃ k : Nat, k ≤ 4 ∧ i = .int .i64 k ∧ (∀ (j : Nat) (x : List UInt8), j < k → ls[j]? = some x → x.length = n) ∧ wr = W)
    (fun i _ => 4 - (intOf i).toNat)
  case atStart => exact ⟨0, Nat.zero_le _, rfl, fun j b hj => absurd hj (Nat.not_lt_zero _), rfl⟩
  case round =>
    obtain ⟨k, hk, rfl, hall, rfl⟩ := hrel
    by_cases hlt : k < 4
    · have hI : (k : Int) < 4 := by omega
      obtain ⟨x, pk, qk, hx, hv⟩ := HV.out k hlt
      have cx := (A.cell k).trans hv
      by_cases hf : x.length = n
      · have hall2 : Hid (∀ (j : Nat) (y : List UInt8), j < k + 1 → ls[j]? = some y → y.length = n) := fun j y hj hy => by
          by_cases h : j < k
          · exact hall j y h hy
          · rw [show j = k by omega, hx] at hy; cases hy; exact hf
        have dn : ((x.length : Int) != (n : Int)) = false := by rw [bne_eq_false_iff_eq]; omega
        clear hf hall hx hv
        go_wp2_with fail
        go_roundw
        case rel => exact ⟨k + 1, by omega, by go_num, hall2.out, trivial⟩
        case measure => simp [intOf]; omega
      · have dn : ((x.length : Int) != (n : Int)) = true := by rw [bne_iff_ne]; omega
        have HE2 : Hid (seB (a, b, c, d) n = false) := by
          show _ = _
          rw [HE.out, List.all_eq_false]
          exact ⟨x, List.mem_of_getElem? hx, by simpa using hf⟩
        clear hf hall hx hv
        go_wp2
        exact HQ.out _ _ HE2.out.symm BW
    · have ek : k = 4 := by omega
      subst ek
      have HE2 : Hid (seB (a, b, c, d) n = true) := by
        show _ = _
        rw [HE.out, List.all_eq_true]
        intro x hx
        obtain ⟨j, hj, rfl⟩ := List.getElem_of_mem hx
        have h4 := H4.out
        simpa using hall j _ (by omega) (List.getElem?_eq_getElem hj)
      clear hall
      go_wp2
      exact HQ.out _ _ HE2.out.symm BW
set_option maxRecDepth 4000 in
set_option maxHeartbeats 2000000 in
theorem implEf_k (e : EndD) (us : List Value) (w : World) (r : endC.rep w e us) :
    Calls Tryz.prog 98 #[.agg us.toArray] w fun x w' => x = .returned (.int .i64 (efC e)) ∧ Below w.heap.size w w' := by
  obtain ⟨p1, q1, p2, q2, p3, q3, p4, q4, p5, q5, p6, q6, p7, q7, p8, q8, rfl, r1, r2, rm, -, -, -, -, -⟩ := end_rep r
  clear r
  have BW := alloc_below w (.cells #[.int .i64 e.1.1, .slice p1 e.1.2.1.length q1, .int .i64 e.1.2.2.1, .slice p2 e.1.2.2.2.length q2, .int .i64 e.2.1, .int .i64 e.2.2.1, .slice p3 e.2.2.2.1.length q3, .slice p4 e.2.2.2.2.1.length q4, .slice p5 e.2.2.2.2.2.1.length q5, .slice p6 e.2.2.2.2.2.2.1.length q6, .slice p7 e.2.2.2.2.2.2.2.1.length q7, .slice p8 e.2.2.2.2.2.2.2.2.length q8] 36)
  have A := Arr.new w [.int .i64 e.1.1, .slice p1 e.1.2.1.length q1, .int .i64 e.1.2.2.1, .slice p2 e.1.2.2.2.length q2, .int .i64 e.2.1, .int .i64 e.2.2.1, .slice p3 e.2.2.2.1.length q3, .slice p4 e.2.2.2.2.1.length q4, .slice p5 e.2.2.2.2.2.1.length q5, .slice p6 e.2.2.2.2.2.2.1.length q6, .slice p7 e.2.2.2.2.2.2.2.1.length q7, .slice p8 e.2.2.2.2.2.2.2.2.length q8] 36
  have KS : Hid (Calls Tryz.prog 72 #[.agg #[.int .i64 e.1.1, .slice p1 e.1.2.1.length q1, .int .i64 e.1.2.2.1, .slice p2 e.1.2.2.2.length q2]] (w.alloc (.cells #[.int .i64 e.1.1, .slice p1 e.1.2.1.length q1, .int .i64 e.1.2.2.1, .slice p2 e.1.2.2.2.length q2, .int .i64 e.2.1, .int .i64 e.2.2.1, .slice p3 e.2.2.2.1.length q3, .slice p4 e.2.2.2.2.1.length q4, .slice p5 e.2.2.2.2.2.1.length q5, .slice p6 e.2.2.2.2.2.2.1.length q6, .slice p7 e.2.2.2.2.2.2.2.1.length q7, .slice p8 e.2.2.2.2.2.2.2.2.length q8] 36)) fun x w' => x = .returned (.int .i64 (sfC e.1)) ∧ Below (w.alloc (.cells #[.int .i64 e.1.1, .slice p1 e.1.2.1.length q1, .int .i64 e.1.2.2.1, .slice p2 e.1.2.2.2.length q2, .int .i64 e.2.1, .int .i64 e.2.2.1, .slice p3 e.2.2.2.1.length q3, .slice p4 e.2.2.2.2.1.length q4, .slice p5 e.2.2.2.2.2.1.length q5, .slice p6 e.2.2.2.2.2.2.1.length q6, .slice p7 e.2.2.2.2.2.2.2.1.length q7, .slice p8 e.2.2.2.2.2.2.2.2.length q8] 36)).heap.size (w.alloc (.cells #[.int .i64 e.1.1, .slice p1 e.1.2.1.length q1, .int .i64 e.1.2.2.1, .slice p2 e.1.2.2.2.length q2, .int .i64 e.2.1, .int .i64 e.2.2.1, .slice p3 e.2.2.2.1.length q3, .slice p4 e.2.2.2.2.1.length q4, .slice p5 e.2.2.2.2.2.1.length q5, .slice p6 e.2.2.2.2.2.2.1.length q6, .slice p7 e.2.2.2.2.2.2.2.1.length q7, .slice p8 e.2.2.2.2.2.2.2.2.length q8] 36)) w') :=
    implSi_k e.1 _ _ (side_mk (r1.keep BW) (r2.keep BW))
  have HR : Hid (RdL msgC w p3 q3 e.2.2.2.1) := rm
  clear r1 r2 rm
  suffices H : ∀ Q : Ending → World → Prop, Hid (∀ c w', c = efC e → Below w.heap.size w w' → Q (.returned (.int .i64 c)) w') → Calls Tryz.prog 98 #[.agg #[.int .i64 e.1.1, .slice p1 e.1.2.1.length q1, .int .i64 e.1.2.2.1, .slice p2 e.1.2.2.2.length q2, .int .i64 e.2.1, .int .i64 e.2.2.1, .slice p3 e.2.2.2.1.length q3, .slice p4 e.2.2.2.2.1.length q4, .slice p5 e.2.2.2.2.2.1.length q5, .slice p6 e.2.2.2.2.2.2.1.length q6, .slice p7 e.2.2.2.2.2.2.2.1.length q7, .slice p8 e.2.2.2.2.2.2.2.2.length q8]] w Q from H _ (show Hid _ from fun c w' hc hb => ⟨by rw [hc], hb⟩)
  intro Q HQ
  by_cases hs : sfC e.1 = 0
  · rw [hs] at KS
    have HE : Hid (efC e = if inB e.2.1 1 3 && inB e.2.2.1 0 2 then (if e.2.2.2.1.length ≤ 4 then (if firstF e.2.2.2.1 = 0 then (if (e.2.2.2.2.1.length = 0 ∨ e.2.2.2.2.1.length = 32) ∧ seB e.2.2.2.2.2 (wantW e.2.1) = true then 0 else 1) else firstF e.2.2.2.1) else 2) else 3) := by show _ = _; unfold efC; rw [if_pos hs]
    clear hs
    go_enter Tryz.func98, Tryz.ntmps98
    go_wp2_with fail
    refine KS.out.mono ?_
    rintro x w1 ⟨rfl, hb1⟩
    replace BW := Below.step BW hb1
    replace A := A.stay hb1
    clear hb1 KS
    have c4 := (A.cell 4).trans (show _ = some _ from rfl)
    have c5 := (A.cell 5).trans (show _ = some _ from rfl)
    have c6 := (A.cell 6).trans (show _ = some _ from rfl)
    by_cases h13 : 1 ≤ e.2.1 ∧ e.2.1 ≤ 3 ∧ 0 ≤ e.2.2.1 ∧ e.2.2.1 ≤ 2
    · have d1 : ¬ (e.2.1 < 1) := by omega
      have d2 : ¬ (3 < e.2.1) := by omega
      have d3 : ¬ (e.2.2.1 < 0) := by omega
      have d4 : ¬ (2 < e.2.2.1) := by omega
      replace HE : Hid (efC e = if e.2.2.2.1.length ≤ 4 then (if firstF e.2.2.2.1 = 0 then (if (e.2.2.2.2.1.length = 0 ∨ e.2.2.2.2.1.length = 32) ∧ seB e.2.2.2.2.2 (wantW e.2.1) = true then 0 else 1) else firstF e.2.2.2.1) else 2) := by show _ = _; rw [HE.out, if_pos (by simp [inB, h13])]
      clear h13
      by_cases h4 : e.2.2.2.1.length ≤ 4
      · have h4I : ¬ (4 < (e.2.2.2.1.length : Int)) := by omega
        replace HE : Hid (efC e = if firstF e.2.2.2.1 = 0 then (if (e.2.2.2.2.1.length = 0 ∨ e.2.2.2.2.1.length = 32) ∧ seB e.2.2.2.2.2 (wantW e.2.1) = true then 0 else 1) else firstF e.2.2.2.1) := by show _ = _; rw [HE.out, if_pos h4]
        have H4 : Hid (e.2.2.2.1.length ≤ 4) := h4
        clear h4
        generalize e.2.2.2.1 = l at *
        go_wp2_with fail
        clear c4 c5 c6 d1 d2 d3 d4 h4I
        go_loopw [37] (fun i wr => ∃ k : Nat, k ≤ l.length ∧ i = .int .i64 k ∧ (∀ (j : Nat) (b : Int × List UInt8), j < k → l[j]? = some b → faultW b.1 b.2.length = 0) ∧ Below w1.heap.size w1 wr)
          (fun i _ => l.length - (intOf i).toNat)
        case atStart => exact ⟨0, Nat.zero_le _, rfl, fun j b hj => absurd hj (Nat.not_lt_zero _), Below.refl _ _⟩
        case round =>
          obtain ⟨k, hk, rfl, hall, hbr⟩ := hrel
          replace BW := Below.step BW hbr
          replace A := A.stay hbr
          by_cases hlt : k < l.length
          · have hI : (k : Int) < (l.length : Int) := by omega
            obtain ⟨bb, o, e1, hc⟩ := (HR.out.keep BW).2.2.2 (by omega)
            subst e1
            obtain ⟨a, ha⟩ : ∃ a, l[k]? = some a := ⟨l[k], by simp [hlt]⟩
            obtain ⟨us, hrep, hcell⟩ := hc k a ha
            obtain ⟨pa, qa, rfl, ra⟩ := msg_rep hrep
            have m0 := hcell 0 _ rfl
            have m1 := hcell 1 _ rfl
            rw [show msgC.n = 2 from rfl] at m0 m1
            rw [Nat.add_zero] at m0
            have KF : Hid (∀ w, Calls Tryz.prog 140 #[.agg #[.int .i64 a.1, .slice pa a.2.length qa]] w fun e w' => e = .returned (.int .i64 (faultW a.1 a.2.length)) ∧ Below w.heap.size w w') := implMF_n a.1 a.2.length qa pa
            have HBR : Hid (Below w1.heap.size w1 wr) := hbr
            clear hc hcell hrep hbr A
            by_cases hf : faultW a.1 a.2.length = 0
            · have hall2 : Hid (∀ (j : Nat) (b : Int × List UInt8), j < k + 1 → l[j]? = some b → faultW b.1 b.2.length = 0) := fun j b hj hb => by
                by_cases h : j < k
                · exact hall j b h hb
                · rw [show j = k by omega, ha] at hb; cases hb; exact hf
              rw [hf] at KF
              clear hf hall
              go_wp2_with fail
              refine (KF.out _).mono ?_
              rintro e w2 ⟨rfl, hb2⟩
              have HB2 : Hid (Below w1.heap.size w1 w2) := Below.step (Below.step HBR.out (alloc_below _ _)) hb2
              clear hb2 m0 m1 HBR
              go_wp2_with fail
              go_roundw
              case rel => exact ⟨k + 1, by omega, by go_num, hall2.out, HB2.out⟩
              case measure => simp [intOf]; omega
            · have hFF : Hid (firstF l = faultW a.1 a.2.length) := firstF_at ha hall hf
              have HE2 : Hid (efC e = faultW a.1 a.2.length) := by show _ = _; rw [HE.out, if_neg (by rw [hFF.out]; exact hf), hFF.out]
              obtain ⟨fc, hfc⟩ : ∃ fc, Hid (faultW a.1 a.2.length = fc) := ⟨_, rfl⟩
              have hz : (fc != 0) = true := by rw [bne_iff_ne, ← hfc.out]; exact hf
              rw [hfc.out] at KF HE2
              clear hf hall hFF HE
              go_wp2_with fail
              refine (KF.out _).mono ?_
              rintro e w2 ⟨rfl, hb2⟩
              replace BW := Below.step (Below.step BW (alloc_below _ _)) hb2
              clear hb2 m0 m1 HBR
              go_wp2
              exact HQ.out _ _ HE2.out.symm BW
          · have ek : k = l.length := by omega
            subst ek
            have hF0 : Hid (firstF l = 0) := firstF_zero fun j b hb => hall j b (List.getElem?_eq_some_iff.1 hb).1 hb
            replace HE : Hid (efC e = if (e.2.2.2.2.1.length = 0 ∨ e.2.2.2.2.1.length = 32) ∧ seB e.2.2.2.2.2 (wantW e.2.1) = true then 0 else 1) := by show _ = _; rw [HE.out, if_pos hF0.out]
            clear hF0 hall hlt hbr
            have c4 := (A.cell 4).trans (show _ = some _ from rfl)
            have c7 := (A.cell 7).trans (show _ = some _ from rfl)
            have c8 := (A.cell 8).trans (show _ = some _ from rfl)
            have c9 := (A.cell 9).trans (show _ = some _ from rfl)
            have c10 := (A.cell 10).trans (show _ = some _ from rfl)
            have c11 := (A.cell 11).trans (show _ = some _ from rfl)
            have KI := fun w => isKeyR_c p4 q4 e.2.2.2.2.1 w
            have KFS := fitStage_c e.2.2.2.2.2 e.2.1 p5 p6 p7 p8 q5 q6 q7 q8 wr
            clear A
            obtain ⟨x, hx⟩ : ∃ x, x = e.2.2.2.2.2 := ⟨_, rfl⟩
            obtain ⟨bs, hbs⟩ : ∃ bs, bs = e.2.2.2.2.1 := ⟨_, rfl⟩
            rw [← hx] at HE KFS c8 c9 c10 c11
            rw [← hbs] at HE KI c7
            clear hx hbs
            by_cases hb0 : bs.length = 0
            · have d0 : ((bs.length : Int) != 0) = false := by rw [bne_eq_false_iff_eq]; omega
              cases hse : seB x (wantW e.2.1)
              · have HE2 : Hid (efC e = 1) := by show _ = _; rw [HE.out, hse, if_neg (fun h => absurd h.2 (by decide))]
                rw [hse] at KFS
                clear HE hb0 hse KI
                go_wp2_with fail
                refine KFS.mono ?_
                rintro e w2 ⟨rfl, hb2⟩
                replace BW := Below.step BW hb2
                go_wp2
                exact HQ.out _ _ HE2.out.symm BW
              · have HE2 : Hid (efC e = 0) := by show _ = _; rw [HE.out, hse, if_pos ⟨.inl hb0, rfl⟩]
                rw [hse] at KFS
                clear HE hb0 hse KI
                go_wp2_with fail
                refine KFS.mono ?_
                rintro e w2 ⟨rfl, hb2⟩
                replace BW := Below.step BW hb2
                go_wp2
                exact HQ.out _ _ HE2.out.symm BW
            · have d0 : ((bs.length : Int) != 0) = true := by rw [bne_iff_ne]; omega
              by_cases hb32 : bs.length = 32
              · rw [show is32 bs = true by simp [is32, hb32]] at KI
                cases hse : seB x (wantW e.2.1)
                · have HE2 : Hid (efC e = 1) := by show _ = _; rw [HE.out, hse, if_neg (fun h => absurd h.2 (by decide))]
                  rw [hse] at KFS
                  clear HE hb0 hse hb32
                  go_wp2_with fail
                  refine (KI _).mono ?_
                  rintro e w2 ⟨rfl, hw⟩
                  subst w2
                  go_wp2_with fail
                  refine KFS.mono ?_
                  rintro e w2 ⟨rfl, hb2⟩
                  replace BW := Below.step BW hb2
                  go_wp2
                  exact HQ.out _ _ HE2.out.symm BW
                · have HE2 : Hid (efC e = 0) := by show _ = _; rw [HE.out, hse, if_pos ⟨.inr hb32, rfl⟩]
                  rw [hse] at KFS
                  clear HE hb0 hse hb32
                  go_wp2_with fail
                  refine (KI _).mono ?_
                  rintro e w2 ⟨rfl, hw⟩
                  subst w2
                  go_wp2_with fail
                  refine KFS.mono ?_
                  rintro e w2 ⟨rfl, hb2⟩
                  replace BW := Below.step BW hb2
                  go_wp2
                  exact HQ.out _ _ HE2.out.symm BW
              · rw [show is32 bs = false by simp [is32, hb32]] at KI
                have HE2 : Hid (efC e = 1) := by show _ = _; rw [HE.out, if_neg (fun h => h.1.elim hb0 hb32)]
                clear HE hb0 hb32 KFS
                go_wp2_with fail
                refine (KI _).mono ?_
                rintro e w2 ⟨rfl, hw⟩
                subst w2
                go_wp2
                exact HQ.out _ _ HE2.out.symm BW
      · have h4I : 4 < (e.2.2.2.1.length : Int) := by omega
        have HE2 : Hid (efC e = 2) := by show _ = _; rw [HE.out, if_neg h4]
        clear h4 HE
        go_wp2
        exact HQ.out _ _ HE2.out.symm BW
    · have HE2 : Hid (efC e = 3) := by
        show _ = _
        rw [HE.out, if_neg]
        intro h
        apply h13
        simpa [inB, and_assoc] using h
      have hd : e.2.1 < 1 ∨ ¬ e.2.1 < 1 ∧ (3 < e.2.1 ∨ ¬ 3 < e.2.1 ∧ (e.2.2.1 < 0 ∨ ¬ e.2.2.1 < 0 ∧ 2 < e.2.2.1)) := by omega
      clear h13 HE
      rcases hd with d1 | ⟨d1, d2 | ⟨d2, d3 | ⟨d3, d4⟩⟩⟩
      all_goals
        go_wp2
        exact HQ.out _ _ HE2.out.symm BW
  · have hd : (sfC e.1 != 0) = true := by rw [bne_iff_ne]; exact hs
    have HE : Hid (efC e = sfC e.1) := by show _ = _; unfold efC; rw [if_neg hs]
    clear hs
    generalize sfC e.1 = ac at *
    go_enter Tryz.func98, Tryz.ntmps98
    go_wp2_with fail
    refine KS.out.mono ?_
    rintro x w1 ⟨rfl, hb1⟩
    replace BW := Below.step BW hb1
    go_wp2
    exact HQ.out _ _ HE.out.symm BW
end Go.Proofs.YtiabacnmmojfjabGreatDoor

