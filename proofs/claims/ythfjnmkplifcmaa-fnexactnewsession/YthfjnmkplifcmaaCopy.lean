/- The contracts of the laws' own helpers on bytes: toByteS copies what it reads into a row of its own; eqByteS answers true at equal bytes. For at most 1048576 bytes. -/
import Derived.Test.YthfjnmkplifcmaaRows
import Derived.Test.YthfjnmkplifcmaaBytes
import Derived.ProofKit
import Derived.OpenShut
import Derived.Deep.QuietTactic
import Derived.BigQuiet
namespace Go.Proofs.Ythfjnmkplifcmaa
open Go.ChangeShapes Go.WideShapes Go.ChangeAt Go.RowKit
theorem info8 : (Try.prog.info? 5).map (fun i => (i.zero, i.size, i.bytes)) = some (some (.int .u8 0), 1, 1) := by kernel_rfl

set_option maxHeartbeats 1000000 in
theorem toByteS_c (a : Option Addr) (cap : Nat) (bs : List UInt8) (w : World) (hr : Rd w a cap bs) (hl : bs.length ≤ 1048576) :
    Calls Try.prog 21 #[.slice a bs.length cap] w fun e w' => ∃ v, e = .returned v ∧ Own w' w.heap.size v bs ∧ Below w.heap.size w w' := by
  obtain ⟨i0, hi, hz0, hz1, hz2⟩ := info_parts info8
  have hm : bs.length ≤ maxLen := by unfold maxLen; omega
  go_enter Try.func21, Try.ntmps21
  go_wp2_with (first
    | (at_make; refine wpList_make_full _ rfl (.tmp 6) (.tmp 6) 22 rfl w.heap.size 5 i0 (.int .u8 0) 1 Try.underlying22 hi hz0 hz1 .i64 .i64 _ _ bs.length rfl rfl rfl rfl (by rw [hz2]; omega) hm (Nat.le_refl _) ?_; intro w1 hown hgrow)
    | go_in)
  rw [replicate_made, ← part_zero bs bs.length] at hown
  have hb1 : Below w.heap.size w w1 := (Below.refl _ _).grown hgrow (Nat.le_refl _) (fun k hk => by simp at hk)
  clear hgrow hz0 hz1 hz2 hi
  go_loopw [4] (fun i wr => ∃ k : Nat, k ≤ bs.length ∧ i = .int .i64 k ∧ wr.ownsRow w.heap.size 5 1 (.slice (some ⟨w.heap.size, 0, none⟩) bs.length bs.length) bs.length (part bs bs.length k) ∧ Below w.heap.size w wr)
    (fun i _ => bs.length - (intOf i).toNat)
  case atStart => exact ⟨0, Nat.zero_le _, rfl, hown, hb1⟩
  case round =>
    obtain ⟨k, hk, rfl, hown, hbel⟩ := hrel
    by_cases hlt : k < bs.length
    · obtain ⟨b, o, rfl, hc⟩ := hr.2.2.2 (by omega)
      have hlb : b < w.heap.size := World.block_lt_of_cell? w _ (hc 0 (by omega))
      have hcx : wr.cell? ⟨b, o + k, none⟩ = some (.int .u8 (at8 bs k)) := (hbel.cell (by exact hlb)).trans (hc k hlt)
      have hcy : wr.cell? ⟨w.heap.size, k, none⟩ = some (.int .u8 0) := by rw [World.ownsRow.cellAt hown k (by omega), part_at bs k hlt]
      have hfy : wr.frozen? ⟨w.heap.size, k, none⟩ = false := World.ownsRow.frozenAt hown k
      have R := World.ownsRow.stored hown k (.int .u8 (at8 bs k))
      rw [part_set bs k hlt] at R
      have RB : Below w.heap.size w (wr.setCell ⟨w.heap.size, k, none⟩ (.int .u8 (at8 bs k))) := hbel.setCell (Nat.le_refl _) _
      clear hc hr hown
      go_wp2
      go_roundw
      case rel => exact ⟨k + 1, by omega, by go_num, R.1, RB⟩
      case measure => simp [intOf]; omega
    · have e : k = bs.length := by omega
      subst e
      rw [part_all] at hown
      go_wp2
      go_ret
      exact ⟨_, rfl, hown, hbel⟩

set_option maxHeartbeats 1000000 in
theorem eqByteS_c (a b : Option Addr) (ca cb : Nat) (bs : List UInt8) (w : World) (hra : Rd w a ca bs) (hrb : Rd w b cb bs) :
    Calls Try.prog 24 #[.slice a bs.length ca, .slice b bs.length cb] w fun e w' => e = .returned (.bool true) ∧ Below w.heap.size w w' := by
  have hm : bs.length ≤ maxLen := Nat.le_trans hra.1 hra.2.1
  unfold maxLen at hm
  go_enter Try.func24, Try.ntmps24
  go_wp2
  go_loopw [5] (fun i wr => ∃ k : Nat, k ≤ bs.length ∧ i = .int .i64 k ∧ Below w.heap.size w wr)
    (fun i _ => bs.length - (intOf i).toNat)
  case atStart => exact ⟨0, Nat.zero_le _, rfl, Below.refl _ _⟩
  case round =>
    obtain ⟨k, hk, rfl, hbel⟩ := hrel
    by_cases hlt : k < bs.length
    · obtain ⟨b1, o1, rfl, hc1⟩ := hra.2.2.2 (by omega)
      obtain ⟨b2, o2, rfl, hc2⟩ := hrb.2.2.2 (by omega)
      have hcx : wr.cell? ⟨b1, o1 + k, none⟩ = some (.int .u8 (at8 bs k)) := (hbel.cell (World.block_lt_of_cell? w _ (hc1 k hlt))).trans (hc1 k hlt)
      have hcy : wr.cell? ⟨b2, o2 + k, none⟩ = some (.int .u8 (at8 bs k)) := (hbel.cell (World.block_lt_of_cell? w _ (hc2 k hlt))).trans (hc2 k hlt)
      have hlt' : (k : Int) < (bs.length : Int) := by omega
      clear hc1 hc2 hra hrb
      go_wp2
      go_quiet (fail)
      go_wp2
      go_roundw
      case rel => exact ⟨k + 1, by omega, by go_num, below_drewN hbel _⟩
      case measure => simp [intOf]; omega
    · go_wp2
      go_ret
      exact ⟨rfl, hbel⟩

set_option maxHeartbeats 1000000 in
theorem markByteS_c (B : Nat) (v : Value) (bs : List UInt8) (m : Nat) (w : World) (ho : Own w B v bs) (hm : m + bs.length ≤ 1000000000000) :
    Calls Try.prog 25 #[v, .int .i64 m] w fun e w' => e = .returned (.int .i64 ((m : Int) + (bs.length : Int))) ∧ Own w' B v (marks m bs.length) ∧ w.grownBy w' v.ownBlock := by
  obtain ⟨h1, h2⟩ := id ho
  rcases h2 with ⟨rfl, hn⟩ | ⟨g, cap, cur, rfl, hb, hg, hle, hcm, hs, ht⟩
  · have e : bs = [] := List.length_eq_zero_iff.1 hn
    subst e
    go_enter Try.func25, Try.ntmps25
    go_wp2
    refine wp_loop_rounds 1 ?_
    rw [rounds_succ]
    go_wp2
    go_ret
    exact ⟨by simp, ho, World.grownBy.refl _ _⟩
  · clear h1 hb hg hs ht cur
    go_enter Try.func25, Try.ntmps25
    go_wp2
    go_loopw [1, 5] (fun q i wr => ∃ j : Nat, j ≤ bs.length ∧ i = .int .i64 j ∧ q = .int .i64 ((m : Int) + j) ∧ Own wr B (.slice (some ⟨g, 0, none⟩) bs.length cap) (marked bs m j) ∧ w.grownBy wr (some g))
      (fun _ i _ => bs.length - (intOf i).toNat)
    case atStart => exact ⟨0, Nat.zero_le _, rfl, by simp, by rw [marked_zero]; exact ho, World.grownBy.refl _ _⟩
    case round =>
      obtain ⟨j, hj, rfl, rfl, hown, hgr⟩ := hrel
      have hml := marked_len bs m j hj
      by_cases hlt : j < bs.length
      · unfold Own at hown
        rw [hml] at hown
        have hcy : wr.cell? ⟨g, j, none⟩ = some (.int .u8 (at8 (marked bs m j) j)) := by rw [World.ownsRow.cellAt hown j (by omega), u8v_at (by omega)]
        have hfy : wr.frozen? ⟨g, j, none⟩ = false := World.ownsRow.frozenAt hown j
        have R := World.ownsRow.stored hown j (.int .u8 (((m : Int) + j) % 256))
        rw [marked_set bs m j hlt] at R
        have hml2 := marked_len bs m (j + 1) hlt
        clear hown hml ho
        go_wp2
        go_roundw
        case rel => exact ⟨j + 1, by omega, by go_num, by go_num, by unfold Own; rw [hml2]; exact R.1, grownBy_trans hgr R.2⟩
        case measure => simp [intOf]; omega
      · have e : j = bs.length := by omega
        subst e
        rw [marked_all] at hown
        go_wp2
        go_ret
        exact ⟨rfl, hown, hgr⟩

set_option maxHeartbeats 1000000 in
theorem heldByteS_c (a : Option Addr) (cap : Nat) (n m : Nat) (w : World) (hr : Rd w a cap (marks m n)) (hm : m + n ≤ 1048577) :
    Calls Try.prog 83 #[.slice a n cap, .int .i64 m] w fun e w' => e = .returned (.int .i64 ((m : Int) + (n : Int))) ∧ w' = w := by
  unfold Rd at hr
  rw [marks_len] at hr
  obtain ⟨h1, h2, h3, h4⟩ := hr
  unfold maxLen at h2
  go_enter Try.func83, Try.ntmps83
  go_wp2
  go_loop [1, 5] (fun q i => ∃ j : Nat, j ≤ n ∧ i = .int .i64 j ∧ q = .int .i64 ((m : Int) + j))
    (fun _ i => n - (intOf i).toNat)
  case atStart => exact ⟨0, Nat.zero_le _, rfl, by simp⟩
  case round =>
    obtain ⟨j, hj, rfl, rfl⟩ := hrel
    by_cases hlt : j < n
    · obtain ⟨b, o, rfl, hc⟩ := h4 (by omega)
      have hcx : w.cell? ⟨b, o + j, none⟩ = some (.int .u8 (((m : Int) + j) % 256)) := by rw [hc j hlt, at8_marks hlt]
      clear hc h4
      go_wp2
      go_round
      case rel => exact ⟨j + 1, by omega, by go_num, by go_num⟩
      case measure => simp [intOf]; omega
    · have e : j = n := by omega
      subst e
      go_wp2
      go_ret
      exact ⟨rfl, rfl⟩

theorem markByteS_c1 (B : Nat) (v : Value) (bs : List UInt8) (w : World) (ho : Own w B v bs) (hm : bs.length ≤ 1048576) :
    Calls Try.prog 25 #[v, .int .i64 1] w fun e w' => e = .returned (.int .i64 (1 + (bs.length : Int))) ∧ Own w' B v (marks 1 bs.length) ∧ w.grownBy w' v.ownBlock :=
  markByteS_c B v bs 1 w ho (by omega)
theorem markByteS_cn (m : Int) (B : Nat) (v : Value) (bs : List UInt8) (w : World) (ho : Own w B v bs) (h0 : 0 ≤ m) (hm : m ≤ 900000000000) (hl : bs.length ≤ 1000000000) :
    Calls Try.prog 25 #[v, .int .i64 m] w fun e w' => e = .returned (.int .i64 (m + (bs.length : Int))) ∧ Own w' B v (marks m.toNat bs.length) ∧ w.grownBy w' v.ownBlock := by
  obtain ⟨m, rfl⟩ := Int.eq_ofNat_of_zero_le h0
  exact markByteS_c B v bs m w ho (by omega)
end Go.Proofs.Ythfjnmkplifcmaa

