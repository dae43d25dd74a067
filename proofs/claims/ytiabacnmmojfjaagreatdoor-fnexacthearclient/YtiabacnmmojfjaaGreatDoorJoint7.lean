/- The contract of lwBig: codes of more than 1048576 bytes are passed by. -/
import Derived.Test.YtiabacnmmojfjaaGreatDoorRows
import Derived.Test.YtiabacnmmojfjaaGreatDoorJoint1
import Derived.ProofKit
import Derived.OpenShut
import Derived.Deep.QuietTactic
import Derived.BigQuiet
import Derived.Test.YtiabacnmmojfjaaGreatDoorJoint2
import Derived.Test.YtiabacnmmojfjaaGreatDoorJoint3
import Derived.Test.YtiabacnmmojfjaaGreatDoorJoint4
import Derived.Deep.RegionWith
namespace Go.Proofs.YtiabacnmmojfjaaGreatDoor
open Go.ChangeShapes Go.WideShapes Go.ChangeAt Go.RowKit
end Go.Proofs.YtiabacnmmojfjaaGreatDoor
/- The contracts of the laws' own helpers on bytes: toByteS copies what it reads into a row of its own; eqByteS answers true at equal bytes. For at most 1048576 bytes. -/
namespace Go.Proofs.YtiabacnmmojfjaaGreatDoor
open Go.ChangeShapes Go.WideShapes Go.ChangeAt Go.RowKit
theorem info8 : (Tryz.prog.info? 5).map (fun i => (i.zero, i.size, i.bytes)) = some (some (.int .u8 0), 1, 1) := by kernel_rfl
set_option maxHeartbeats 1000000 in
theorem toByteS_c (a : Option Addr) (cap : Nat) (bs : List UInt8) (w : World) (hr : Rd w a cap bs) (hl : bs.length ≤ 1048576) :
    Calls Tryz.prog 87 #[.slice a bs.length cap] w fun e w' => ∃ v, e = .returned v ∧ Own w' w.heap.size v bs ∧ Below w.heap.size w w' := by
  obtain ⟨i0, hi, hz0, hz1, hz2⟩ := info_parts info8
  have hm : bs.length ≤ maxLen := by unfold maxLen; omega
  go_enter Tryz.func87, Tryz.ntmps87
  go_wp2_with (first
    | (at_make; refine wpList_make_full _ rfl (.tmp 6) (.tmp 6) 22 rfl w.heap.size 5 i0 (.int .u8 0) 1 Tryz.underlying22 hi hz0 hz1 .i64 .i64 _ _ bs.length rfl rfl rfl rfl (by rw [hz2]; omega) hm (Nat.le_refl _) ?_; intro w1 hown hgrow)
    | go_in)
  rw [replicate_made, ← part_zero bs bs.length] at hown
  have hb1 : Below w.heap.size w w1 := (Below.refl _ _).grown hgrow (Nat.le_refl _) (fun k hk => by simp at hk)
  clear hgrow hz0 hz1 hz2 hi
  go_loopw [4] (fun i wr => ∃ k : Nat, k ≤ bs.length ∧ i = .int .i64 k ∧ wr.ownsRow w.heap.size 5 1 (.slice (some ⟨w.heap.size, 0, none⟩) bs.length bs.length) bs.length (part bs bs.length k) ∧ Below w.heap.size w wr)
    (fun i _ => bs.length - (intOf i).toNat)
  case atStart => exact ⟨0, Nat.zero_le _, rfl, hown, hb1⟩
  case round =>
    obtain ⟨k, hk, rfl, hown, hbel⟩ := hrel
    by_cases hlt : k < bs.length
    · obtain ⟨b, o, rfl, hc⟩ := hr.2.2.2 (by omega)
      have hlb : b < w.heap.size := World.block_lt_of_cell? w _ (hc 0 (by omega))
      have hcx : wr.cell? ⟨b, o + k, none⟩ = some (.int .u8 (at8 bs k)) := (hbel.cell (by exact hlb)).trans (hc k hlt)
      have hcy : wr.cell? ⟨w.heap.size, k, none⟩ = some (.int .u8 0) := by rw [World.ownsRow.cellAt hown k (by omega), part_at bs k hlt]
      have hfy : wr.frozen? ⟨w.heap.size, k, none⟩ = false := World.ownsRow.frozenAt hown k
      have R := World.ownsRow.stored hown k (.int .u8 (at8 bs k))
      rw [part_set bs k hlt] at R
      have RB : Below w.heap.size w (wr.setCell ⟨w.heap.size, k, none⟩ (.int .u8 (at8 bs k))) := hbel.setCell (Nat.le_refl _) _
      clear hc hr hown
      go_wp2
      go_roundw
      case rel => exact ⟨k + 1, by omega, by go_num, R.1, RB⟩
      case measure => simp [intOf]; omega
    · have e : k = bs.length := by omega
      subst e
      rw [part_all] at hown
      go_wp2
      go_ret
      exact ⟨_, rfl, hown, hbel⟩
set_option maxHeartbeats 1000000 in
theorem eqByteS_c (a b : Option Addr) (ca cb : Nat) (bs : List UInt8) (w : World) (hra : Rd w a ca bs) (hrb : Rd w b cb bs) :
    Calls Tryz.prog 90 #[.slice a bs.length ca, .slice b bs.length cb] w fun e w' => e = .returned (.bool true) ∧ Below w.heap.size w w' := by
  have hm : bs.length ≤ maxLen := Nat.le_trans hra.1 hra.2.1
  unfold maxLen at hm
  go_enter Tryz.func90, Tryz.ntmps90
  go_wp2
  go_loopw [5] (fun i wr => ∃ k : Nat, k ≤ bs.length ∧ i = .int .i64 k ∧ Below w.heap.size w wr)
    (fun i _ => bs.length - (intOf i).toNat)
  case atStart => exact ⟨0, Nat.zero_le _, rfl, Below.refl _ _⟩
  case round =>
    obtain ⟨k, hk, rfl, hbel⟩ := hrel
    by_cases hlt : k < bs.length
    · obtain ⟨b1, o1, rfl, hc1⟩ := hra.2.2.2 (by omega)
      obtain ⟨b2, o2, rfl, hc2⟩ := hrb.2.2.2 (by omega)
      have hcx : wr.cell? ⟨b1, o1 + k, none⟩ = some (.int .u8 (at8 bs k)) := (hbel.cell (World.block_lt_of_cell? w _ (hc1 k hlt))).trans (hc1 k hlt)
      have hcy : wr.cell? ⟨b2, o2 + k, none⟩ = some (.int .u8 (at8 bs k)) := (hbel.cell (World.block_lt_of_cell? w _ (hc2 k hlt))).trans (hc2 k hlt)
      have hlt' : (k : Int) < (bs.length : Int) := by omega
      clear hc1 hc2 hra hrb
      go_wp2
      go_quiet (fail)
      go_wp2
      go_roundw
      case rel => exact ⟨k + 1, by omega, by go_num, below_drewN hbel _⟩
      case measure => simp [intOf]; omega
    · go_wp2
      go_ret
      exact ⟨rfl, hbel⟩
set_option maxHeartbeats 1000000 in
theorem markByteS_c (B : Nat) (v : Value) (bs : List UInt8) (m : Nat) (w : World) (ho : Own w B v bs) (hm : m + bs.length ≤ 1000000000000) :
    Calls Tryz.prog 91 #[v, .int .i64 m] w fun e w' => e = .returned (.int .i64 ((m : Int) + (bs.length : Int))) ∧ Own w' B v (marks m bs.length) ∧ w.grownBy w' v.ownBlock := by
  obtain ⟨h1, h2⟩ := id ho
  rcases h2 with ⟨rfl, hn⟩ | ⟨g, cap, cur, rfl, hb, hg, hle, hcm, hs, ht⟩
  · have e : bs = [] := List.length_eq_zero_iff.1 hn
    subst e
    go_enter Tryz.func91, Tryz.ntmps91
    go_wp2
    refine wp_loop_rounds 1 ?_
    rw [rounds_succ]
    go_wp2
    go_ret
    exact ⟨by simp, ho, World.grownBy.refl _ _⟩
  · clear h1 hb hg hs ht cur
    go_enter Tryz.func91, Tryz.ntmps91
    go_wp2
    go_loopw [1, 5] (fun q i wr => ∃ j : Nat, j ≤ bs.length ∧ i = .int .i64 j ∧ q = .int .i64 ((m : Int) + j) ∧ Own wr B (.slice (some ⟨g, 0, none⟩) bs.length cap) (marked bs m j) ∧ w.grownBy wr (some g))
      (fun _ i _ => bs.length - (intOf i).toNat)
    case atStart => exact ⟨0, Nat.zero_le _, rfl, by simp, by rw [marked_zero]; exact ho, World.grownBy.refl _ _⟩
    case round =>
      obtain ⟨j, hj, rfl, rfl, hown, hgr⟩ := hrel
      have hml := marked_len bs m j hj
      by_cases hlt : j < bs.length
      · unfold Own at hown
        rw [hml] at hown
        have hcy : wr.cell? ⟨g, j, none⟩ = some (.int .u8 (at8 (marked bs m j) j)) := by rw [World.ownsRow.cellAt hown j (by omega), u8v_at (by omega)]
        have hfy : wr.frozen? ⟨g, j, none⟩ = false := World.ownsRow.frozenAt hown j
        have R := World.ownsRow.stored hown j (.int .u8 (((m : Int) + j) % 256))
        rw [marked_set bs m j hlt] at R
        have hml2 := marked_len bs m (j + 1) hlt
        clear hown hml ho
        go_wp2
        go_roundw
        case rel => exact ⟨j + 1, by omega, by go_num, by go_num, by unfold Own; rw [hml2]; exact R.1, grownBy_trans hgr R.2⟩
        case measure => simp [intOf]; omega
      · have e : j = bs.length := by omega
        subst e
        rw [marked_all] at hown
        go_wp2
        go_ret
        exact ⟨rfl, hown, hgr⟩
set_option maxHeartbeats 1000000 in
theorem heldByteS_c (a : Option Addr) (cap : Nat) (n m : Nat) (w : World) (hr : Rd w a cap (marks m n)) (hm : m + n ≤ 1048577) :
    Calls Tryz.prog 141 #[.slice a n cap, .int .i64 m] w fun e w' => e = .returned (.int .i64 ((m : Int) + (n : Int))) ∧ w' = w := by
  unfold Rd at hr
  rw [marks_len] at hr
  obtain ⟨h1, h2, h3, h4⟩ := hr
  unfold maxLen at h2
  go_enter Tryz.func141, Tryz.ntmps141
  go_wp2
  go_loop [1, 5] (fun q i => ∃ j : Nat, j ≤ n ∧ i = .int .i64 j ∧ q = .int .i64 ((m : Int) + j))
    (fun _ i => n - (intOf i).toNat)
  case atStart => exact ⟨0, Nat.zero_le _, rfl, by simp⟩
  case round =>
    obtain ⟨j, hj, rfl, rfl⟩ := hrel
    by_cases hlt : j < n
    · obtain ⟨b, o, rfl, hc⟩ := h4 (by omega)
      have hcx : w.cell? ⟨b, o + j, none⟩ = some (.int .u8 (((m : Int) + j) % 256)) := by rw [hc j hlt, at8_marks hlt]
      clear hc h4
      go_wp2
      go_round
      case rel => exact ⟨j + 1, by omega, by go_num, by go_num⟩
      case measure => simp [intOf]; omega
    · have e : j = n := by omega
      subst e
      go_wp2
      go_ret
      exact ⟨rfl, rfl⟩
theorem markByteS_cn (m : Int) (B : Nat) (v : Value) (bs : List UInt8) (w : World) (ho : Own w B v bs) (h0 : 0 ≤ m) (hm : m ≤ 900000000000) (hl : bs.length ≤ 1000000000) :
    Calls Tryz.prog 91 #[v, .int .i64 m] w fun e w' => e = .returned (.int .i64 (m + (bs.length : Int))) ∧ Own w' B v (marks m.toNat bs.length) ∧ w.grownBy w' v.ownBlock := by
  obtain ⟨m, rfl⟩ := Int.eq_ofNat_of_zero_le h0
  exact markByteS_c B v bs m w ho (by omega)
end Go.Proofs.YtiabacnmmojfjaaGreatDoor
/- The contracts of the laws' own helpers on whole numbers: toInt64S copies what it reads into a row of its own; eqInt64S answers true at equal numbers; markInt64S, heldInt64S; the same on IntsResult. For at most 1048576 numbers. -/
namespace Go.Proofs.YtiabacnmmojfjaaGreatDoor
open Go.ChangeShapes Go.WideShapes Go.ChangeAt Go.RowKit
end Go.Proofs.YtiabacnmmojfjaaGreatDoor
/- The contracts of BytesWord and of what it calls, in the specification and in the program: both answer gwCode and gwVal, at every argument. -/
namespace Go.Proofs.YtiabacnmmojfjaaGreatDoor
open Go.ChangeShapes Go.WideShapes Go.ChangeAt Go.RowKit
def gwCode (bs : List UInt8) : Int := if bs.length = 4 then 0 else 1
def gwVal (bs : List UInt8) : Int := if bs.length = 4 then (getB bs : Nat) else 0
set_option maxHeartbeats 1000000 in
theorem l1Get_c (a : Option Addr) (cap : Nat) (bs : List UInt8) (w : World) (hr : Rd w a cap bs) (hl : bs.length ≤ 7) :
    Calls Tryz.prog 161 #[.slice a bs.length cap] w fun e w' => e = .returned (.int .i64 (getB bs : Nat)) ∧ w' = w := by
  go_enter Tryz.func161, Tryz.ntmps161
  go_wp2
  go_loop [3, 4] (fun q i => ∃ k : Nat, k ≤ bs.length ∧ i = .int .i64 k ∧ q = .int .i64 (getB (bs.take k) : Nat))
    (fun _ i => bs.length - (intOf i).toNat)
  case atStart => exact ⟨0, Nat.zero_le _, rfl, by simp [getB]⟩
  case round =>
    obtain ⟨k, hk, rfl, rfl⟩ := hrel
    by_cases hlt : k < bs.length
    · obtain ⟨b, o, rfl, hc⟩ := hr.2.2.2 (by omega)
      have hcx := hc k hlt
      have HG : Hid (((getB (bs.take (k + 1)) : Nat) : Int) = (getB (bs.take k) : Int) * 256 + at8 bs k) := getB_take bs k hlt
      have hg1 : (getB (bs.take k) : Int) ≤ 281474976710656 := by
        have := Nat.lt_of_lt_of_le (getB_lt (bs.take k)) (Nat.pow_le_pow_right (by decide) (show (bs.take k).length ≤ 6 by have := List.length_take_le k bs; omega))
        omega
      have h0 := at8_lo bs k
      have h1 := at8_hi bs k
      generalize getB (bs.take k) = m at *
      generalize at8 bs k = b8 at *
      clear hc hr
      go_wp2
      go_round
      case rel => exact ⟨k + 1, by omega, by go_num, by rw [HG.out]⟩
      case measure => simp [intOf]; omega
    · have e : k = bs.length := by omega
      subst e
      rw [List.take_length]
      go_wp2
      go_ret
      exact ⟨rfl, rfl⟩
theorem l1Get_n (a : Option Addr) (cap n : Nat) (bs : List UInt8) (w : World) (hr : Rd w a cap bs) (hn : bs.length = n) (hl : n ≤ 7) :
    Calls Tryz.prog 161 #[.slice a n cap] w fun e w' => e = .returned (.int .i64 (getB bs : Nat)) ∧ w' = w := by
  subst hn; exact l1Get_c a cap bs w hr hl
end Go.Proofs.YtiabacnmmojfjaaGreatDoor
/- The contracts of WordBytes and BytesWord and of what they call, in the specification and in the program: both answer the same, at every argument. -/
namespace Go.Proofs.YtiabacnmmojfjaaGreatDoor
open Go.ChangeShapes Go.WideShapes Go.ChangeAt Go.RowKit
set_option maxHeartbeats 1000000 in
theorem l1Put_c (v n : Nat) (w : World) (hv : v < 4611686018427387904) (hn : n ≤ 1048576) :
    Calls Tryz.prog 122 #[.int .i64 v, .int .i64 n] w fun e w' => ∃ u, e = .returned u ∧ Own w' w.heap.size u (putB v n) ∧ Below w.heap.size w w' := by
  obtain ⟨i0, hi, hz0, hz1, hz2⟩ := info_parts info8
  have hm : n ≤ maxLen := by unfold maxLen; omega
  go_enter Tryz.func122, Tryz.ntmps122
  go_wp2_with (first
    | (at_make; refine wpList_make_full _ rfl (.tmp 7) (.tmp 7) 22 rfl w.heap.size 5 i0 (.int .u8 0) 1 Tryz.underlying22 hi hz0 hz1 .i64 .i64 _ _ n rfl rfl rfl rfl (by rw [hz2]; omega) hm (Nat.le_refl _) ?_; intro w1 hown hgrow)
    | go_in)
  rw [replicate_made, ← tailed_zero v n] at hown
  have hb1 : Below w.heap.size w w1 := (Below.refl _ _).grown hgrow (Nat.le_refl _) (fun k hk => by simp at hk)
  clear hgrow hz0 hz1 hz2 hi
  go_loopw [0, 6] (fun q i wr => ∃ k : Nat, k ≤ n ∧ i = .int .i64 ((n : Int) - 1 - k) ∧ q = .int .i64 ((v / 256 ^ k : Nat) : Int) ∧ wr.ownsRow w.heap.size 5 1 (.slice (some ⟨w.heap.size, 0, none⟩) n n) n (tailed v n k) ∧ Below w.heap.size w wr)
    (fun _ i _ => (intOf i + 1).toNat)
  case atStart => exact ⟨0, Nat.zero_le _, by simp, by simp, hown, hb1⟩
  case round =>
    obtain ⟨k, hk, rfl, rfl, hown, hbel⟩ := hrel
    by_cases hlt : k < n
    · have hcy : wr.cell? ⟨w.heap.size, n - 1 - k, none⟩ = some (.int .u8 0) := by rw [World.ownsRow.cellAt hown (n - 1 - k) (by omega), tailed_at v n k hlt]
      have hfy : wr.frozen? ⟨w.heap.size, n - 1 - k, none⟩ = false := World.ownsRow.frozenAt hown _
      have hvk : v / 256 ^ k ≤ v := Nat.div_le_self _ _
      have HV : Hid (v / 256 ^ (k + 1) = v / 256 ^ k / 256) := by show _ = _; rw [Nat.pow_succ, Nat.div_div_eq_div_mul]
      have R := World.ownsRow.stored hown (n - 1 - k) (.int .u8 ((v / 256 ^ k % 256 : Nat) : Int))
      rw [tailed_set v n k hlt] at R
      generalize v / 256 ^ k = q at *
      rw [show ((q % 256 : Nat) : Int) = (q : Int) % 256 by omega] at R
      have hix : ((n : Int) - 1 - k).toNat = n - 1 - k := by omega
      have hge : (0 : Int) ≤ (n : Int) - 1 - k := by omega
      have hlt2 : (n : Int) - 1 - k < n := by omega
      have hq1 : (q : Int) ≤ 4611686018427387904 := by omega
      have RB : Below w.heap.size w (wr.setCell ⟨w.heap.size, n - 1 - k, none⟩ (.int .u8 ((q : Int) % 256))) := hbel.setCell (Nat.le_refl _) _
      clear hown hvk hv
      go_wp2
      go_roundw
      case rel => exact ⟨k + 1, by omega, by go_num, by rw [HV.out]; go_num, R.1, RB⟩
      case measure => simp [intOf]; omega
    · have e : k = n := by omega
      subst e
      rw [tailed_all] at hown
      go_wp2
      go_ret
      refine ⟨_, rfl, ?_, hbel⟩
      unfold Own
      rw [putB_len]
      exact hown
theorem l1Put_i (v n : Int) (w : World) (h0 : 0 ≤ v) (hv : v < 4611686018427387904) (h1 : 0 ≤ n) (hn : n ≤ 1048576) :
    Calls Tryz.prog 122 #[.int .i64 v, .int .i64 n] w fun e w' => ∃ u, e = .returned u ∧ Own w' w.heap.size u (putB v.toNat n.toNat) ∧ Below w.heap.size w w' := by
  obtain ⟨v, rfl⟩ := Int.eq_ofNat_of_zero_le h0
  obtain ⟨n, rfl⟩ := Int.eq_ofNat_of_zero_le h1
  rw [Int.toNat_natCast, Int.toNat_natCast]
  exact l1Put_c v n w (by omega) (by omega)
theorem Own_nil (w : World) (B : Nat) : Own w B (.slice none 0 0) [] := World.ownsRow_nil _ _ _ _
end Go.Proofs.YtiabacnmmojfjaaGreatDoor
/- The contracts of the laws' helpers on BytesResult: eqBytesResult answers true at equal answers; markBytesResult lays marks into the answer's own row; heldBytesResult finds them. For at most 1048576 bytes. -/
namespace Go.Proofs.YtiabacnmmojfjaaGreatDoor
open Go.ChangeShapes Go.WideShapes Go.ChangeAt Go.RowKit
end Go.Proofs.YtiabacnmmojfjaaGreatDoor
/- The contracts of chapter 8's functions in the specification, at every argument: code and number, or bytes. -/
namespace Go.Proofs.YtiabacnmmojfjaaGreatDoor
open Go.ChangeShapes Go.WideShapes Go.ChangeAt Go.RowKit
def poC (b e : Int) : Int := if inB b 1 65520 && inB e 0 65521 then 0 else 3
def poV (b e : Int) : Int := if poC b e = 0 then (powN b.toNat e.toNat : Nat) else 0
def shC (s : Int) : Int := if inB s 1 65519 then 0 else 3
def shV (s : Int) : Int := if shC s = 0 then (powN 17 s.toNat : Nat) else 0
def sdC (s b : Int) : Int := if inB s 1 65519 && inB b 1 65520 then 0 else 3
def sdV (s b : Int) : Int := if sdC s b = 0 then (powN b.toNat s.toNat : Nat) else 0
def shbC (v : Int) : Int := if inB v 1 65520 then 0 else 3
def shbL (v : Int) : List UInt8 := if shbC v = 0 then putB v.toNat 2 else []
def bsC (d : List UInt8) : Int := if d.length = 2 then (if inB (getB d : Nat) 1 65520 then 0 else 3) else 5
def bsV (d : List UInt8) : Int := if bsC d = 0 then (getB d : Nat) else 0
theorem nat_of_in {v lo hi : Int} (h : inB v lo hi = true) (hl : 0 ≤ lo) : ∃ n : Nat, v = n ∧ lo ≤ n ∧ (n : Int) ≤ hi := by
  have h2 : lo ≤ v ∧ v ≤ hi := by simpa [inB] using h
  exact ⟨v.toNat, by omega, by omega, by omega⟩
theorem l8Element_c (v : Int) (w : World) : Calls Tryz.prog 199 #[.int .i64 v] w fun e w' => e = .returned (.bool (inB v 1 65520)) ∧ w' = w := by
  go_enter Tryz.func199, Tryz.ntmps199
  go_wp2_with fail
  refine (l1In_c v 1 65520 _).mono ?_
  rintro e w1 ⟨rfl, rfl⟩
  go_wp2
  go_ret
  exact ⟨rfl, rfl⟩
theorem l8Secret_c (v : Int) (w : World) : Calls Tryz.prog 136 #[.int .i64 v] w fun e w' => e = .returned (.bool (inB v 1 65519)) ∧ w' = w := by
  go_enter Tryz.func136, Tryz.ntmps136
  go_wp2_with fail
  refine (l1In_c v 1 65519 _).mono ?_
  rintro e w1 ⟨rfl, rfl⟩
  go_wp2
  go_ret
  exact ⟨rfl, rfl⟩
set_option maxRecDepth 4000 in
set_option maxHeartbeats 1000000 in
theorem l8Power_c (b e : Nat) (w : World) (hb : b ≤ 65520) (he : e ≤ 65521) :
    Calls Tryz.prog 123 #[.int .i64 (b : Int), .int .i64 (e : Int)] w fun x w' => x = .returned (.int .i64 ((powN b e : Nat) : Int)) ∧ w' = w := by
  obtain ⟨R, HR⟩ : ∃ R, Hid (R = powN b e) := ⟨_, rfl⟩
  rw [← HR.out]
  go_enter Tryz.func123, Tryz.ntmps123
  go_wp2
  have HI : Hid (1 * b ^ e % 65521 = R) := by show _ = _; rw [HR.out, Nat.one_mul]; rfl
  go_loop [0, 1, 5] (fun x y z => ∃ b' e' o : Nat, x = .int .i64 b' ∧ y = .int .i64 e' ∧ z = .int .i64 o ∧ b' ≤ 65520 ∧ e' ≤ 65521 ∧ o ≤ 65520 ∧ o * b' ^ e' % 65521 = R)
    (fun _ y _ => (intOf y).toNat)
  case atStart => exact ⟨b, e, 1, rfl, rfl, rfl, hb, he, by decide, HI.out⟩
  case round =>
    obtain ⟨x, y, o, rfl, rfl, rfl, hx, hy, ho, hinv⟩ := hrel
    have HV : Hid (o * x ^ y % 65521 = R) := hinv
    clear hinv hb he HI HR
    have hxx : x * x ≤ 65520 * 65520 := Nat.mul_le_mul hx hx
    have hox : o * x ≤ 65520 * 65520 := Nat.mul_le_mul ho hx
    have exx : ((x * x : Nat) : Int) = (x : Int) * (x : Int) := Int.natCast_mul x x
    have eox : ((o * x : Nat) : Int) = (o : Int) * (x : Int) := Int.natCast_mul o x
    have hxxI : (x : Int) * (x : Int) ≤ 4292870400 := by rw [← exx]; omega
    have hoxI : (o : Int) * (x : Int) ≤ 4292870400 := by rw [← eox]; omega
    have hxx0 : 0 ≤ (x : Int) * (x : Int) := by rw [← exx]; omega
    have hox0 : 0 ≤ (o : Int) * (x : Int) := by rw [← eox]; omega
    have E1 : Hid ((x : Int) * (x : Int) % 65521 = ((x * x % 65521 : Nat) : Int)) := by show _ = _; rw [Int.natCast_emod, exx]; rfl
    have E2 : Hid ((o : Int) * (x : Int) % 65521 = ((o * x % 65521 : Nat) : Int)) := by show _ = _; rw [Int.natCast_emod, eox]; rfl
    clear hxx hox exx eox
    by_cases h0 : 0 < y
    · have h0I : (0 : Int) < (y : Int) := by omega
      by_cases h1 : y % 2 = 1
      · have h1I : ((y : Int) % 2 == 1) = true := by rw [beq_iff_eq]; omega
        have HS : Hid ((o * x % 65521) * (x * x % 65521) ^ (y / 2) % 65521 = R) := by show _ = _; rw [pow_odd o x y h1]; exact HV.out
        go_wp2
        exact ⟨⟨x * x % 65521, y / 2, o * x % 65521, by rw [E1.out], by rw [Int.natCast_ediv]; rfl, by rw [E2.out], by have := Nat.mod_lt (x * x) (show 0 < 65521 by decide); omega, by omega, by have := Nat.mod_lt (o * x) (show 0 < 65521 by decide); omega, HS.out⟩, by simp [intOf]; omega⟩
      · have h1I : ((y : Int) % 2 == 1) = false := by rw [beq_eq_false_iff_ne]; omega
        have HS : Hid (o * (x * x % 65521) ^ (y / 2) % 65521 = R) := by show _ = _; rw [pow_even o x y (by omega)]; exact HV.out
        go_wp2
        exact ⟨⟨x * x % 65521, y / 2, o, by rw [E1.out], by rw [Int.natCast_ediv]; rfl, rfl, by have := Nat.mod_lt (x * x) (show 0 < 65521 by decide); omega, by omega, ho, HS.out⟩, by simp [intOf]; omega⟩
    · have e0 : y = 0 := by omega
      subst e0
      go_wp2
      go_ret
      have hR : R = o := by rw [← HV.out, Nat.pow_zero, Nat.mul_one, Nat.mod_eq_of_lt (by omega)]
      exact ⟨by rw [hR]; rfl, rfl⟩
end Go.Proofs.YtiabacnmmojfjaaGreatDoor
/- The contracts of SameBytes and of what it calls, in the specification and in the program: both answer whether the two slices hold the same bytes. -/
namespace Go.Proofs.YtiabacnmmojfjaaGreatDoor
open Go.ChangeShapes Go.WideShapes Go.ChangeAt Go.RowKit
end Go.Proofs.YtiabacnmmojfjaaGreatDoor
/- The contracts of the draws: they answer numbers within their bounds, and move the source's count on. -/
namespace Go.Proofs.YtiabacnmmojfjaaGreatDoor
open Go.ChangeShapes Go.WideShapes Go.ChangeAt Go.RowKit
theorem Src.other {w w' : World} {b : Nat} {p : Option Addr} {q : Nat} {cs : List UInt8} {n : Int} {row : Option Nat} (h : Src w b p q cs n) (hg : w.grownBy w' row) (hne : ∀ k, row = some k → b < k) : Src w' b p q cs n :=
  ⟨h.loc.other hg (fun e => by have := hne b e; omega), h.rd.other hg (fun hp y hy e => by have h1 := h.apart hp y hy; have h2 := hne _ e; omega), h.apart⟩
end Go.Proofs.YtiabacnmmojfjaaGreatDoor
/- The contracts of HexOf in the specification, and of what it calls. -/
namespace Go.Proofs.YtiabacnmmojfjaaGreatDoor
open Go.ChangeShapes Go.WideShapes Go.ChangeAt Go.RowKit
end Go.Proofs.YtiabacnmmojfjaaGreatDoor
/- The contract of laws.lwSame: whether the two slices hold the same bytes. -/
namespace Go.Proofs.YtiabacnmmojfjaaGreatDoor
open Go.ChangeShapes Go.WideShapes Go.ChangeAt Go.RowKit
end Go.Proofs.YtiabacnmmojfjaaGreatDoor
/- The contracts of a round: spec.l2Round and impl.mixed (and what it calls) both answer roundN of their arguments; what was there stays. For words below 2^32. -/
namespace Go.Proofs.YtiabacnmmojfjaaGreatDoor
open Go.ChangeShapes Go.WideShapes Go.ChangeAt Go.RowKit
theorem i64_xor32 {a b : Nat} (ha : a < 4294967296) (hb : b < 4294967296) : bits .xor .i64 (a : Int) (b : Int) = ((a ^^^ b : Nat) : Int) := i64_xor_nat a b (by omega) (by omega)
theorem i64_and32 {a b : Nat} (ha : a < 4294967296) (hb : b < 4294967296) : bits .and .i64 (a : Int) (b : Int) = ((a &&& b : Nat) : Int) := i64_and_nat a b (by omega) (by omega)
theorem l1Turn_l (v n : Nat) (m : Int) (hm : m = n) (w : World) (h2 : v < 4294967296) (h3 : 1 ≤ n) (h4 : n ≤ 31) :
    Calls Tryz.prog 201 #[.int .i64 v, .int .i64 m] w fun e w' => e = .returned (.int .i64 (rotN v n : Nat)) ∧ w' = w := by
  subst hm; exact l1Turn_c v n w h2 h3 h4
set_option maxHeartbeats 1000000 in
theorem l2Round_c (a b c d e f g h word key : Nat) (w : World) (ha : a < 4294967296) (hb : b < 4294967296) (hc : c < 4294967296) (hd : d < 4294967296) (he : e < 4294967296) (hf : f < 4294967296) (hg : g < 4294967296) (hh : h < 4294967296) (hw : word < 4294967296) (hk : key < 4294967296) :
    Calls Tryz.prog 171 #[.agg #[.int .i64 a, .int .i64 b, .int .i64 c, .int .i64 d, .int .i64 e, .int .i64 f, .int .i64 g, .int .i64 h], .int .i64 word, .int .i64 key] w fun r w' => r = .returned (.agg (roundN ⟨a, b, c, d, e, f, g, h⟩ word key).i64) ∧ Below w.heap.size w w' := by
  have x1 := i64_xor32 (rotN_lt e 6 he (by decide)) (rotN_lt e 11 he (by decide))
  have x2 : bits .xor .i64 _ _ = ((rot3 e 6 11 25 : Nat) : Int) := i64_xor32 (xor_lt32 (rotN_lt e 6 he (by decide)) (rotN_lt e 11 he (by decide))) (rotN_lt e 25 he (by decide))
  have y1 := i64_xor32 (rotN_lt a 2 ha (by decide)) (rotN_lt a 13 ha (by decide))
  have y2 : bits .xor .i64 _ _ = ((rot3 a 2 13 22 : Nat) : Int) := i64_xor32 (xor_lt32 (rotN_lt a 2 ha (by decide)) (rotN_lt a 13 ha (by decide))) (rotN_lt a 22 ha (by decide))
  have z1 := i64_and32 he hf
  have z2 : bits .and .i64 (4294967295 - (e : Int)) (g : Int) = (((4294967295 - e) &&& g : Nat) : Int) := by
    rw [show 4294967295 - (e : Int) = ((4294967295 - e : Nat) : Int) by omega]; exact i64_and32 (by omega) hg
  have z3 : bits .xor .i64 ((e &&& f : Nat) : Int) (((4294967295 - e) &&& g : Nat) : Int) = ((chN e f g : Nat) : Int) := i64_xor32 (and_lt32 he) (and_lt32 (by omega))
  have m1 := i64_and32 ha hb
  have m2 := i64_and32 ha hc
  have m3 := i64_and32 hb hc
  have m4 := i64_xor32 (and_lt32 (b := b) ha) (and_lt32 (b := c) ha)
  have m5 : bits .xor .i64 (((a &&& b) ^^^ (a &&& c) : Nat) : Int) ((b &&& c : Nat) : Int) = ((majN a b c : Nat) : Int) := i64_xor32 (xor_lt32 (and_lt32 ha) (and_lt32 ha)) (and_lt32 hb)
  have b1 : ((rot3 e 6 11 25 : Nat) : Int) ≤ 4294967295 := by have := rot3_lt (i := 6) (j := 11) (k := 25) he (by decide) (by decide) (by decide); omega
  have b2 : ((rot3 a 2 13 22 : Nat) : Int) ≤ 4294967295 := by have := rot3_lt (i := 2) (j := 13) (k := 22) ha (by decide) (by decide) (by decide); omega
  have b3 : ((chN e f g : Nat) : Int) ≤ 4294967295 := by have := chN_lt (f := f) (g := g) he; omega
  have b4 : ((majN a b c : Nat) : Int) ≤ 4294967295 := by have := majN_lt (c := c) ha hb; omega
  go_enter Tryz.func171, Tryz.ntmps171
  go_wp2_with fail
  refine (l1Turn_l e 6 _ rfl _ he (by decide) (by decide)).mono ?_
  rintro r w' ⟨rfl, rfl⟩
  go_wp2_with fail
  refine (l1Turn_l e 11 _ rfl _ he (by decide) (by decide)).mono ?_
  rintro r w' ⟨rfl, rfl⟩
  go_wp2_with fail
  refine (l1Turn_l e 25 _ rfl _ he (by decide) (by decide)).mono ?_
  rintro r w' ⟨rfl, rfl⟩
  go_wp2_with fail
  refine (l1Turn_l a 2 _ rfl _ ha (by decide) (by decide)).mono ?_
  rintro r w' ⟨rfl, rfl⟩
  go_wp2_with fail
  refine (l1Turn_l a 13 _ rfl _ ha (by decide) (by decide)).mono ?_
  rintro r w' ⟨rfl, rfl⟩
  go_wp2_with fail
  refine (l1Turn_l a 22 _ rfl _ ha (by decide) (by decide)).mono ?_
  rintro r w' ⟨rfl, rfl⟩
  go_wp2
  have E1 : (((h : Int) + (rot3 e 6 11 25 : Nat) + (chN e f g : Nat) + key + word + ((rot3 a 2 13 22 : Nat) + (majN a b c : Nat))) % 4294967296) = (((t1N ⟨a, b, c, d, e, f, g, h⟩ word key + t2N ⟨a, b, c, d, e, f, g, h⟩) % 4294967296 : Nat) : Int) := by simp only [t1N, t2N]; omega
  have E2 : (((d : Int) + (h + (rot3 e 6 11 25 : Nat) + (chN e f g : Nat) + key + word)) % 4294967296) = (((d + t1N ⟨a, b, c, d, e, f, g, h⟩ word key) % 4294967296 : Nat) : Int) := by simp only [t1N]; omega
  rw [E1, E2]
  exact bodyPost_ret (v := .agg (roundN ⟨a, b, c, d, e, f, g, h⟩ word key).i64) (by simp [results, Tryz.results171, go_sem]; rfl) rfl ⟨rfl, Below.mk (alloc_below _ _) _⟩
set_option maxHeartbeats 1000000 in
theorem turnedThrice_c (x i j k : Nat) (w : World) (hx : x < 4294967296) (hi : i ≤ 31) (hj : j ≤ 31) (hk : k ≤ 31) :
    Calls Tryz.prog 225 #[.int .u32 x, .int .i64 i, .int .i64 j, .int .i64 k] w fun e w' => e = .returned (.int .u32 (rot3 x i j k : Nat)) ∧ w' = w := by
  have x1 := u32_xor_nat _ _ (rotN_lt x i hx (by omega)) (rotN_lt x j hx (by omega))
  have x2 : bits .xor .u32 _ _ = ((rot3 x i j k : Nat) : Int) := u32_xor_nat _ _ (xor_lt32 (rotN_lt x i hx (by omega)) (rotN_lt x j hx (by omega))) (rotN_lt x k hx (by omega))
  go_enter Tryz.func225, Tryz.ntmps225
  go_wp2_with fail
  refine (turnRight_c x i _ hx hi).mono ?_
  rintro r w' ⟨rfl, rfl⟩
  go_wp2_with fail
  refine (turnRight_c x j _ hx hj).mono ?_
  rintro r w' ⟨rfl, rfl⟩
  go_wp2_with fail
  refine (turnRight_c x k _ hx hk).mono ?_
  rintro r w' ⟨rfl, rfl⟩
  go_wp2
  go_ret
  exact ⟨rfl, rfl⟩
theorem turnedThrice_l (x i j k : Nat) (m n o : Int) (hm : m = i) (hn : n = j) (ho : o = k) (w : World) (hx : x < 4294967296) (hi : i ≤ 31) (hj : j ≤ 31) (hk : k ≤ 31) :
    Calls Tryz.prog 225 #[.int .u32 x, .int .i64 m, .int .i64 n, .int .i64 o] w fun e w' => e = .returned (.int .u32 (rot3 x i j k : Nat)) ∧ w' = w := by
  subst hm hn ho; exact turnedThrice_c x i j k w hx hi hj hk
set_option maxHeartbeats 1000000 in
theorem turnedTwice_c (x i j k : Nat) (w : World) (hx : x < 4294967296) (hi : i ≤ 31) (hj : j ≤ 31) (hk : k ≤ 31) :
    Calls Tryz.prog 224 #[.int .u32 x, .int .i64 i, .int .i64 j, .int .i64 k] w fun e w' => e = .returned (.int .u32 (sh2 x i j k : Nat)) ∧ ∃ n, w' = w.drewN n := by
  have x1 := u32_xor_nat _ _ (rotN_lt x i hx (by omega)) (rotN_lt x j hx (by omega))
  have x2 : bits .xor .u32 ((rotN x i ^^^ rotN x j : Nat) : Int) ((x : Int) / 2 ^ k) = ((sh2 x i j k : Nat) : Int) := by
    rw [show ((x : Int) / 2 ^ k) = ((x / 2 ^ k : Nat) : Int) by push_cast; rfl]
    exact u32_xor_nat _ _ (xor_lt32 (rotN_lt x i hx (by omega)) (rotN_lt x j hx (by omega))) (Nat.lt_of_le_of_lt (Nat.div_le_self x (2 ^ k)) hx)
  go_enter Tryz.func224, Tryz.ntmps224
  go_wp2
  go_quiet ((first | (go_at_call_of 231 (Value.int .i64 (i : Int)); exact Calls.quiet_of_same (turnRight_c x i _ hx hi)) | (go_at_call_of 231 (Value.int .i64 (j : Int)); exact Calls.quiet_of_same (turnRight_c x j _ hx hj))))
  go_wp2
  go_ret
  exact ⟨rfl, _, rfl⟩
theorem not32 (e : Nat) (h : e < 4294967296) : bits .xor .u32 IntKind.u32.max (e : Int) = ((4294967295 - e : Nat) : Int) := by
  have h1 : IntKind.u32.max = ((4294967295 : Nat) : Int) := by decide
  rw [h1, u32_xor_nat _ _ (by decide) h]
  congr 1
  have h2 : (BitVec.allOnes 32 ^^^ BitVec.ofNat 32 e).toNat = 4294967295 ^^^ e := by
    rw [BitVec.toNat_xor, BitVec.toNat_allOnes, BitVec.toNat_ofNat, Nat.mod_eq_of_lt (by omega)]
  rw [← h2, BitVec.allOnes_xor, BitVec.toNat_not, BitVec.toNat_ofNat, Nat.mod_eq_of_lt (by omega)]
set_option maxHeartbeats 1000000 in
theorem mixed_c (a b c d e f g q word key : Nat) (w : World) (ha : a < 4294967296) (hb : b < 4294967296) (hc : c < 4294967296) (he : e < 4294967296) (hf : f < 4294967296) (hg : g < 4294967296) :
    Calls Tryz.prog 217 #[.agg #[.int .u32 a, .int .u32 b, .int .u32 c, .int .u32 d, .int .u32 e, .int .u32 f, .int .u32 g, .int .u32 q], .int .u32 word, .int .u32 key] w fun r w' => r = .returned (.agg (roundN ⟨a, b, c, d, e, f, g, q⟩ word key).u32) ∧ Below w.heap.size w w' := by
  have z1 := u32_and_nat _ _ he hf
  have z2 := u32_and_nat (4294967295 - e) g (by omega) hg
  have z3 : bits .xor .u32 ((e &&& f : Nat) : Int) (((4294967295 - e) &&& g : Nat) : Int) = ((chN e f g : Nat) : Int) := u32_xor_nat _ _ (and_lt32 he) (and_lt32 (by omega))
  have m1 := u32_and_nat _ _ ha hb
  have m2 := u32_and_nat _ _ ha hc
  have m3 := u32_and_nat _ _ hb hc
  have m4 := u32_xor_nat _ _ (and_lt32 (b := b) ha) (and_lt32 (b := c) ha)
  have m5 : bits .xor .u32 (((a &&& b) ^^^ (a &&& c) : Nat) : Int) ((b &&& c : Nat) : Int) = ((majN a b c : Nat) : Int) := u32_xor_nat _ _ (xor_lt32 (and_lt32 ha) (and_lt32 ha)) (and_lt32 hb)
  have n1 := not32 e he
  go_enter Tryz.func217, Tryz.ntmps217
  go_wp2
  go_quiet (fail)
  go_wp2_with fail
  refine wp_region_again (by kernel_rfl) (by kernel_rfl) ?_
  repeat (go_big_quiet_step ((go_at_call 225; exact Calls.quiet_of_same (turnedThrice_l e 6 11 25 _ _ _ rfl rfl rfl _ he (by decide) (by decide) (by decide)))))
  refine wpQuiet_nil ?_
  rintro _ ⟨nr, rfl⟩
  go_wp2_with fail
  refine (turnedThrice_l a 2 13 22 _ _ _ rfl rfl rfl _ ha (by decide) (by decide) (by decide)).mono ?_
  rintro r w' ⟨rfl, rfl⟩
  go_wp2
  have E1 : (((q : Int) + (rot3 e 6 11 25 : Nat) + (chN e f g : Nat) + key + word + ((rot3 a 2 13 22 : Nat) + (majN a b c : Nat))) % 4294967296) = (((t1N ⟨a, b, c, d, e, f, g, q⟩ word key + t2N ⟨a, b, c, d, e, f, g, q⟩) % 4294967296 : Nat) : Int) := by simp only [t1N, t2N]; omega
  have E2 : (((d : Int) + (q + (rot3 e 6 11 25 : Nat) + (chN e f g : Nat) + key + word)) % 4294967296) = (((d + t1N ⟨a, b, c, d, e, f, g, q⟩ word key) % 4294967296 : Nat) : Int) := by simp only [t1N]; omega
  rw [E1, E2]
  exact bodyPost_ret (v := .agg (roundN ⟨a, b, c, d, e, f, g, q⟩ word key).u32) (by simp [results, Tryz.results217, go_sem]; rfl) rfl ⟨rfl, ((((((((below_drewN (Below.mk (alloc_below _ _) _) _).setCell (Nat.le_succ _) _).setCell (Nat.le_succ _) _).setCell (Nat.le_succ _) _).setCell (Nat.le_succ _) _).setCell (Nat.le_succ _) _).setCell (Nat.le_succ _) _).setCell (Nat.le_succ _) _).setCell (Nat.le_succ _) _⟩
end Go.Proofs.YtiabacnmmojfjaaGreatDoor
