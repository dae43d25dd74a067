/- The contracts of the laws' own helpers on whole numbers: toInt64S copies what it reads into a row of its own; eqInt64S answers true at equal numbers; markInt64S, heldInt64S; the same on IntsResult. For at most 1048576 numbers. -/
import Derived.Test.YtdbpnibcblelbabDoorCopy
import Derived.Test.YtdbpnibcblelbabDoorInts
import Derived.Test.YtdbpnibcblelbabDoorPut
import Derived.Test.YtdbpnibcblelbabDoorJoint3
namespace Go.Proofs.YtdbpnibcblelbabDoor
open Go.ChangeShapes Go.WideShapes Go.ChangeAt Go.RowKit
theorem info64 : (Tryd.prog.info? 2).map (fun i => (i.zero, i.size, i.bytes)) = some (some (.int .i64 0), 1, 8) := by kernel_rfl





end Go.Proofs.YtdbpnibcblelbabDoor

/- The contracts of BytesWord and of what it calls, in the specification and in the program: both answer gwCode and gwVal, at every argument. -/
namespace Go.Proofs.YtdbpnibcblelbabDoor
open Go.ChangeShapes Go.WideShapes Go.ChangeAt Go.RowKit

def gwCode (bs : List UInt8) : Int := if bs.length = 4 then 0 else 1
def gwVal (bs : List UInt8) : Int := if bs.length = 4 then (getB bs : Nat) else 0

set_option maxHeartbeats 1000000 in
theorem l1Get_c (a : Option Addr) (cap : Nat) (bs : List UInt8) (w : World) (hr : Rd w a cap bs) (hl : bs.length ≤ 7) :
    Calls Tryd.prog 54 #[.slice a bs.length cap] w fun e w' => e = .returned (.int .i64 (getB bs : Nat)) ∧ w' = w := by
  go_enter Tryd.func54, Tryd.ntmps54
  go_wp2
  go_loop [3, 4] (fun q i => ∃ k : Nat, k ≤ bs.length ∧ i = .int .i64 k ∧ q = .int .i64 (getB (bs.take k) : Nat))
    (fun _ i => bs.length - (intOf i).toNat)
  case atStart => exact ⟨0, Nat.zero_le _, rfl, by simp [getB]⟩
  case round =>
    obtain ⟨k, hk, rfl, rfl⟩ := hrel
    by_cases hlt : k < bs.length
    · obtain ⟨b, o, rfl, hc⟩ := hr.2.2.2 (by omega)
      have hcx := hc k hlt
      have HG : Hid (((getB (bs.take (k + 1)) : Nat) : Int) = (getB (bs.take k) : Int) * 256 + at8 bs k) := getB_take bs k hlt
      have hg1 : (getB (bs.take k) : Int) ≤ 281474976710656 := by
        have := Nat.lt_of_lt_of_le (getB_lt (bs.take k)) (Nat.pow_le_pow_right (by decide) (show (bs.take k).length ≤ 6 by have := List.length_take_le k bs; omega))
        omega
      have h0 := at8_lo bs k
      have h1 := at8_hi bs k
      generalize getB (bs.take k) = m at *
      generalize at8 bs k = b8 at *
      clear hc hr
      go_wp2
      go_round
      case rel => exact ⟨k + 1, by omega, by go_num, by rw [HG.out]⟩
      case measure => simp [intOf]; omega
    · have e : k = bs.length := by omega
      subst e
      rw [List.take_length]
      go_wp2
      go_ret
      exact ⟨rfl, rfl⟩

theorem l1Get_n (a : Option Addr) (cap n : Nat) (bs : List UInt8) (w : World) (hr : Rd w a cap bs) (hn : bs.length = n) (hl : n ≤ 7) :
    Calls Tryd.prog 54 #[.slice a n cap] w fun e w' => e = .returned (.int .i64 (getB bs : Nat)) ∧ w' = w := by
  subst hn; exact l1Get_c a cap bs w hr hl



end Go.Proofs.YtdbpnibcblelbabDoor

/- The contracts of WordBytes and BytesWord and of what they call, in the specification and in the program: both answer the same, at every argument. -/
namespace Go.Proofs.YtdbpnibcblelbabDoor
open Go.ChangeShapes Go.WideShapes Go.ChangeAt Go.RowKit

set_option maxHeartbeats 1000000 in
theorem l1Put_c (v n : Nat) (w : World) (hv : v < 4611686018427387904) (hn : n ≤ 1048576) :
    Calls Tryd.prog 46 #[.int .i64 v, .int .i64 n] w fun e w' => ∃ u, e = .returned u ∧ Own w' w.heap.size u (putB v n) ∧ Below w.heap.size w w' := by
  obtain ⟨i0, hi, hz0, hz1, hz2⟩ := info_parts info8
  have hm : n ≤ maxLen := by unfold maxLen; omega
  go_enter Tryd.func46, Tryd.ntmps46
  go_wp2_with (first
    | (at_make; refine wpList_make_full _ rfl (.tmp 7) (.tmp 7) 22 rfl w.heap.size 5 i0 (.int .u8 0) 1 Tryd.underlying22 hi hz0 hz1 .i64 .i64 _ _ n rfl rfl rfl rfl (by rw [hz2]; omega) hm (Nat.le_refl _) ?_; intro w1 hown hgrow)
    | go_in)
  rw [replicate_made, ← tailed_zero v n] at hown
  have hb1 : Below w.heap.size w w1 := (Below.refl _ _).grown hgrow (Nat.le_refl _) (fun k hk => by simp at hk)
  clear hgrow hz0 hz1 hz2 hi
  go_loopw [0, 6] (fun q i wr => ∃ k : Nat, k ≤ n ∧ i = .int .i64 ((n : Int) - 1 - k) ∧ q = .int .i64 ((v / 256 ^ k : Nat) : Int) ∧ wr.ownsRow w.heap.size 5 1 (.slice (some ⟨w.heap.size, 0, none⟩) n n) n (tailed v n k) ∧ Below w.heap.size w wr)
    (fun _ i _ => (intOf i + 1).toNat)
  case atStart => exact ⟨0, Nat.zero_le _, by simp, by simp, hown, hb1⟩
  case round =>
    obtain ⟨k, hk, rfl, rfl, hown, hbel⟩ := hrel
    by_cases hlt : k < n
    · have hcy : wr.cell? ⟨w.heap.size, n - 1 - k, none⟩ = some (.int .u8 0) := by rw [World.ownsRow.cellAt hown (n - 1 - k) (by omega), tailed_at v n k hlt]
      have hfy : wr.frozen? ⟨w.heap.size, n - 1 - k, none⟩ = false := World.ownsRow.frozenAt hown _
      have hvk : v / 256 ^ k ≤ v := Nat.div_le_self _ _
      have HV : Hid (v / 256 ^ (k + 1) = v / 256 ^ k / 256) := by show _ = _; rw [Nat.pow_succ, Nat.div_div_eq_div_mul]
      have R := World.ownsRow.stored hown (n - 1 - k) (.int .u8 ((v / 256 ^ k % 256 : Nat) : Int))
      rw [tailed_set v n k hlt] at R
      generalize v / 256 ^ k = q at *
      rw [show ((q % 256 : Nat) : Int) = (q : Int) % 256 by omega] at R
      have hix : ((n : Int) - 1 - k).toNat = n - 1 - k := by omega
      have hge : (0 : Int) ≤ (n : Int) - 1 - k := by omega
      have hlt2 : (n : Int) - 1 - k < n := by omega
      have hq1 : (q : Int) ≤ 4611686018427387904 := by omega
      have RB : Below w.heap.size w (wr.setCell ⟨w.heap.size, n - 1 - k, none⟩ (.int .u8 ((q : Int) % 256))) := hbel.setCell (Nat.le_refl _) _
      clear hown hvk hv
      go_wp2
      go_roundw
      case rel => exact ⟨k + 1, by omega, by go_num, by rw [HV.out]; go_num, R.1, RB⟩
      case measure => simp [intOf]; omega
    · have e : k = n := by omega
      subst e
      rw [tailed_all] at hown
      go_wp2
      go_ret
      refine ⟨_, rfl, ?_, hbel⟩
      unfold Own
      rw [putB_len]
      exact hown

theorem l1Put_i (v n : Int) (w : World) (h0 : 0 ≤ v) (hv : v < 4611686018427387904) (h1 : 0 ≤ n) (hn : n ≤ 1048576) :
    Calls Tryd.prog 46 #[.int .i64 v, .int .i64 n] w fun e w' => ∃ u, e = .returned u ∧ Own w' w.heap.size u (putB v.toNat n.toNat) ∧ Below w.heap.size w w' := by
  obtain ⟨v, rfl⟩ := Int.eq_ofNat_of_zero_le h0
  obtain ⟨n, rfl⟩ := Int.eq_ofNat_of_zero_le h1
  rw [Int.toNat_natCast, Int.toNat_natCast]
  exact l1Put_c v n w (by omega) (by omega)

def wbCode (v : Int) : Int := if inB v 0 4294967295 then 0 else 3
def wbBytes (v : Int) : List UInt8 := if inB v 0 4294967295 then putB v.toNat 4 else []
theorem wbCode_ok {v : Int} (h : inB v 0 4294967295 = true) : wbCode v = 0 := by simp [wbCode, h]
theorem wbBytes_ok {v : Int} (h : inB v 0 4294967295 = true) : wbBytes v = putB v.toNat 4 := by simp [wbBytes, h]
theorem wbCode_no {v : Int} (h : inB v 0 4294967295 = false) : wbCode v = 3 := by simp [wbCode, h]
theorem wbBytes_no {v : Int} (h : inB v 0 4294967295 = false) : wbBytes v = [] := by simp [wbBytes, h]
theorem wbBytes_len (v : Int) : (wbBytes v).length ≤ 4 := by unfold wbBytes; split <;> simp [putB_len]

theorem Own_nil (w : World) (B : Nat) : Own w B (.slice none 0 0) [] := World.ownsRow_nil _ _ _ _



end Go.Proofs.YtdbpnibcblelbabDoor

