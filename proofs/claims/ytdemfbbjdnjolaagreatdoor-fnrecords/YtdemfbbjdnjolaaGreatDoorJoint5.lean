/- The contracts of a round: spec.l2Round and impl.mixed (and what it calls) both answer roundN of their arguments; what was there stays. For words below 2^32. -/
import Derived.Test.YtdemfbbjdnjolaaGreatDoorJoint4
import Derived.Test.YtdemfbbjdnjolaaGreatDoorJoint3
import Derived.Deep.QuietTactic
import Derived.BigQuiet
import Derived.Deep.RegionWith
import Derived.Test.YtdemfbbjdnjolaaGreatDoorRows
import Derived.Test.YtdemfbbjdnjolaaGreatDoorJoint1
import Derived.ProofKit
import Derived.OpenShut
namespace Go.Proofs.YtdemfbbjdnjolaaGreatDoor
open Go.ChangeShapes Go.WideShapes Go.ChangeAt Go.RowKit

theorem i64_xor32 {a b : Nat} (ha : a < 4294967296) (hb : b < 4294967296) : bits .xor .i64 (a : Int) (b : Int) = ((a ^^^ b : Nat) : Int) := i64_xor_nat a b (by omega) (by omega)
theorem i64_and32 {a b : Nat} (ha : a < 4294967296) (hb : b < 4294967296) : bits .and .i64 (a : Int) (b : Int) = ((a &&& b : Nat) : Int) := i64_and_nat a b (by omega) (by omega)

theorem l1Turn_l (v n : Nat) (m : Int) (hm : m = n) (w : World) (h2 : v < 4294967296) (h3 : 1 ≤ n) (h4 : n ≤ 31) :
    Calls Tryz.prog 124 #[.int .i64 v, .int .i64 m] w fun e w' => e = .returned (.int .i64 (rotN v n : Nat)) ∧ w' = w := by
  subst hm; exact l1Turn_c v n w h2 h3 h4
set_option maxHeartbeats 1000000 in
theorem l2Round_c (a b c d e f g h word key : Nat) (w : World) (ha : a < 4294967296) (hb : b < 4294967296) (hc : c < 4294967296) (hd : d < 4294967296) (he : e < 4294967296) (hf : f < 4294967296) (hg : g < 4294967296) (hh : h < 4294967296) (hw : word < 4294967296) (hk : key < 4294967296) :
    Calls Tryz.prog 114 #[.agg #[.int .i64 a, .int .i64 b, .int .i64 c, .int .i64 d, .int .i64 e, .int .i64 f, .int .i64 g, .int .i64 h], .int .i64 word, .int .i64 key] w fun r w' => r = .returned (.agg (roundN ⟨a, b, c, d, e, f, g, h⟩ word key).i64) ∧ Below w.heap.size w w' := by
  have x1 := i64_xor32 (rotN_lt e 6 he (by decide)) (rotN_lt e 11 he (by decide))
  have x2 : bits .xor .i64 _ _ = ((rot3 e 6 11 25 : Nat) : Int) := i64_xor32 (xor_lt32 (rotN_lt e 6 he (by decide)) (rotN_lt e 11 he (by decide))) (rotN_lt e 25 he (by decide))
  have y1 := i64_xor32 (rotN_lt a 2 ha (by decide)) (rotN_lt a 13 ha (by decide))
  have y2 : bits .xor .i64 _ _ = ((rot3 a 2 13 22 : Nat) : Int) := i64_xor32 (xor_lt32 (rotN_lt a 2 ha (by decide)) (rotN_lt a 13 ha (by decide))) (rotN_lt a 22 ha (by decide))
  have z1 := i64_and32 he hf
  have z2 : bits .and .i64 (4294967295 - (e : Int)) (g : Int) = (((4294967295 - e) &&& g : Nat) : Int) := by
    rw [show 4294967295 - (e : Int) = ((4294967295 - e : Nat) : Int) by omega]; exact i64_and32 (by omega) hg
  have z3 : bits .xor .i64 ((e &&& f : Nat) : Int) (((4294967295 - e) &&& g : Nat) : Int) = ((chN e f g : Nat) : Int) := i64_xor32 (and_lt32 he) (and_lt32 (by omega))
  have m1 := i64_and32 ha hb
  have m2 := i64_and32 ha hc
  have m3 := i64_and32 hb hc
  have m4 := i64_xor32 (and_lt32 (b := b) ha) (and_lt32 (b := c) ha)
  have m5 : bits .xor .i64 (((a &&& b) ^^^ (a &&& c) : Nat) : Int) ((b &&& c : Nat) : Int) = ((majN a b c : Nat) : Int) := i64_xor32 (xor_lt32 (and_lt32 ha) (and_lt32 ha)) (and_lt32 hb)
  have b1 : ((rot3 e 6 11 25 : Nat) : Int) ≤ 4294967295 := by have := rot3_lt (i := 6) (j := 11) (k := 25) he (by decide) (by decide) (by decide); omega
  have b2 : ((rot3 a 2 13 22 : Nat) : Int) ≤ 4294967295 := by have := rot3_lt (i := 2) (j := 13) (k := 22) ha (by decide) (by decide) (by decide); omega
  have b3 : ((chN e f g : Nat) : Int) ≤ 4294967295 := by have := chN_lt (f := f) (g := g) he; omega
  have b4 : ((majN a b c : Nat) : Int) ≤ 4294967295 := by have := majN_lt (c := c) ha hb; omega
  go_enter Tryz.func114, Tryz.ntmps114
  go_wp2_with fail
  refine (l1Turn_l e 6 _ rfl _ he (by decide) (by decide)).mono ?_
  rintro r w' ⟨rfl, rfl⟩
  go_wp2_with fail
  refine (l1Turn_l e 11 _ rfl _ he (by decide) (by decide)).mono ?_
  rintro r w' ⟨rfl, rfl⟩
  go_wp2_with fail
  refine (l1Turn_l e 25 _ rfl _ he (by decide) (by decide)).mono ?_
  rintro r w' ⟨rfl, rfl⟩
  go_wp2_with fail
  refine (l1Turn_l a 2 _ rfl _ ha (by decide) (by decide)).mono ?_
  rintro r w' ⟨rfl, rfl⟩
  go_wp2_with fail
  refine (l1Turn_l a 13 _ rfl _ ha (by decide) (by decide)).mono ?_
  rintro r w' ⟨rfl, rfl⟩
  go_wp2_with fail
  refine (l1Turn_l a 22 _ rfl _ ha (by decide) (by decide)).mono ?_
  rintro r w' ⟨rfl, rfl⟩
  go_wp2
  have E1 : (((h : Int) + (rot3 e 6 11 25 : Nat) + (chN e f g : Nat) + key + word + ((rot3 a 2 13 22 : Nat) + (majN a b c : Nat))) % 4294967296) = (((t1N ⟨a, b, c, d, e, f, g, h⟩ word key + t2N ⟨a, b, c, d, e, f, g, h⟩) % 4294967296 : Nat) : Int) := by simp only [t1N, t2N]; omega
  have E2 : (((d : Int) + (h + (rot3 e 6 11 25 : Nat) + (chN e f g : Nat) + key + word)) % 4294967296) = (((d + t1N ⟨a, b, c, d, e, f, g, h⟩ word key) % 4294967296 : Nat) : Int) := by simp only [t1N]; omega
  rw [E1, E2]
  exact bodyPost_ret (v := .agg (roundN ⟨a, b, c, d, e, f, g, h⟩ word key).i64) (by simp [results, Tryz.results114, go_sem]; rfl) rfl ⟨rfl, Below.mk (alloc_below _ _) _⟩

theorem turnRight_l (v n : Nat) (m : Int) (hm : m = n) (w : World) (h2 : v < 4294967296) (h4 : n ≤ 31) :
    Calls Tryz.prog 125 #[.int .u32 v, .int .i64 m] w fun e w' => e = .returned (.int .u32 (rotN v n : Nat)) ∧ w' = w := by
  subst hm; exact turnRight_c v n w h2 h4
set_option maxHeartbeats 1000000 in
theorem turnedThrice_c (x i j k : Nat) (w : World) (hx : x < 4294967296) (hi : i ≤ 31) (hj : j ≤ 31) (hk : k ≤ 31) :
    Calls Tryz.prog 130 #[.int .u32 x, .int .i64 i, .int .i64 j, .int .i64 k] w fun e w' => e = .returned (.int .u32 (rot3 x i j k : Nat)) ∧ w' = w := by
  have x1 := u32_xor_nat _ _ (rotN_lt x i hx (by omega)) (rotN_lt x j hx (by omega))
  have x2 : bits .xor .u32 _ _ = ((rot3 x i j k : Nat) : Int) := u32_xor_nat _ _ (xor_lt32 (rotN_lt x i hx (by omega)) (rotN_lt x j hx (by omega))) (rotN_lt x k hx (by omega))
  go_enter Tryz.func130, Tryz.ntmps130
  go_wp2_with fail
  refine (turnRight_c x i _ hx hi).mono ?_
  rintro r w' ⟨rfl, rfl⟩
  go_wp2_with fail
  refine (turnRight_c x j _ hx hj).mono ?_
  rintro r w' ⟨rfl, rfl⟩
  go_wp2_with fail
  refine (turnRight_c x k _ hx hk).mono ?_
  rintro r w' ⟨rfl, rfl⟩
  go_wp2
  go_ret
  exact ⟨rfl, rfl⟩
theorem turnedThrice_l (x i j k : Nat) (m n o : Int) (hm : m = i) (hn : n = j) (ho : o = k) (w : World) (hx : x < 4294967296) (hi : i ≤ 31) (hj : j ≤ 31) (hk : k ≤ 31) :
    Calls Tryz.prog 130 #[.int .u32 x, .int .i64 m, .int .i64 n, .int .i64 o] w fun e w' => e = .returned (.int .u32 (rot3 x i j k : Nat)) ∧ w' = w := by
  subst hm hn ho; exact turnedThrice_c x i j k w hx hi hj hk

set_option maxHeartbeats 1000000 in
theorem turnedTwice_c (x i j k : Nat) (w : World) (hx : x < 4294967296) (hi : i ≤ 31) (hj : j ≤ 31) (hk : k ≤ 31) :
    Calls Tryz.prog 129 #[.int .u32 x, .int .i64 i, .int .i64 j, .int .i64 k] w fun e w' => e = .returned (.int .u32 (sh2 x i j k : Nat)) ∧ ∃ n, w' = w.drewN n := by
  have x1 := u32_xor_nat _ _ (rotN_lt x i hx (by omega)) (rotN_lt x j hx (by omega))
  have x2 : bits .xor .u32 ((rotN x i ^^^ rotN x j : Nat) : Int) ((x : Int) / 2 ^ k) = ((sh2 x i j k : Nat) : Int) := by
    rw [show ((x : Int) / 2 ^ k) = ((x / 2 ^ k : Nat) : Int) by push_cast; rfl]
    exact u32_xor_nat _ _ (xor_lt32 (rotN_lt x i hx (by omega)) (rotN_lt x j hx (by omega))) (Nat.lt_of_le_of_lt (Nat.div_le_self x (2 ^ k)) hx)
  go_enter Tryz.func129, Tryz.ntmps129
  go_wp2
  go_quiet ((first | (go_at_call_of 125 (Value.int .i64 (i : Int)); exact Calls.quiet_of_same (turnRight_c x i _ hx hi)) | (go_at_call_of 125 (Value.int .i64 (j : Int)); exact Calls.quiet_of_same (turnRight_c x j _ hx hj))))
  go_wp2
  go_ret
  exact ⟨rfl, _, rfl⟩

theorem not32 (e : Nat) (h : e < 4294967296) : bits .xor .u32 IntKind.u32.max (e : Int) = ((4294967295 - e : Nat) : Int) := by
  have h1 : IntKind.u32.max = ((4294967295 : Nat) : Int) := by decide
  rw [h1, u32_xor_nat _ _ (by decide) h]
  congr 1
  have h2 : (BitVec.allOnes 32 ^^^ BitVec.ofNat 32 e).toNat = 4294967295 ^^^ e := by
    rw [BitVec.toNat_xor, BitVec.toNat_allOnes, BitVec.toNat_ofNat, Nat.mod_eq_of_lt (by omega)]
  rw [← h2, BitVec.allOnes_xor, BitVec.toNat_not, BitVec.toNat_ofNat, Nat.mod_eq_of_lt (by omega)]

set_option maxHeartbeats 1000000 in
theorem mixed_c (a b c d e f g q word key : Nat) (w : World) (ha : a < 4294967296) (hb : b < 4294967296) (hc : c < 4294967296) (he : e < 4294967296) (hf : f < 4294967296) (hg : g < 4294967296) :
    Calls Tryz.prog 127 #[.agg #[.int .u32 a, .int .u32 b, .int .u32 c, .int .u32 d, .int .u32 e, .int .u32 f, .int .u32 g, .int .u32 q], .int .u32 word, .int .u32 key] w fun r w' => r = .returned (.agg (roundN ⟨a, b, c, d, e, f, g, q⟩ word key).u32) ∧ Below w.heap.size w w' := by
  have z1 := u32_and_nat _ _ he hf
  have z2 := u32_and_nat (4294967295 - e) g (by omega) hg
  have z3 : bits .xor .u32 ((e &&& f : Nat) : Int) (((4294967295 - e) &&& g : Nat) : Int) = ((chN e f g : Nat) : Int) := u32_xor_nat _ _ (and_lt32 he) (and_lt32 (by omega))
  have m1 := u32_and_nat _ _ ha hb
  have m2 := u32_and_nat _ _ ha hc
  have m3 := u32_and_nat _ _ hb hc
  have m4 := u32_xor_nat _ _ (and_lt32 (b := b) ha) (and_lt32 (b := c) ha)
  have m5 : bits .xor .u32 (((a &&& b) ^^^ (a &&& c) : Nat) : Int) ((b &&& c : Nat) : Int) = ((majN a b c : Nat) : Int) := u32_xor_nat _ _ (xor_lt32 (and_lt32 ha) (and_lt32 ha)) (and_lt32 hb)
  have n1 := not32 e he
  go_enter Tryz.func127, Tryz.ntmps127
  go_wp2
  go_quiet (fail)
  go_wp2_with fail
  refine wp_region_again (by kernel_rfl) (by kernel_rfl) ?_
  repeat (go_big_quiet_step ((go_at_call 130; exact Calls.quiet_of_same (turnedThrice_l e 6 11 25 _ _ _ rfl rfl rfl _ he (by decide) (by decide) (by decide)))))
  refine wpQuiet_nil ?_
  rintro _ ⟨nr, rfl⟩
  go_wp2_with fail
  refine (turnedThrice_l a 2 13 22 _ _ _ rfl rfl rfl _ ha (by decide) (by decide) (by decide)).mono ?_
  rintro r w' ⟨rfl, rfl⟩
  go_wp2
  have E1 : (((q : Int) + (rot3 e 6 11 25 : Nat) + (chN e f g : Nat) + key + word + ((rot3 a 2 13 22 : Nat) + (majN a b c : Nat))) % 4294967296) = (((t1N ⟨a, b, c, d, e, f, g, q⟩ word key + t2N ⟨a, b, c, d, e, f, g, q⟩) % 4294967296 : Nat) : Int) := by simp only [t1N, t2N]; omega
  have E2 : (((d : Int) + (q + (rot3 e 6 11 25 : Nat) + (chN e f g : Nat) + key + word)) % 4294967296) = (((d + t1N ⟨a, b, c, d, e, f, g, q⟩ word key) % 4294967296 : Nat) : Int) := by simp only [t1N]; omega
  rw [E1, E2]
  exact bodyPost_ret (v := .agg (roundN ⟨a, b, c, d, e, f, g, q⟩ word key).u32) (by simp [results, Tryz.results127, go_sem]; rfl) rfl ⟨rfl, ((((((((below_drewN (Below.mk (alloc_below _ _) _) _).setCell (Nat.le_succ _) _).setCell (Nat.le_succ _) _).setCell (Nat.le_succ _) _).setCell (Nat.le_succ _) _).setCell (Nat.le_succ _) _).setCell (Nat.le_succ _) _).setCell (Nat.le_succ _) _).setCell (Nat.le_succ _) _⟩

end Go.Proofs.YtdemfbbjdnjolaaGreatDoor

/- The contracts of the laws' own helpers on bytes: toByteS copies what it reads into a row of its own; eqByteS answers true at equal bytes. For at most 1048576 bytes. -/
namespace Go.Proofs.YtdemfbbjdnjolaaGreatDoor
open Go.ChangeShapes Go.WideShapes Go.ChangeAt Go.RowKit
theorem info8 : (Tryz.prog.info? 5).map (fun i => (i.zero, i.size, i.bytes)) = some (some (.int .u8 0), 1, 1) := by kernel_rfl

set_option maxHeartbeats 1000000 in
theorem toByteS_c (a : Option Addr) (cap : Nat) (bs : List UInt8) (w : World) (hr : Rd w a cap bs) (hl : bs.length ≤ 1048576) :
    Calls Tryz.prog 17 #[.slice a bs.length cap] w fun e w' => ∃ v, e = .returned v ∧ Own w' w.heap.size v bs ∧ Below w.heap.size w w' := by
  obtain ⟨i0, hi, hz0, hz1, hz2⟩ := info_parts info8
  have hm : bs.length ≤ maxLen := by unfold maxLen; omega
  go_enter Tryz.func17, Tryz.ntmps17
  go_wp2_with (first
    | (at_make; refine wpList_make_full _ rfl (.tmp 6) (.tmp 6) 22 rfl w.heap.size 5 i0 (.int .u8 0) 1 Tryz.underlying22 hi hz0 hz1 .i64 .i64 _ _ bs.length rfl rfl rfl rfl (by rw [hz2]; omega) hm (Nat.le_refl _) ?_; intro w1 hown hgrow)
    | go_in)
  rw [replicate_made, ← part_zero bs bs.length] at hown
  have hb1 : Below w.heap.size w w1 := (Below.refl _ _).grown hgrow (Nat.le_refl _) (fun k hk => by simp at hk)
  clear hgrow hz0 hz1 hz2 hi
  go_loopw [4] (fun i wr => ∃ k : Nat, k ≤ bs.length ∧ i = .int .i64 k ∧ wr.ownsRow w.heap.size 5 1 (.slice (some ⟨w.heap.size, 0, none⟩) bs.length bs.length) bs.length (part bs bs.length k) ∧ Below w.heap.size w wr)
    (fun i _ => bs.length - (intOf i).toNat)
  case atStart => exact ⟨0, Nat.zero_le _, rfl, hown, hb1⟩
  case round =>
    obtain ⟨k, hk, rfl, hown, hbel⟩ := hrel
    by_cases hlt : k < bs.length
    · obtain ⟨b, o, rfl, hc⟩ := hr.2.2.2 (by omega)
      have hlb : b < w.heap.size := World.block_lt_of_cell? w _ (hc 0 (by omega))
      have hcx : wr.cell? ⟨b, o + k, none⟩ = some (.int .u8 (at8 bs k)) := (hbel.cell (by exact hlb)).trans (hc k hlt)
      have hcy : wr.cell? ⟨w.heap.size, k, none⟩ = some (.int .u8 0) := by rw [World.ownsRow.cellAt hown k (by omega), part_at bs k hlt]
      have hfy : wr.frozen? ⟨w.heap.size, k, none⟩ = false := World.ownsRow.frozenAt hown k
      have R := World.ownsRow.stored hown k (.int .u8 (at8 bs k))
      rw [part_set bs k hlt] at R
      have RB : Below w.heap.size w (wr.setCell ⟨w.heap.size, k, none⟩ (.int .u8 (at8 bs k))) := hbel.setCell (Nat.le_refl _) _
      clear hc hr hown
      go_wp2
      go_roundw
      case rel => exact ⟨k + 1, by omega, by go_num, R.1, RB⟩
      case measure => simp [intOf]; omega
    · have e : k = bs.length := by omega
      subst e
      rw [part_all] at hown
      go_wp2
      go_ret
      exact ⟨_, rfl, hown, hbel⟩

set_option maxHeartbeats 1000000 in
theorem eqByteS_c (a b : Option Addr) (ca cb : Nat) (bs : List UInt8) (w : World) (hra : Rd w a ca bs) (hrb : Rd w b cb bs) :
    Calls Tryz.prog 20 #[.slice a bs.length ca, .slice b bs.length cb] w fun e w' => e = .returned (.bool true) ∧ Below w.heap.size w w' := by
  have hm : bs.length ≤ maxLen := Nat.le_trans hra.1 hra.2.1
  unfold maxLen at hm
  go_enter Tryz.func20, Tryz.ntmps20
  go_wp2
  go_loopw [5] (fun i wr => ∃ k : Nat, k ≤ bs.length ∧ i = .int .i64 k ∧ Below w.heap.size w wr)
    (fun i _ => bs.length - (intOf i).toNat)
  case atStart => exact ⟨0, Nat.zero_le _, rfl, Below.refl _ _⟩
  case round =>
    obtain ⟨k, hk, rfl, hbel⟩ := hrel
    by_cases hlt : k < bs.length
    · obtain ⟨b1, o1, rfl, hc1⟩ := hra.2.2.2 (by omega)
      obtain ⟨b2, o2, rfl, hc2⟩ := hrb.2.2.2 (by omega)
      have hcx : wr.cell? ⟨b1, o1 + k, none⟩ = some (.int .u8 (at8 bs k)) := (hbel.cell (World.block_lt_of_cell? w _ (hc1 k hlt))).trans (hc1 k hlt)
      have hcy : wr.cell? ⟨b2, o2 + k, none⟩ = some (.int .u8 (at8 bs k)) := (hbel.cell (World.block_lt_of_cell? w _ (hc2 k hlt))).trans (hc2 k hlt)
      have hlt' : (k : Int) < (bs.length : Int) := by omega
      clear hc1 hc2 hra hrb
      go_wp2
      go_quiet (fail)
      go_wp2
      go_roundw
      case rel => exact ⟨k + 1, by omega, by go_num, below_drewN hbel _⟩
      case measure => simp [intOf]; omega
    · go_wp2
      go_ret
      exact ⟨rfl, hbel⟩

set_option maxHeartbeats 1000000 in
theorem markByteS_c (B : Nat) (v : Value) (bs : List UInt8) (m : Nat) (w : World) (ho : Own w B v bs) (hm : m + bs.length ≤ 1000000000000) :
    Calls Tryz.prog 22 #[v, .int .i64 m] w fun e w' => e = .returned (.int .i64 ((m : Int) + (bs.length : Int))) ∧ Own w' B v (marks m bs.length) ∧ w.grownBy w' v.ownBlock := by
  obtain ⟨h1, h2⟩ := id ho
  rcases h2 with ⟨rfl, hn⟩ | ⟨g, cap, cur, rfl, hb, hg, hle, hcm, hs, ht⟩
  · have e : bs = [] := List.length_eq_zero_iff.1 hn
    subst e
    go_enter Tryz.func22, Tryz.ntmps22
    go_wp2
    refine wp_loop_rounds 1 ?_
    rw [rounds_succ]
    go_wp2
    go_ret
    exact ⟨by simp, ho, World.grownBy.refl _ _⟩
  · clear h1 hb hg hs ht cur
    go_enter Tryz.func22, Tryz.ntmps22
    go_wp2
    go_loopw [1, 5] (fun q i wr => ∃ j : Nat, j ≤ bs.length ∧ i = .int .i64 j ∧ q = .int .i64 ((m : Int) + j) ∧ Own wr B (.slice (some ⟨g, 0, none⟩) bs.length cap) (marked bs m j) ∧ w.grownBy wr (some g))
      (fun _ i _ => bs.length - (intOf i).toNat)
    case atStart => exact ⟨0, Nat.zero_le _, rfl, by simp, by rw [marked_zero]; exact ho, World.grownBy.refl _ _⟩
    case round =>
      obtain ⟨j, hj, rfl, rfl, hown, hgr⟩ := hrel
      have hml := marked_len bs m j hj
      by_cases hlt : j < bs.length
      · unfold Own at hown
        rw [hml] at hown
        have hcy : wr.cell? ⟨g, j, none⟩ = some (.int .u8 (at8 (marked bs m j) j)) := by rw [World.ownsRow.cellAt hown j (by omega), u8v_at (by omega)]
        have hfy : wr.frozen? ⟨g, j, none⟩ = false := World.ownsRow.frozenAt hown j
        have R := World.ownsRow.stored hown j (.int .u8 (((m : Int) + j) % 256))
        rw [marked_set bs m j hlt] at R
        have hml2 := marked_len bs m (j + 1) hlt
        clear hown hml ho
        go_wp2
        go_roundw
        case rel => exact ⟨j + 1, by omega, by go_num, by go_num, by unfold Own; rw [hml2]; exact R.1, grownBy_trans hgr R.2⟩
        case measure => simp [intOf]; omega
      · have e : j = bs.length := by omega
        subst e
        rw [marked_all] at hown
        go_wp2
        go_ret
        exact ⟨rfl, hown, hgr⟩

set_option maxHeartbeats 1000000 in
theorem heldByteS_c (a : Option Addr) (cap : Nat) (n m : Nat) (w : World) (hr : Rd w a cap (marks m n)) (hm : m + n ≤ 1048577) :
    Calls Tryz.prog 56 #[.slice a n cap, .int .i64 m] w fun e w' => e = .returned (.int .i64 ((m : Int) + (n : Int))) ∧ w' = w := by
  unfold Rd at hr
  rw [marks_len] at hr
  obtain ⟨h1, h2, h3, h4⟩ := hr
  unfold maxLen at h2
  go_enter Tryz.func56, Tryz.ntmps56
  go_wp2
  go_loop [1, 5] (fun q i => ∃ j : Nat, j ≤ n ∧ i = .int .i64 j ∧ q = .int .i64 ((m : Int) + j))
    (fun _ i => n - (intOf i).toNat)
  case atStart => exact ⟨0, Nat.zero_le _, rfl, by simp⟩
  case round =>
    obtain ⟨j, hj, rfl, rfl⟩ := hrel
    by_cases hlt : j < n
    · obtain ⟨b, o, rfl, hc⟩ := h4 (by omega)
      have hcx : w.cell? ⟨b, o + j, none⟩ = some (.int .u8 (((m : Int) + j) % 256)) := by rw [hc j hlt, at8_marks hlt]
      clear hc h4
      go_wp2
      go_round
      case rel => exact ⟨j + 1, by omega, by go_num, by go_num⟩
      case measure => simp [intOf]; omega
    · have e : j = n := by omega
      subst e
      go_wp2
      go_ret
      exact ⟨rfl, rfl⟩

theorem markByteS_c1 (B : Nat) (v : Value) (bs : List UInt8) (w : World) (ho : Own w B v bs) (hm : bs.length ≤ 1048576) :
    Calls Tryz.prog 22 #[v, .int .i64 1] w fun e w' => e = .returned (.int .i64 (1 + (bs.length : Int))) ∧ Own w' B v (marks 1 bs.length) ∧ w.grownBy w' v.ownBlock :=
  markByteS_c B v bs 1 w ho (by omega)
theorem markByteS_cn (m : Int) (B : Nat) (v : Value) (bs : List UInt8) (w : World) (ho : Own w B v bs) (h0 : 0 ≤ m) (hm : m ≤ 900000000000) (hl : bs.length ≤ 1048576) :
    Calls Tryz.prog 22 #[v, .int .i64 m] w fun e w' => e = .returned (.int .i64 (m + (bs.length : Int))) ∧ Own w' B v (marks m.toNat bs.length) ∧ w.grownBy w' v.ownBlock := by
  obtain ⟨m, rfl⟩ := Int.eq_ofNat_of_zero_le h0
  exact markByteS_c B v bs m w ho (by omega)
end Go.Proofs.YtdemfbbjdnjolaaGreatDoor

