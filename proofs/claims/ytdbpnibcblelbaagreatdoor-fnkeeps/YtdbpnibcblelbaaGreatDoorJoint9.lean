/- Bytes that lie in a row of their own whose block bears another type than a made row's (an array that was cut whole): 'OwnT t'. What keeps it, and the contracts of the laws' helpers on such answers. -/
import Derived.Test.YtdbpnibcblelbaaGreatDoorJoint8
import Derived.Test.YtdbpnibcblelbaaGreatDoorJoint2
import Derived.Test.YtdbpnibcblelbaaGreatDoorJoint3
import Derived.Test.YtdbpnibcblelbaaGreatDoorJoint5
import Derived.Deep.QuietTactic
import Derived.BigQuiet
import Derived.Deep.RegionWith
namespace Go.Proofs.YtdbpnibcblelbaaGreatDoor
open Go.ChangeShapes Go.WideShapes Go.ChangeAt Go.RowKit
def OwnT (t : TypeId) (w : World) (B : Nat) (v : Value) (bs : List UInt8) : Prop := w.ownsRow B t 1 v bs.length (bs.map u8v)
theorem OwnT.rd {t : TypeId} {w : World} {B : Nat} {v : Value} {bs : List UInt8} (h : OwnT t w B v bs) : ∃ a cap, v = .slice a bs.length cap ∧ Rd w a cap bs := by
  have h0 := h
  rcases h.2 with ⟨rfl, hn⟩ | ⟨g, cap, cur, rfl, hb, hg, hle, hm, hs, ht⟩
  · exact ⟨none, 0, by rw [hn], by omega, by simp [maxLen], fun _ => rfl, fun hp => by omega⟩
  · refine ⟨_, cap, rfl, hle, hm, fun hh => by simp at hh, fun _ => ⟨g, 0, rfl, fun i hi => ?_⟩⟩
    have := World.ownsRow.cellAt h0 i (by omega)
    rw [Nat.zero_add, this, u8v_at hi]
theorem OwnT.keep {t : TypeId} {w w' : World} {B N : Nat} {v : Value} {bs : List UInt8} (h : OwnT t w B v bs) (hb : Below N w w') (hn : ∀ k, v.ownBlock = some k → k < N) : OwnT t w' B v bs := by
  obtain ⟨h1, h2⟩ := h
  refine ⟨h1, ?_⟩
  rcases h2 with h2 | ⟨g, cap, cur, rfl, hg, hh, r⟩
  · exact .inl h2
  · exact .inr ⟨g, cap, cur, rfl, hg, (hb.block g (hn g rfl)).trans hh, r⟩
theorem OwnT.stay {t : TypeId} {w w' : World} {B : Nat} {v : Value} {bs : List UInt8} (h : OwnT t w B v bs) (hb : Below w.heap.size w w') : OwnT t w' B v bs :=
  h.keep hb (fun k hk => (World.ownsRow.lt h k hk).2)
theorem OwnT.set {t : TypeId} {w : World} {B : Nat} {v : Value} {bs : List UInt8} (h : OwnT t w B v bs) {a : Addr} (ha : a.block < B) (u : Value) : OwnT t (w.setCell a u) B v bs :=
  ownsRow_setCell_below h ha u
theorem OwnT.lower {t : TypeId} {w : World} {B B' : Nat} {v : Value} {bs : List UInt8} (h : OwnT t w B v bs) (hb : B' ≤ B) : OwnT t w B' v bs := by
  obtain ⟨h1, h2⟩ := h
  refine ⟨h1, ?_⟩
  rcases h2 with h2 | ⟨g, cap, cur, rfl, hg, r⟩
  · exact .inl h2
  · exact .inr ⟨g, cap, cur, rfl, by omega, r⟩
theorem OwnT.lt {t : TypeId} {w : World} {B : Nat} {v : Value} {bs : List UInt8} (h : OwnT t w B v bs) : ∀ k, v.ownBlock = some k → k < w.heap.size := fun k hk => (World.ownsRow.lt h k hk).2
theorem OwnT.ge {t : TypeId} {w : World} {B : Nat} {v : Value} {bs : List UInt8} (h : OwnT t w B v bs) : ∀ k, v.ownBlock = some k → B ≤ k := fun k hk => (World.ownsRow.lt h k hk).1
theorem OwnT.other {t : TypeId} {w w' : World} {B : Nat} {v : Value} {bs : List UInt8} {row : Option Nat} (h : OwnT t w B v bs) (hg : w.grownBy w' row) (hne : ∀ k, v.ownBlock = some k → row ≠ some k) : OwnT t w' B v bs := by
  obtain ⟨h1, h2⟩ := h
  refine ⟨h1, ?_⟩
  rcases h2 with h2 | ⟨g, cap, cur, rfl, hb, hh, r⟩
  · exact .inl h2
  · exact .inr ⟨g, cap, cur, rfl, hb, (hg.block g (Array.getElem?_eq_some_iff.1 hh).1 (fun e => hne g rfl e.symm)).trans hh, r⟩
theorem OwnT.none (t : TypeId) (w : World) (B : Nat) : OwnT t w B (.slice none 0 0) [] := ⟨by simp, .inl ⟨rfl, rfl⟩⟩
end Go.Proofs.YtdbpnibcblelbaaGreatDoor
/- The contract of the laws' own draw of a number (lwAt): it is below the bound. -/
namespace Go.Proofs.YtdbpnibcblelbaaGreatDoor
open Go.ChangeShapes Go.WideShapes Go.ChangeAt Go.RowKit
theorem emod_nat (v : Int) (n : Nat) (h : 0 < n) : ∃ m : Nat, v % (n : Int) = (m : Int) ∧ m < n := by
  have h1 := Int.emod_nonneg v (show (n : Int) ≠ 0 by omega)
  have h2 := Int.emod_lt_of_pos v (show (0 : Int) < (n : Int) by omega)
  exact ⟨(v % (n : Int)).toNat, by omega, by omega⟩
set_option maxRecDepth 4000 in
set_option maxHeartbeats 2000000 in
theorem lwAt_c (p : Option Addr) (q : Nat) (cs : List UInt8) (i n : Nat) (w : World) (hr : Rd w p q cs) (hl : cs.length ≤ 1048576) (hi : i ≤ 1000) (hn : n ≤ 1000000) :
    Calls Tryz.prog 8 #[.slice p cs.length q, .int .i64 (i : Int), .int .i64 (n : Int)] w fun e w' => ∃ m : Nat, e = .returned (.int .i64 (m : Int)) ∧ (m = 0 ∨ m < n) ∧ Below w.heap.size w w' := by
  by_cases h1 : n ≤ 1
  · go_enter Tryz.func8, Tryz.ntmps8
    go_wp2
    go_ret
    exact ⟨0, rfl, .inl rfl, Below.refl _ _⟩
  · have hn0 : ((n : Int) == 0) = false := by rw [beq_eq_false_iff_ne]; omega
    by_cases h2 : cs.length = 0
    · rw [h2]
      have hq : (((i : Int) * 7) % (n : Int)) = ((i * 7 % n : Nat) : Int) := by push_cast; rfl
      go_enter Tryz.func8, Tryz.ntmps8
      go_wp2
      go_ret
      exact ⟨i * 7 % n, by rw [← hq]; rfl, .inr (Nat.mod_lt _ (by omega)), Below.refl _ _⟩
    · have hk0 : ((cs.length : Int) == 0) = false := by rw [beq_eq_false_iff_ne]; omega
      have hd1 : i / cs.length ≤ i := Nat.div_le_self _ _
      have hr1 : i % cs.length < cs.length := Nat.mod_lt _ (by omega)
      have hr2 : (i + 1) % cs.length < cs.length := Nat.mod_lt _ (by omega)
      have e1 : (i : Int) / (cs.length : Int) = ((i / cs.length : Nat) : Int) := by push_cast; rfl
      have e2 : (i : Int) % (cs.length : Int) = ((i % cs.length : Nat) : Int) := by push_cast; rfl
      have e3 : ((i : Int) + 1) % (cs.length : Int) = (((i + 1) % cs.length : Nat) : Int) := by push_cast; rfl
      have et1 : (i : Int).tdiv (cs.length : Int) = ((i / cs.length : Nat) : Int) := by rw [Int.tdiv_eq_ediv_of_nonneg (by omega)]; exact e1
      have et2 : (i : Int).tmod (cs.length : Int) = ((i % cs.length : Nat) : Int) := by rw [Int.tmod_eq_emod_of_nonneg (by omega)]; exact e2
      have et3 : ((i : Int) + 1).tmod (cs.length : Int) = (((i + 1) % cs.length : Nat) : Int) := by rw [Int.tmod_eq_emod_of_nonneg (by omega)]; exact e3
      obtain ⟨b, o, rfl, hc⟩ := hr.2.2.2 (by omega)
      have c1 := hc _ hr1
      have c2 := hc _ hr2
      have h3 := at8_lo cs (i % cs.length)
      have h4 := at8_hi cs (i % cs.length)
      have h5 := at8_lo cs ((i + 1) % cs.length)
      have h6 := at8_hi cs ((i + 1) % cs.length)
      generalize at8 cs (i % cs.length) = x at *
      generalize at8 cs ((i + 1) % cs.length) = y at *
      generalize i / cs.length = d at *
      generalize i % cs.length = r at *
      generalize (i + 1) % cs.length = r2 at *
      have g1 : (r : Int) < (cs.length : Int) := by omega
      have g2 : (r2 : Int) < (cs.length : Int) := by omega
      clear hc hr
      by_cases h7 : 200 < n
      · go_enter Tryz.func8, Tryz.ntmps8
        go_wp2
        go_quiet (fail)
        go_wp2
        obtain ⟨m, hm, hlt⟩ := emod_nat ((x + (d : Int) * 3) * 251 + y) n (by omega)
        go_ret
        exact ⟨m, by rw [← hm]; rfl, .inr hlt, below_drewN (Below.refl _ _) _⟩
      · go_enter Tryz.func8, Tryz.ntmps8
        go_wp2
        go_quiet (fail)
        go_wp2
        obtain ⟨m, hm, hlt⟩ := emod_nat (x + (d : Int) * 3) n (by omega)
        go_ret
        exact ⟨m, by rw [← hm]; rfl, .inr hlt, below_drewN (Below.refl _ _) _⟩
end Go.Proofs.YtdbpnibcblelbaaGreatDoor
/- The contract of laws.lwSame: whether the two slices hold the same bytes. -/
namespace Go.Proofs.YtdbpnibcblelbaaGreatDoor
open Go.ChangeShapes Go.WideShapes Go.ChangeAt Go.RowKit
set_option maxRecDepth 4000 in
set_option maxHeartbeats 1000000 in
theorem lwSame_c (a b : Option Addr) (ca cb : Nat) (xs bs : List UInt8) (w : World) (hra : Rd w a ca xs) (hrb : Rd w b cb bs) :
    Calls Tryz.prog 12 #[.slice a xs.length ca, .slice b bs.length cb] w fun e w' => e = .returned (.bool (xs == bs)) ∧ w' = w := by
  have e1 := run_str (P := Tryz.prog) hra (src := 22) (dst := 9) (e := 5) Tryz.underlying22 Tryz.underlying5 Tryz.underlying9
  have e2 := run_str (P := Tryz.prog) hrb (src := 22) (dst := 9) (e := 5) Tryz.underlying22 Tryz.underlying5 Tryz.underlying9
  go_enter Tryz.func12, Tryz.ntmps12
  go_wp2
  go_ret
  rw [strB_list, strB_list]
  exact ⟨rfl, rfl⟩
theorem lwSame_yes (a b : Option Addr) (ca cb n m : Nat) (bs : List UInt8) (w : World) (hn : bs.length = n) (hm : bs.length = m) (hra : Rd w a ca bs) (hrb : Rd w b cb bs) :
    Calls Tryz.prog 12 #[.slice a n ca, .slice b m cb] w fun e w' => e = .returned (.bool true) ∧ w' = w := by
  subst hn hm
  refine (lwSame_c a b ca cb bs bs w hra hrb).mono ?_
  rintro e w' ⟨rfl, rfl⟩
  exact ⟨by simp, rfl⟩
end Go.Proofs.YtdbpnibcblelbaaGreatDoor
/- The contracts of a round: spec.l2Round and impl.mixed (and what it calls) both answer roundN of their arguments; what was there stays. For words below 2^32. -/
namespace Go.Proofs.YtdbpnibcblelbaaGreatDoor
open Go.ChangeShapes Go.WideShapes Go.ChangeAt Go.RowKit
set_option maxHeartbeats 1000000 in
theorem turnedThrice_c (x i j k : Nat) (w : World) (hx : x < 4294967296) (hi : i ≤ 31) (hj : j ≤ 31) (hk : k ≤ 31) :
    Calls Tryz.prog 238 #[.int .u32 x, .int .i64 i, .int .i64 j, .int .i64 k] w fun e w' => e = .returned (.int .u32 (rot3 x i j k : Nat)) ∧ w' = w := by
  have x1 := u32_xor_nat _ _ (rotN_lt x i hx (by omega)) (rotN_lt x j hx (by omega))
  have x2 : bits .xor .u32 _ _ = ((rot3 x i j k : Nat) : Int) := u32_xor_nat _ _ (xor_lt32 (rotN_lt x i hx (by omega)) (rotN_lt x j hx (by omega))) (rotN_lt x k hx (by omega))
  go_enter Tryz.func238, Tryz.ntmps238
  go_wp2_with fail
  refine (turnRight_c x i _ hx hi).mono ?_
  rintro r w' ⟨rfl, rfl⟩
  go_wp2_with fail
  refine (turnRight_c x j _ hx hj).mono ?_
  rintro r w' ⟨rfl, rfl⟩
  go_wp2_with fail
  refine (turnRight_c x k _ hx hk).mono ?_
  rintro r w' ⟨rfl, rfl⟩
  go_wp2
  go_ret
  exact ⟨rfl, rfl⟩
theorem turnedThrice_l (x i j k : Nat) (m n o : Int) (hm : m = i) (hn : n = j) (ho : o = k) (w : World) (hx : x < 4294967296) (hi : i ≤ 31) (hj : j ≤ 31) (hk : k ≤ 31) :
    Calls Tryz.prog 238 #[.int .u32 x, .int .i64 m, .int .i64 n, .int .i64 o] w fun e w' => e = .returned (.int .u32 (rot3 x i j k : Nat)) ∧ w' = w := by
  subst hm hn ho; exact turnedThrice_c x i j k w hx hi hj hk
set_option maxHeartbeats 1000000 in
theorem turnedTwice_c (x i j k : Nat) (w : World) (hx : x < 4294967296) (hi : i ≤ 31) (hj : j ≤ 31) (hk : k ≤ 31) :
    Calls Tryz.prog 237 #[.int .u32 x, .int .i64 i, .int .i64 j, .int .i64 k] w fun e w' => e = .returned (.int .u32 (sh2 x i j k : Nat)) ∧ ∃ n, w' = w.drewN n := by
  have x1 := u32_xor_nat _ _ (rotN_lt x i hx (by omega)) (rotN_lt x j hx (by omega))
  have x2 : bits .xor .u32 ((rotN x i ^^^ rotN x j : Nat) : Int) ((x : Int) / 2 ^ k) = ((sh2 x i j k : Nat) : Int) := by
    rw [show ((x : Int) / 2 ^ k) = ((x / 2 ^ k : Nat) : Int) by push_cast; rfl]
    exact u32_xor_nat _ _ (xor_lt32 (rotN_lt x i hx (by omega)) (rotN_lt x j hx (by omega))) (Nat.lt_of_le_of_lt (Nat.div_le_self x (2 ^ k)) hx)
  go_enter Tryz.func237, Tryz.ntmps237
  go_wp2
  go_quiet ((first | (go_at_call_of 265 (Value.int .i64 (i : Int)); exact Calls.quiet_of_same (turnRight_c x i _ hx hi)) | (go_at_call_of 265 (Value.int .i64 (j : Int)); exact Calls.quiet_of_same (turnRight_c x j _ hx hj))))
  go_wp2
  go_ret
  exact ⟨rfl, _, rfl⟩
theorem not32 (e : Nat) (h : e < 4294967296) : bits .xor .u32 IntKind.u32.max (e : Int) = ((4294967295 - e : Nat) : Int) := by
  have h1 : IntKind.u32.max = ((4294967295 : Nat) : Int) := by decide
  rw [h1, u32_xor_nat _ _ (by decide) h]
  congr 1
  have h2 : (BitVec.allOnes 32 ^^^ BitVec.ofNat 32 e).toNat = 4294967295 ^^^ e := by
    rw [BitVec.toNat_xor, BitVec.toNat_allOnes, BitVec.toNat_ofNat, Nat.mod_eq_of_lt (by omega)]
  rw [← h2, BitVec.allOnes_xor, BitVec.toNat_not, BitVec.toNat_ofNat, Nat.mod_eq_of_lt (by omega)]
set_option maxHeartbeats 1000000 in
theorem mixed_c (a b c d e f g q word key : Nat) (w : World) (ha : a < 4294967296) (hb : b < 4294967296) (hc : c < 4294967296) (he : e < 4294967296) (hf : f < 4294967296) (hg : g < 4294967296) :
    Calls Tryz.prog 197 #[.agg #[.int .u32 a, .int .u32 b, .int .u32 c, .int .u32 d, .int .u32 e, .int .u32 f, .int .u32 g, .int .u32 q], .int .u32 word, .int .u32 key] w fun r w' => r = .returned (.agg (roundN ⟨a, b, c, d, e, f, g, q⟩ word key).u32) ∧ Below w.heap.size w w' := by
  have z1 := u32_and_nat _ _ he hf
  have z2 := u32_and_nat (4294967295 - e) g (by omega) hg
  have z3 : bits .xor .u32 ((e &&& f : Nat) : Int) (((4294967295 - e) &&& g : Nat) : Int) = ((chN e f g : Nat) : Int) := u32_xor_nat _ _ (and_lt32 he) (and_lt32 (by omega))
  have m1 := u32_and_nat _ _ ha hb
  have m2 := u32_and_nat _ _ ha hc
  have m3 := u32_and_nat _ _ hb hc
  have m4 := u32_xor_nat _ _ (and_lt32 (b := b) ha) (and_lt32 (b := c) ha)
  have m5 : bits .xor .u32 (((a &&& b) ^^^ (a &&& c) : Nat) : Int) ((b &&& c : Nat) : Int) = ((majN a b c : Nat) : Int) := u32_xor_nat _ _ (xor_lt32 (and_lt32 ha) (and_lt32 ha)) (and_lt32 hb)
  have n1 := not32 e he
  go_enter Tryz.func197, Tryz.ntmps197
  go_wp2
  go_quiet (fail)
  go_wp2_with fail
  refine wp_region_again (by kernel_rfl) (by kernel_rfl) ?_
  repeat (go_big_quiet_step ((go_at_call 238; exact Calls.quiet_of_same (turnedThrice_l e 6 11 25 _ _ _ rfl rfl rfl _ he (by decide) (by decide) (by decide)))))
  refine wpQuiet_nil ?_
  rintro _ ⟨nr, rfl⟩
  go_wp2_with fail
  refine (turnedThrice_l a 2 13 22 _ _ _ rfl rfl rfl _ ha (by decide) (by decide) (by decide)).mono ?_
  rintro r w' ⟨rfl, rfl⟩
  go_wp2
  have E1 : (((q : Int) + (rot3 e 6 11 25 : Nat) + (chN e f g : Nat) + key + word + ((rot3 a 2 13 22 : Nat) + (majN a b c : Nat))) % 4294967296) = (((t1N ⟨a, b, c, d, e, f, g, q⟩ word key + t2N ⟨a, b, c, d, e, f, g, q⟩) % 4294967296 : Nat) : Int) := by simp only [t1N, t2N]; omega
  have E2 : (((d : Int) + (q + (rot3 e 6 11 25 : Nat) + (chN e f g : Nat) + key + word)) % 4294967296) = (((d + t1N ⟨a, b, c, d, e, f, g, q⟩ word key) % 4294967296 : Nat) : Int) := by simp only [t1N]; omega
  rw [E1, E2]
  exact bodyPost_ret (v := .agg (roundN ⟨a, b, c, d, e, f, g, q⟩ word key).u32) (by simp [results, Tryz.results197, go_sem]; rfl) rfl ⟨rfl, ((((((((below_drewN (Below.mk (alloc_below _ _) _) _).setCell (Nat.le_succ _) _).setCell (Nat.le_succ _) _).setCell (Nat.le_succ _) _).setCell (Nat.le_succ _) _).setCell (Nat.le_succ _) _).setCell (Nat.le_succ _) _).setCell (Nat.le_succ _) _).setCell (Nat.le_succ _) _⟩
end Go.Proofs.YtdbpnibcblelbaaGreatDoor
/- The contracts of chapter 8's functions in the program, at every argument: code and number, or bytes. What was there stays. -/
namespace Go.Proofs.YtdbpnibcblelbaaGreatDoor
open Go.ChangeShapes Go.WideShapes Go.ChangeAt Go.RowKit
theorem and1_u64 (a : Nat) (h : a < 18446744073709551616) : bits .and .u64 (a : Int) 1 = (a : Int) % 2 := by
  have e : ∀ n : Nat, n < 18446744073709551616 → (BitVec.ofInt 64 (n : Int)).toNat = n := fun n hn => by rw [BitVec.toNat_ofInt]; omega
  show IntKind.u64.wrap ((BitVec.ofInt 64 (a : Int) &&& BitVec.ofInt 64 ((1 : Nat) : Int)).toNat : Int) = _
  rw [BitVec.toNat_and, e a h, e 1 (by decide), Nat.and_one_is_mod, IntKind.wrap_u64]
  omega
theorem or_i64 (m b : Nat) (hm : m < 256) (h1 : b < 256) : bits .or .i64 ((m : Int) * 256) (b : Int) = ((m * 256 + b : Nat) : Int) := by
  have e : ∀ n : Nat, n < 18446744073709551616 → (BitVec.ofInt 64 (n : Int)).toNat = n := fun n hn => by rw [BitVec.toNat_ofInt]; omega
  have h2 : b < 2 ^ 8 := by omega
  rw [show ((m : Int) * 256) = ((m * 256 : Nat) : Int) by omega]
  show IntKind.i64.wrap ((BitVec.ofInt 64 ((m * 256 : Nat) : Int) ||| BitVec.ofInt 64 (b : Int)).toNat : Int) = _
  rw [BitVec.toNat_or, e _ (by omega), e b (by omega), show m * 256 = m <<< 8 by rw [Nat.shiftLeft_eq], ← Nat.shiftLeft_add_eq_or_of_lt h2, Nat.shiftLeft_eq, IntKind.wrap_i64]
  omega
theorem isElement_c (v : Int) (w : World) : Calls Tryz.prog 214 #[.int .i64 v] w fun e w' => e = .returned (.bool (inB v 1 65520)) ∧ w' = w := by
  by_cases h1 : 1 ≤ v
  · by_cases h2 : v ≤ 65520
    · rw [show inB v 1 65520 = true by simp [inB, h1, h2]]
      go_enter Tryz.func214, Tryz.ntmps214
      go_wp2
      go_ret
      exact ⟨rfl, rfl⟩
    · rw [show inB v 1 65520 = false by simp [inB, h2]]
      go_enter Tryz.func214, Tryz.ntmps214
      go_wp2
      go_ret
      exact ⟨rfl, rfl⟩
  · rw [show inB v 1 65520 = false by simp [inB, h1]]
    go_enter Tryz.func214, Tryz.ntmps214
    go_wp2
    go_ret
    exact ⟨rfl, rfl⟩
theorem isGroupSecret_c (v : Int) (w : World) : Calls Tryz.prog 87 #[.int .i64 v] w fun e w' => e = .returned (.bool (inB v 1 65519)) ∧ w' = w := by
  by_cases h1 : 1 ≤ v
  · by_cases h2 : v ≤ 65519
    · rw [show inB v 1 65519 = true by simp [inB, h1, h2]]
      go_enter Tryz.func87, Tryz.ntmps87
      go_wp2
      go_ret
      exact ⟨rfl, rfl⟩
    · rw [show inB v 1 65519 = false by simp [inB, h2]]
      go_enter Tryz.func87, Tryz.ntmps87
      go_wp2
      go_ret
      exact ⟨rfl, rfl⟩
  · rw [show inB v 1 65519 = false by simp [inB, h1]]
    go_enter Tryz.func87, Tryz.ntmps87
    go_wp2
    go_ret
    exact ⟨rfl, rfl⟩
set_option maxRecDepth 4000 in
set_option maxHeartbeats 1000000 in
theorem times_c (x y : Nat) (w : World) (hx : x ≤ 65520) (hy : y ≤ 65520) :
    Calls Tryz.prog 270 #[.agg #[.int .u64 (x : Int)], .agg #[.int .u64 (y : Int)]] w fun e w' => e = .returned (.agg #[.int .u64 ((x * y % 65521 : Nat) : Int)]) ∧ Below w.heap.size w w' := by
  have hxy : x * y ≤ 65520 * 65520 := Nat.mul_le_mul hx hy
  have exy : ((x * y : Nat) : Int) = (x : Int) * (y : Int) := Int.natCast_mul x y
  have h1 : (x : Int) * (y : Int) ≤ 4292870400 := by rw [← exy]; omega
  have h0 : 0 ≤ (x : Int) * (y : Int) := by rw [← exy]; omega
  have E1 : Hid ((x : Int) * (y : Int) % 65521 = ((x * y % 65521 : Nat) : Int)) := by show _ = _; rw [Int.natCast_emod, exy]; rfl
  clear hxy exy
  go_enter Tryz.func270, Tryz.ntmps270
  go_wp2
  exact bodyPost_ret (v := .agg #[.int .u64 ((x : Int) * (y : Int) % 65521)]) (by simp [results, Tryz.results270, go_sem]) rfl ⟨by rw [E1.out], ((alloc_below _ _).alloc (by simp) _).alloc (by simp; omega) _⟩
set_option maxRecDepth 4000 in
set_option maxHeartbeats 1000000 in
theorem power_c (b e : Nat) (w : World) (hb : b ≤ 65520) (he : e ≤ 65521) :
    Calls Tryz.prog 253 #[.agg #[.int .u64 (b : Int)], .int .u64 (e : Int)] w fun x w' => x = .returned (.agg #[.int .u64 ((powN b e : Nat) : Int)]) ∧ Below w.heap.size w w' := by
  obtain ⟨R, HR⟩ : ∃ R, Hid (R = powN b e) := ⟨_, rfl⟩
  rw [← HR.out]
  obtain ⟨H, HH⟩ : ∃ H, Hid (H = w.heap.size) := ⟨_, rfl⟩
  go_enter Tryz.func253, Tryz.ntmps253
  go_wp2
  have HI : Hid (1 * b ^ e % 65521 = R) := by show _ = _; rw [HR.out, Nat.one_mul]; rfl
  go_loopw [7] (fun y wr => ∃ b' e' o : Nat, y = .int .u64 e' ∧ b' ≤ 65520 ∧ e' ≤ 65521 ∧ o ≤ 65520 ∧ o * b' ^ e' % 65521 = R ∧ Arr wr (w.heap.size + 1) 302 [.int .u64 0] ∧ Arr wr (w.heap.size + 1 + 1) 302 [.int .u64 o] ∧ Arr wr (w.heap.size + 1 + 1 + 1) 302 [.int .u64 b'] ∧ Below w.heap.size w wr)
    (fun y _ => (intOf y).toNat)
  case atStart =>
    have a0 := alloc_below w (.cells #[.int .u64 (b : Int)] 302)
    have A1 : Arr _ _ _ _ := Arr.new (w.alloc (.cells #[.int .u64 (b : Int)] 302)) [.int .u64 0] 302
    have A2 := Arr.new ((w.alloc (.cells #[.int .u64 (b : Int)] 302)).alloc (.cells #[.int .u64 0] 302)) [.int .u64 1] 302
    have A3 := Arr.new (((w.alloc (.cells #[.int .u64 (b : Int)] 302)).alloc (.cells #[.int .u64 0] 302)).alloc (.cells #[.int .u64 1] 302)) [.int .u64 (b : Int)] 302
    simp only [size_alloc] at A1 A2 A3
    exact ⟨b, e, 1, rfl, hb, he, by decide, HI.out, Arr.old _ _ (Arr.old _ _ A1), Arr.old _ _ A2, A3, ((a0.alloc (by simp) _).alloc (by simp; omega) _).alloc (by simp; omega) _⟩
  case round =>
    obtain ⟨x, y, o, rfl, hx, hy, ho, hinv, A1, A2, A3, BW⟩ := hrel
    have HV : Hid (o * x ^ y % 65521 = R) := hinv
    clear hinv hb he HI HR
    have M1 := Nat.mod_lt (x * x) (show 0 < 65521 by decide)
    have M2 := Nat.mod_lt (o * x) (show 0 < 65521 by decide)
    have c1 := (A1.cell 0).trans (show _ = some _ from rfl)
    have c2 := (A2.cell 0).trans (show _ = some _ from rfl)
    have c3 := (A3.cell 0).trans (show _ = some _ from rfl)
    have f1 := A1.frozen
    have f2 := A2.frozen
    have f3 := A3.frozen
    by_cases h0 : 0 < y
    · have h0I : (0 : Int) < (y : Int) := by omega
      by_cases h1 : y % 2 = 1
      · have h1I : (bits BinOp.and IntKind.u64 (y : Int) 1 == 1) = true := by rw [and1_u64 y (by omega), beq_iff_eq]; omega
        have HS : Hid ((o * x % 65521) * (x * x % 65521) ^ (y / 2) % 65521 = R) := by show _ = _; rw [pow_odd o x y h1]; exact HV.out
        clear h1
        go_wp2_with fail
        refine (times_c o x wr ho hx).mono ?_
        rintro e w1 ⟨rfl, hb1⟩
        have B1 := Below.step BW hb1
        obtain ⟨o2, HO2⟩ : ∃ n, Hid (n = o * x % 65521) := ⟨_, rfl⟩
        rw [← HO2.out]
        have A1 := A1.stay hb1
        have A2 := A2.stay hb1
        have A3 := A3.stay hb1
        have c1 := (A1.cell 0).trans (show _ = some _ from rfl)
        have c2 := (A2.cell 0).trans (show _ = some _ from rfl)
        have c3 := (A3.cell 0).trans (show _ = some _ from rfl)
        have f1 := A1.frozen
        have f2 := A2.frozen
        have f3 := A3.frozen
        go_wp2_with fail
        have A1 := A1.setOther (a := ⟨w.heap.size + 1 + 1, 0, none⟩) (by simp) (.int .u64 (o2 : Int))
        have A2 := A2.set 0 (.int .u64 (o2 : Int))
        have A3 := A3.setOther (a := ⟨w.heap.size + 1 + 1, 0, none⟩) (by simp) (.int .u64 (o2 : Int))
        have B1 : Below w.heap.size w (w1.setCell ⟨w.heap.size + 1 + 1, 0, none⟩ (.int .u64 (o2 : Int))) := B1.setCell (by simp; omega) _
        generalize w1.setCell ⟨w.heap.size + 1 + 1, 0, none⟩ (.int .u64 (o2 : Int)) = w2 at *
        refine (times_c x x _ hx hx).mono ?_
        rintro e w3 ⟨rfl, hb3⟩
        have B3 := Below.step B1 hb3
        obtain ⟨x2, HX2⟩ : ∃ n, Hid (n = x * x % 65521) := ⟨_, rfl⟩
        rw [← HX2.out]
        have A1 := A1.stay hb3
        have A2 := A2.stay hb3
        have A3 := A3.stay hb3
        have c1 := (A1.cell 0).trans (show _ = some _ from rfl)
        have c2 := (A2.cell 0).trans (show _ = some _ from rfl)
        have c3 := (A3.cell 0).trans (show _ = some _ from rfl)
        have f1 := A1.frozen
        have f2 := A2.frozen
        have f3 := A3.frozen
        go_wp2_with fail
        refine ⟨⟨x2, y / 2, o2, by rw [Int.natCast_ediv]; rfl, by rw [HX2.out]; omega, by omega, by rw [HO2.out]; omega, by rw [HX2.out, HO2.out]; exact HS.out, A1.setOther (by simp) _, A2.setOther (by simp) _, A3.set 0 _, B3.setCell (by simp; omega) _⟩, by simp [intOf]; omega⟩
      · have h1I : (bits BinOp.and IntKind.u64 (y : Int) 1 == 1) = false := by rw [and1_u64 y (by omega), beq_eq_false_iff_ne]; omega
        have HS : Hid (o * (x * x % 65521) ^ (y / 2) % 65521 = R) := by show _ = _; rw [pow_even o x y (by omega)]; exact HV.out
        clear h1
        go_wp2_with fail
        refine (times_c x x _ hx hx).mono ?_
        rintro e w3 ⟨rfl, hb3⟩
        have B3 := Below.step BW hb3
        obtain ⟨x2, HX2⟩ : ∃ n, Hid (n = x * x % 65521) := ⟨_, rfl⟩
        rw [← HX2.out]
        have A1 := A1.stay hb3
        have A2 := A2.stay hb3
        have A3 := A3.stay hb3
        have c1 := (A1.cell 0).trans (show _ = some _ from rfl)
        have c2 := (A2.cell 0).trans (show _ = some _ from rfl)
        have c3 := (A3.cell 0).trans (show _ = some _ from rfl)
        have f1 := A1.frozen
        have f2 := A2.frozen
        have f3 := A3.frozen
        go_wp2_with fail
        refine ⟨⟨x2, y / 2, o, by rw [Int.natCast_ediv]; rfl, by rw [HX2.out]; omega, by omega, ho, by rw [HX2.out]; exact HS.out, A1.setOther (by simp) _, A2.setOther (by simp) _, A3.set 0 _, B3.setCell (by simp; omega) _⟩, by simp [intOf]; omega⟩
    · have e0 : y = 0 := by omega
      subst e0
      have hR : R = o := by rw [← HV.out, Nat.pow_zero, Nat.mul_one, Nat.mod_eq_of_lt (by omega)]
      go_wp2_with fail
      exact bodyPost_ret (v := .agg #[.int .u64 (o : Int)]) (by simp [results, Tryz.results253, go_sem, c1]) rfl ⟨by rw [hR], BW.setCell (by simp) _⟩
set_option maxRecDepth 4000 in
set_option maxHeartbeats 1000000 in
theorem implPo_c (b e : Int) (w : World) :
    Calls Tryz.prog 215 #[.int .i64 b, .int .i64 e] w fun x w' => x = .returned (.agg #[.int .i64 (poC b e), .int .i64 (poV b e)]) ∧ Below w.heap.size w w' := by
  cases h1 : inB b 1 65520
  · rw [show poC b e = 3 by simp [poC, h1], show poV b e = 0 by simp [poV, poC, h1]]
    go_enter Tryz.func215, Tryz.ntmps215
    go_wp2_with fail
    refine (isElement_c b _).mono ?_
    rintro e w' ⟨rfl, rfl⟩
    rw [h1]
    go_wp2
    exact bodyPost_ret (v := .agg #[.int .i64 3, .int .i64 0]) (by simp [results, Tryz.results215, go_sem]) rfl ⟨rfl, alloc_below _ _⟩
  · by_cases h2 : e < 0
    · have h2' : inB e 0 65521 = false := by simp [inB]; omega
      rw [show poC b e = 3 by simp [poC, h1, h2'], show poV b e = 0 by simp [poV, poC, h1, h2']]
      go_enter Tryz.func215, Tryz.ntmps215
      go_wp2_with fail
      refine (isElement_c b _).mono ?_
      rintro e w' ⟨rfl, rfl⟩
      rw [h1]
      go_wp2
      exact bodyPost_ret (v := .agg #[.int .i64 3, .int .i64 0]) (by simp [results, Tryz.results215, go_sem]) rfl ⟨rfl, alloc_below _ _⟩
    · by_cases h3 : 65521 < e
      · have h2' : inB e 0 65521 = false := by simp [inB]; omega
        rw [show poC b e = 3 by simp [poC, h1, h2'], show poV b e = 0 by simp [poV, poC, h1, h2']]
        go_enter Tryz.func215, Tryz.ntmps215
        go_wp2_with fail
        refine (isElement_c b _).mono ?_
        rintro e w' ⟨rfl, rfl⟩
        rw [h1]
        go_wp2
        exact bodyPost_ret (v := .agg #[.int .i64 3, .int .i64 0]) (by simp [results, Tryz.results215, go_sem]) rfl ⟨rfl, alloc_below _ _⟩
      · have h2' : inB e 0 65521 = true := by simp [inB]; omega
        obtain ⟨bn, rfl, hb1, hb2⟩ := nat_of_in h1 (by decide)
        obtain ⟨en, rfl, -, he2⟩ := nat_of_in h2' (by decide)
        rw [show poC (bn : Int) (en : Int) = 0 by simp [poC, h1, h2'], show poV (bn : Int) (en : Int) = (powN bn en : Nat) by simp [poV, poC, h1, h2']]
        have K : Hid (∀ w, Calls Tryz.prog 253 #[.agg #[.int .u64 (bn : Int)], .int .u64 (en : Int)] w fun x w' => x = .returned (.agg #[.int .u64 ((powN bn en : Nat) : Int)]) ∧ Below w.heap.size w w') := fun w => power_c bn en w (by omega) (by omega)
        have hR := powN_lt bn en
        generalize powN bn en = R at *
        go_enter Tryz.func215, Tryz.ntmps215
        go_wp2_with fail
        refine (isElement_c _ _).mono ?_
        rintro e w' ⟨rfl, hw⟩
        subst hw
        rw [h1]
        go_wp2_with fail
        have A0 := Arr.new w [.int .i64 0, .int .i64 0] 193
        have B0 := alloc_below w (.cells #[.int .i64 0, .int .i64 0] 193)
        refine (K.out _).mono ?_
        rintro e w1 ⟨rfl, hb⟩
        have A1 := A0.stay hb
        have B1 := Below.step B0 hb
        have c0 := (A1.cell 0).trans (show _ = some _ from rfl)
        have c1 := (A1.cell 1).trans (show _ = some _ from rfl)
        have fz := A1.frozen
        have hlt := A1.lt
        have A2 := Arr.old _ (Obj.cells #[.int .u64 (R : Int)] 302) ((A1.set 0 (.int .i64 0)).set 1 (.int .i64 (R : Int)))
        have d0 := (A2.cell 0).trans (show _ = some (.int .i64 0) from rfl)
        have d1 := (A2.cell 1).trans (show _ = some (.int .i64 (R : Int)) from rfl)
        clear A0 B0 K hb A1 A2
        go_wp2_with fail
        refine bodyPost_ret (v := .agg #[.int .i64 0, .int .i64 (R : Int)]) (by simp [results, Tryz.results215, go_sem, d0, d1]) rfl ⟨rfl, ?_⟩
        exact ((B1.setCell (Nat.le_refl _) _).setCell (Nat.le_refl _) _).alloc (by simpa using B1.size) _
set_option maxRecDepth 4000 in
set_option maxHeartbeats 1000000 in
theorem implSh_c (s : Int) (w : World) :
    Calls Tryz.prog 209 #[.int .i64 s] w fun x w' => x = .returned (.agg #[.int .i64 (shC s), .int .i64 (shV s)]) ∧ Below w.heap.size w w' := by
  cases h1 : inB s 1 65519
  · rw [show shC s = 3 by simp [shC, h1], show shV s = 0 by simp [shV, shC, h1]]
    go_enter Tryz.func209, Tryz.ntmps209
    go_wp2_with fail
    refine (isGroupSecret_c s _).mono ?_
    rintro e w' ⟨rfl, rfl⟩
    rw [h1]
    go_wp2
    exact bodyPost_ret (v := .agg #[.int .i64 3, .int .i64 0]) (by simp [results, Tryz.results209, go_sem]) rfl ⟨rfl, alloc_below _ _⟩
  · have h2 : 1 ≤ s ∧ s ≤ 65519 := by simpa [inB] using h1
    have h3 : inB s 0 65521 = true := by simp [inB]; omega
    have e1 : poC 17 s = 0 := by simp [poC, h3, show inB 17 1 65520 = true by decide]
    have K : Hid (∀ w, Calls Tryz.prog 215 #[.int .i64 17, .int .i64 s] w fun x w' => x = .returned (.agg #[.int .i64 0, .int .i64 (shV s)]) ∧ Below w.heap.size w w') := fun w => by
      have h := implPo_c 17 s w
      rw [e1, show poV 17 s = shV s by simp [poV, e1, shV, shC, h1]] at h
      exact h
    rw [show shC s = 0 by simp [shC, h1]]
    clear h2 h3 e1
    generalize shV s = V at *
    have A0 := Arr.new w [.int .i64 0, .int .i64 0] 193
    have B0 := alloc_below w (.cells #[.int .i64 0, .int .i64 0] 193)
    go_enter Tryz.func209, Tryz.ntmps209
    go_wp2_with fail
    refine (isGroupSecret_c _ _).mono ?_
    rintro e w' ⟨rfl, hw⟩
    subst hw
    rw [h1]
    go_wp2_with fail
    refine (K.out _).mono ?_
    rintro e w1 ⟨rfl, hb⟩
    have A1 := A0.stay hb
    have B1 := Below.step B0 hb
    have c0 := (A1.cell 0).trans (show _ = some _ from rfl)
    have c1 := (A1.cell 1).trans (show _ = some _ from rfl)
    have fz := A1.frozen
    clear A0 B0 K hb A1
    go_wp2_with fail
    refine bodyPost_ret (v := .agg #[.int .i64 0, .int .i64 V]) (by simp [results, Tryz.results209, go_sem, c0, c1]) rfl ⟨rfl, ?_⟩
    exact (B1.setCell (Nat.le_refl _) _).setCell (Nat.le_refl _) _
set_option maxRecDepth 4000 in
set_option maxHeartbeats 1000000 in
theorem implSd_c (s b : Int) (w : World) :
    Calls Tryz.prog 163 #[.int .i64 s, .int .i64 b] w fun x w' => x = .returned (.agg #[.int .i64 (sdC s b), .int .i64 (sdV s b)]) ∧ Below w.heap.size w w' := by
  cases h1 : inB s 1 65519
  · rw [show sdC s b = 3 by simp [sdC, h1], show sdV s b = 0 by simp [sdV, sdC, h1]]
    go_enter Tryz.func163, Tryz.ntmps163
    go_wp2_with fail
    refine (isGroupSecret_c s _).mono ?_
    rintro e w' ⟨rfl, rfl⟩
    rw [h1]
    go_wp2
    exact bodyPost_ret (v := .agg #[.int .i64 3, .int .i64 0]) (by simp [results, Tryz.results163, go_sem]) rfl ⟨rfl, alloc_below _ _⟩
  · cases h2 : inB b 1 65520
    · rw [show sdC s b = 3 by simp [sdC, h1, h2], show sdV s b = 0 by simp [sdV, sdC, h1, h2]]
      go_enter Tryz.func163, Tryz.ntmps163
      go_wp2_with fail
      refine (isGroupSecret_c s _).mono ?_
      rintro e w' ⟨rfl, hw⟩
      subst hw
      rw [h1]
      go_wp2_with fail
      refine (isElement_c b _).mono ?_
      rintro e w' ⟨rfl, hw⟩
      subst hw
      rw [h2]
      go_wp2
      exact bodyPost_ret (v := .agg #[.int .i64 3, .int .i64 0]) (by simp [results, Tryz.results163, go_sem]) rfl ⟨rfl, alloc_below _ _⟩
    · have h3 : 1 ≤ s ∧ s ≤ 65519 := by simpa [inB] using h1
      have h4 : inB s 0 65521 = true := by simp [inB]; omega
      have e1 : poC b s = 0 := by simp [poC, h4, h2]
      have e2 : sdC s b = 0 := by simp [sdC, h1, h2]
      have K : Hid (∀ w, Calls Tryz.prog 215 #[.int .i64 b, .int .i64 s] w fun x w' => x = .returned (.agg #[.int .i64 0, .int .i64 (sdV s b)]) ∧ Below w.heap.size w w') := fun w => by
        have h := implPo_c b s w
        rw [e1, show poV b s = sdV s b by simp [poV, e1, sdV, e2]] at h
        exact h
      rw [e2]
      clear h3 h4 e1 e2
      generalize sdV s b = V at *
      have A0 := Arr.new w [.int .i64 0, .int .i64 0] 193
      have B0 := alloc_below w (.cells #[.int .i64 0, .int .i64 0] 193)
      go_enter Tryz.func163, Tryz.ntmps163
      go_wp2_with fail
      refine (isGroupSecret_c _ _).mono ?_
      rintro e w' ⟨rfl, hw⟩
      subst hw
      rw [h1]
      go_wp2_with fail
      refine (isElement_c b _).mono ?_
      rintro e w' ⟨rfl, hw⟩
      subst hw
      rw [h2]
      go_wp2_with fail
      refine (K.out _).mono ?_
      rintro e w1 ⟨rfl, hb⟩
      have A1 := A0.stay hb
      have B1 := Below.step B0 hb
      have c0 := (A1.cell 0).trans (show _ = some _ from rfl)
      have c1 := (A1.cell 1).trans (show _ = some _ from rfl)
      have fz := A1.frozen
      clear A0 B0 K hb A1
      go_wp2_with fail
      refine bodyPost_ret (v := .agg #[.int .i64 0, .int .i64 V]) (by simp [results, Tryz.results163, go_sem, c0, c1]) rfl ⟨rfl, ?_⟩
      exact (B1.setCell (Nat.le_refl _) _).setCell (Nat.le_refl _) _
set_option maxRecDepth 4000 in
set_option maxHeartbeats 1000000 in
theorem implSb_c (v : Int) (w : World) :
    Calls Tryz.prog 166 #[.int .i64 v] w fun e w' => ∃ u, e = .returned (.agg #[.int .i64 (shbC v), u]) ∧ Own w' w.heap.size u (shbL v) ∧ Below w.heap.size w w' := by
  cases h1 : inB v 1 65520
  · rw [show shbC v = 3 by simp [shbC, h1], show shbL v = [] by simp [shbL, shbC, h1]]
    go_enter Tryz.func166, Tryz.ntmps166
    go_wp2_with fail
    refine (isElement_c v _).mono ?_
    rintro e w' ⟨rfl, rfl⟩
    rw [h1]
    go_wp2
    exact bodyPost_ret (v := .agg #[.int .i64 3, .slice none 0 0]) (by simp [results, Tryz.results166, go_sem]) rfl ⟨_, rfl, Own_nil _ _, alloc_below _ _⟩
  · obtain ⟨vn, rfl, -, hb2⟩ := nat_of_in h1 (by decide)
    rw [show shbC (vn : Int) = 0 by simp [shbC, h1], show shbL (vn : Int) = putB vn 2 by simp [shbL, shbC, h1]]
    have hl : (0 : Int) ≤ (vn : Int) / 256 := by omega
    have hh : (vn : Int) / 256 ≤ 255 := by omega
    go_enter Tryz.func166, Tryz.ntmps166
    go_wp2_with fail
    refine (isElement_c _ _).mono ?_
    rintro e w' ⟨rfl, hw⟩
    subst hw
    rw [h1]
    go_wp2_with fail
    refine bodyPost_ret (v := .agg #[.int .i64 0, .slice (some ⟨w.heap.size + 1, 0, none⟩) 2 2]) (by simp [results, Tryz.results166, go_sem]) rfl ⟨_, rfl, ?_, (alloc_below _ _).alloc (by simp) _⟩
    have h := World.ownsRow_lit (base := w.heap.size) (e := 5) (size := 1) (w.alloc (Obj.cells #[Value.int IntKind.i64 0, Value.slice (some { block := w.heap.size + 1, off := 0 }) 2 2] 43)) #[Value.int IntKind.u8 ((vn : Int) / 256), Value.int IntKind.u8 ((vn : Int) % 256)] 2 (by rw [size_alloc]; omega) (by unfold maxLen; decide) (by simp)
    rw [size_alloc] at h
    have e : (putB vn 2).map u8v = [Value.int IntKind.u8 ((vn : Int) / 256), Value.int IntKind.u8 ((vn : Int) % 256)] := by
      have e1 : (((vn / 256 ^ 1 % 256) % 256 : Nat) : Int) = (vn : Int) / 256 := by rw [Nat.pow_one]; omega
      have e2 : (((vn / 256 ^ 0 % 256) % 256 : Nat) : Int) = (vn : Int) % 256 := by rw [Nat.pow_zero, Nat.div_one]; omega
      simp only [putB, List.map_cons, List.map_nil, u8v, UInt8.toNat_ofNat']
      rw [← e1, ← e2]
    unfold Own
    rw [putB_len, e]
    exact h
set_option maxRecDepth 4000 in
set_option maxHeartbeats 1000000 in
theorem implBs_c (p : Option Addr) (q : Nat) (d : List UInt8) (w : World) (hr : Rd w p q d) :
    Calls Tryz.prog 269 #[.slice p d.length q] w fun x w' => x = .returned (.agg #[.int .i64 (bsC d), .int .i64 (bsV d)]) ∧ Below w.heap.size w w' := by
  by_cases h : d.length = 2
  · have d1 : ((d.length : Int) != 2) = false := by rw [bne_eq_false_iff_eq]; omega
    obtain ⟨b, o, rfl, hc⟩ := hr.2.2.2 (by omega)
    have c0 := hc 0 (by omega)
    have c1 := hc 1 (by omega)
    rw [Nat.add_zero] at c0
    have l2 : 2 ≤ d.length := by omega
    have HB : Hid (bsC d = if inB (getB d : Nat) 1 65520 then 0 else 3) := by show _ = _; rw [bsC, if_pos h]
    have HV : Hid (bsV d = if inB (getB d : Nat) 1 65520 then ((getB d : Nat) : Int) else 0) := by
      show _ = _
      rw [bsV, HB.out]
      cases inB ((getB d : Nat) : Int) 1 65520 <;> simp
    have a0 := at8_lo d 0
    have a1 := at8_hi d 0
    have b0 := at8_lo d 1
    have b1 := at8_hi d 1
    have HG : Hid (bits .or .i64 (at8 d 0 * 256) (at8 d 1) = ((getB d : Nat) : Int)) := by
      show _ = _
      match d, h with
      | [x, y], _ =>
        show bits .or .i64 ((x.toNat : Int) * 256) (y.toNat : Int) = _
        rw [or_i64 _ _ x.toNat_lt y.toNat_lt]
        simp [getB]
    rw [HB.out, HV.out]
    clear HB HV h hc hr
    generalize getB d = g at *
    generalize d.length = n at *
    generalize at8 d 0 = x0 at *
    generalize at8 d 1 = x1 at *
    have k0 := cell_keep c0 (alloc_below w (.cells #[.int .i64 0, .int .i64 0] 193))
    have k1 := cell_keep c1 (alloc_below w (.cells #[.int .i64 0, .int .i64 0] 193))
    clear c0 c1
    cases h1 : inB (g : Int) 1 65520
    · simp only [Bool.false_eq_true, if_false]
      go_enter Tryz.func269, Tryz.ntmps269
      go_wp2_with fail
      go_quiet (fail)
      rw [HG.out]
      go_wp2_with fail
      refine (isElement_c _ _).mono ?_
      rintro e w' ⟨rfl, hw⟩
      subst hw
      rw [h1]
      go_wp2
      refine bodyPost_ret (v := .agg #[.int .i64 3, .int .i64 0]) (by simp [results, Tryz.results269, go_sem]) rfl ⟨rfl, ?_⟩
      exact ((below_drewN (alloc_below w _) _).setCell (Nat.le_refl _) _).setCell (Nat.le_refl _) _
    · simp only [if_true]
      go_enter Tryz.func269, Tryz.ntmps269
      go_wp2_with fail
      go_quiet (fail)
      rw [HG.out]
      go_wp2_with fail
      refine (isElement_c _ _).mono ?_
      rintro e w' ⟨rfl, hw⟩
      subst hw
      rw [h1]
      go_wp2
      refine bodyPost_ret (v := .agg #[.int .i64 0, .int .i64 (g : Int)]) (by simp [results, Tryz.results269, go_sem]) rfl ⟨rfl, ?_⟩
      exact ((below_drewN (alloc_below w _) _).setCell (Nat.le_refl _) _).setCell (Nat.le_refl _) _
  · have d1 : ((d.length : Int) != 2) = true := by rw [bne_iff_ne]; omega
    rw [show bsC d = 5 by simp [bsC, h], show bsV d = 0 by simp [bsV, bsC, h]]
    clear h
    go_enter Tryz.func269, Tryz.ntmps269
    go_wp2
    exact bodyPost_ret (v := .agg #[.int .i64 5, .int .i64 0]) (by simp [results, Tryz.results269, go_sem]) rfl ⟨rfl, alloc_below _ _⟩
end Go.Proofs.YtdbpnibcblelbaaGreatDoor
