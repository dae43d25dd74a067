/- The contracts of a round: spec.l2Round and impl.mixed (and what it calls) both answer roundN of their arguments; what was there stays. For words below 2^32. -/
import Derived.Test.YtdbpnibcblelbabGreatDoorJoint4
import Derived.Test.YtdbpnibcblelbabGreatDoorJoint2
import Derived.Test.YtdbpnibcblelbabGreatDoorJoint5
import Derived.Deep.QuietTactic
import Derived.BigQuiet
import Derived.Deep.RegionWith
import Derived.Test.YtdbpnibcblelbabGreatDoorJoint8
import Derived.Test.YtdbpnibcblelbabGreatDoorCod
namespace Go.Proofs.YtdbpnibcblelbabGreatDoor
open Go.ChangeShapes Go.WideShapes Go.ChangeAt Go.RowKit

theorem i64_xor32 {a b : Nat} (ha : a < 4294967296) (hb : b < 4294967296) : bits .xor .i64 (a : Int) (b : Int) = ((a ^^^ b : Nat) : Int) := i64_xor_nat a b (by omega) (by omega)
theorem i64_and32 {a b : Nat} (ha : a < 4294967296) (hb : b < 4294967296) : bits .and .i64 (a : Int) (b : Int) = ((a &&& b : Nat) : Int) := i64_and_nat a b (by omega) (by omega)

theorem l1Turn_l (v n : Nat) (m : Int) (hm : m = n) (w : World) (h2 : v < 4294967296) (h3 : 1 ≤ n) (h4 : n ≤ 31) :
    Calls Tryz.prog 108 #[.int .i64 v, .int .i64 m] w fun e w' => e = .returned (.int .i64 (rotN v n : Nat)) ∧ w' = w := by
  subst hm; exact l1Turn_c v n w h2 h3 h4
set_option maxHeartbeats 1000000 in
theorem l2Round_c (a b c d e f g h word key : Nat) (w : World) (ha : a < 4294967296) (hb : b < 4294967296) (hc : c < 4294967296) (hd : d < 4294967296) (he : e < 4294967296) (hf : f < 4294967296) (hg : g < 4294967296) (hh : h < 4294967296) (hw : word < 4294967296) (hk : key < 4294967296) :
    Calls Tryz.prog 93 #[.agg #[.int .i64 a, .int .i64 b, .int .i64 c, .int .i64 d, .int .i64 e, .int .i64 f, .int .i64 g, .int .i64 h], .int .i64 word, .int .i64 key] w fun r w' => r = .returned (.agg (roundN ⟨a, b, c, d, e, f, g, h⟩ word key).i64) ∧ Below w.heap.size w w' := by
  have x1 := i64_xor32 (rotN_lt e 6 he (by decide)) (rotN_lt e 11 he (by decide))
  have x2 : bits .xor .i64 _ _ = ((rot3 e 6 11 25 : Nat) : Int) := i64_xor32 (xor_lt32 (rotN_lt e 6 he (by decide)) (rotN_lt e 11 he (by decide))) (rotN_lt e 25 he (by decide))
  have y1 := i64_xor32 (rotN_lt a 2 ha (by decide)) (rotN_lt a 13 ha (by decide))
  have y2 : bits .xor .i64 _ _ = ((rot3 a 2 13 22 : Nat) : Int) := i64_xor32 (xor_lt32 (rotN_lt a 2 ha (by decide)) (rotN_lt a 13 ha (by decide))) (rotN_lt a 22 ha (by decide))
  have z1 := i64_and32 he hf
  have z2 : bits .and .i64 (4294967295 - (e : Int)) (g : Int) = (((4294967295 - e) &&& g : Nat) : Int) := by
    rw [show 4294967295 - (e : Int) = ((4294967295 - e : Nat) : Int) by omega]; exact i64_and32 (by omega) hg
  have z3 : bits .xor .i64 ((e &&& f : Nat) : Int) (((4294967295 - e) &&& g : Nat) : Int) = ((chN e f g : Nat) : Int) := i64_xor32 (and_lt32 he) (and_lt32 (by omega))
  have m1 := i64_and32 ha hb
  have m2 := i64_and32 ha hc
  have m3 := i64_and32 hb hc
  have m4 := i64_xor32 (and_lt32 (b := b) ha) (and_lt32 (b := c) ha)
  have m5 : bits .xor .i64 (((a &&& b) ^^^ (a &&& c) : Nat) : Int) ((b &&& c : Nat) : Int) = ((majN a b c : Nat) : Int) := i64_xor32 (xor_lt32 (and_lt32 ha) (and_lt32 ha)) (and_lt32 hb)
  have b1 : ((rot3 e 6 11 25 : Nat) : Int) ≤ 4294967295 := by have := rot3_lt (i := 6) (j := 11) (k := 25) he (by decide) (by decide) (by decide); omega
  have b2 : ((rot3 a 2 13 22 : Nat) : Int) ≤ 4294967295 := by have := rot3_lt (i := 2) (j := 13) (k := 22) ha (by decide) (by decide) (by decide); omega
  have b3 : ((chN e f g : Nat) : Int) ≤ 4294967295 := by have := chN_lt (f := f) (g := g) he; omega
  have b4 : ((majN a b c : Nat) : Int) ≤ 4294967295 := by have := majN_lt (c := c) ha hb; omega
  go_enter Tryz.func93, Tryz.ntmps93
  go_wp2_with fail
  refine (l1Turn_l e 6 _ rfl _ he (by decide) (by decide)).mono ?_
  rintro r w' ⟨rfl, rfl⟩
  go_wp2_with fail
  refine (l1Turn_l e 11 _ rfl _ he (by decide) (by decide)).mono ?_
  rintro r w' ⟨rfl, rfl⟩
  go_wp2_with fail
  refine (l1Turn_l e 25 _ rfl _ he (by decide) (by decide)).mono ?_
  rintro r w' ⟨rfl, rfl⟩
  go_wp2_with fail
  refine (l1Turn_l a 2 _ rfl _ ha (by decide) (by decide)).mono ?_
  rintro r w' ⟨rfl, rfl⟩
  go_wp2_with fail
  refine (l1Turn_l a 13 _ rfl _ ha (by decide) (by decide)).mono ?_
  rintro r w' ⟨rfl, rfl⟩
  go_wp2_with fail
  refine (l1Turn_l a 22 _ rfl _ ha (by decide) (by decide)).mono ?_
  rintro r w' ⟨rfl, rfl⟩
  go_wp2
  have E1 : (((h : Int) + (rot3 e 6 11 25 : Nat) + (chN e f g : Nat) + key + word + ((rot3 a 2 13 22 : Nat) + (majN a b c : Nat))) % 4294967296) = (((t1N ⟨a, b, c, d, e, f, g, h⟩ word key + t2N ⟨a, b, c, d, e, f, g, h⟩) % 4294967296 : Nat) : Int) := by simp only [t1N, t2N]; omega
  have E2 : (((d : Int) + (h + (rot3 e 6 11 25 : Nat) + (chN e f g : Nat) + key + word)) % 4294967296) = (((d + t1N ⟨a, b, c, d, e, f, g, h⟩ word key) % 4294967296 : Nat) : Int) := by simp only [t1N]; omega
  rw [E1, E2]
  exact bodyPost_ret (v := .agg (roundN ⟨a, b, c, d, e, f, g, h⟩ word key).i64) (by simp [results, Tryz.results93, go_sem]; rfl) rfl ⟨rfl, Below.mk (alloc_below _ _) _⟩

theorem turnRight_l (v n : Nat) (m : Int) (hm : m = n) (w : World) (h2 : v < 4294967296) (h4 : n ≤ 31) :
    Calls Tryz.prog 140 #[.int .u32 v, .int .i64 m] w fun e w' => e = .returned (.int .u32 (rotN v n : Nat)) ∧ w' = w := by
  subst hm; exact turnRight_c v n w h2 h4
set_option maxHeartbeats 1000000 in
theorem turnedThrice_c (x i j k : Nat) (w : World) (hx : x < 4294967296) (hi : i ≤ 31) (hj : j ≤ 31) (hk : k ≤ 31) :
    Calls Tryz.prog 134 #[.int .u32 x, .int .i64 i, .int .i64 j, .int .i64 k] w fun e w' => e = .returned (.int .u32 (rot3 x i j k : Nat)) ∧ w' = w := by
  have x1 := u32_xor_nat _ _ (rotN_lt x i hx (by omega)) (rotN_lt x j hx (by omega))
  have x2 : bits .xor .u32 _ _ = ((rot3 x i j k : Nat) : Int) := u32_xor_nat _ _ (xor_lt32 (rotN_lt x i hx (by omega)) (rotN_lt x j hx (by omega))) (rotN_lt x k hx (by omega))
  go_enter Tryz.func134, Tryz.ntmps134
  go_wp2_with fail
  refine (turnRight_c x i _ hx hi).mono ?_
  rintro r w' ⟨rfl, rfl⟩
  go_wp2_with fail
  refine (turnRight_c x j _ hx hj).mono ?_
  rintro r w' ⟨rfl, rfl⟩
  go_wp2_with fail
  refine (turnRight_c x k _ hx hk).mono ?_
  rintro r w' ⟨rfl, rfl⟩
  go_wp2
  go_ret
  exact ⟨rfl, rfl⟩
theorem turnedThrice_l (x i j k : Nat) (m n o : Int) (hm : m = i) (hn : n = j) (ho : o = k) (w : World) (hx : x < 4294967296) (hi : i ≤ 31) (hj : j ≤ 31) (hk : k ≤ 31) :
    Calls Tryz.prog 134 #[.int .u32 x, .int .i64 m, .int .i64 n, .int .i64 o] w fun e w' => e = .returned (.int .u32 (rot3 x i j k : Nat)) ∧ w' = w := by
  subst hm hn ho; exact turnedThrice_c x i j k w hx hi hj hk

set_option maxHeartbeats 1000000 in
theorem turnedTwice_c (x i j k : Nat) (w : World) (hx : x < 4294967296) (hi : i ≤ 31) (hj : j ≤ 31) (hk : k ≤ 31) :
    Calls Tryz.prog 133 #[.int .u32 x, .int .i64 i, .int .i64 j, .int .i64 k] w fun e w' => e = .returned (.int .u32 (sh2 x i j k : Nat)) ∧ ∃ n, w' = w.drewN n := by
  have x1 := u32_xor_nat _ _ (rotN_lt x i hx (by omega)) (rotN_lt x j hx (by omega))
  have x2 : bits .xor .u32 ((rotN x i ^^^ rotN x j : Nat) : Int) ((x : Int) / 2 ^ k) = ((sh2 x i j k : Nat) : Int) := by
    rw [show ((x : Int) / 2 ^ k) = ((x / 2 ^ k : Nat) : Int) by push_cast; rfl]
    exact u32_xor_nat _ _ (xor_lt32 (rotN_lt x i hx (by omega)) (rotN_lt x j hx (by omega))) (Nat.lt_of_le_of_lt (Nat.div_le_self x (2 ^ k)) hx)
  go_enter Tryz.func133, Tryz.ntmps133
  go_wp2
  go_quiet ((first | (go_at_call_of 140 (Value.int .i64 (i : Int)); exact Calls.quiet_of_same (turnRight_c x i _ hx hi)) | (go_at_call_of 140 (Value.int .i64 (j : Int)); exact Calls.quiet_of_same (turnRight_c x j _ hx hj))))
  go_wp2
  go_ret
  exact ⟨rfl, _, rfl⟩

theorem not32 (e : Nat) (h : e < 4294967296) : bits .xor .u32 IntKind.u32.max (e : Int) = ((4294967295 - e : Nat) : Int) := by
  have h1 : IntKind.u32.max = ((4294967295 : Nat) : Int) := by decide
  rw [h1, u32_xor_nat _ _ (by decide) h]
  congr 1
  have h2 : (BitVec.allOnes 32 ^^^ BitVec.ofNat 32 e).toNat = 4294967295 ^^^ e := by
    rw [BitVec.toNat_xor, BitVec.toNat_allOnes, BitVec.toNat_ofNat, Nat.mod_eq_of_lt (by omega)]
  rw [← h2, BitVec.allOnes_xor, BitVec.toNat_not, BitVec.toNat_ofNat, Nat.mod_eq_of_lt (by omega)]

set_option maxHeartbeats 1000000 in
theorem mixed_c (a b c d e f g q word key : Nat) (w : World) (ha : a < 4294967296) (hb : b < 4294967296) (hc : c < 4294967296) (he : e < 4294967296) (hf : f < 4294967296) (hg : g < 4294967296) :
    Calls Tryz.prog 120 #[.agg #[.int .u32 a, .int .u32 b, .int .u32 c, .int .u32 d, .int .u32 e, .int .u32 f, .int .u32 g, .int .u32 q], .int .u32 word, .int .u32 key] w fun r w' => r = .returned (.agg (roundN ⟨a, b, c, d, e, f, g, q⟩ word key).u32) ∧ Below w.heap.size w w' := by
  have z1 := u32_and_nat _ _ he hf
  have z2 := u32_and_nat (4294967295 - e) g (by omega) hg
  have z3 : bits .xor .u32 ((e &&& f : Nat) : Int) (((4294967295 - e) &&& g : Nat) : Int) = ((chN e f g : Nat) : Int) := u32_xor_nat _ _ (and_lt32 he) (and_lt32 (by omega))
  have m1 := u32_and_nat _ _ ha hb
  have m2 := u32_and_nat _ _ ha hc
  have m3 := u32_and_nat _ _ hb hc
  have m4 := u32_xor_nat _ _ (and_lt32 (b := b) ha) (and_lt32 (b := c) ha)
  have m5 : bits .xor .u32 (((a &&& b) ^^^ (a &&& c) : Nat) : Int) ((b &&& c : Nat) : Int) = ((majN a b c : Nat) : Int) := u32_xor_nat _ _ (xor_lt32 (and_lt32 ha) (and_lt32 ha)) (and_lt32 hb)
  have n1 := not32 e he
  go_enter Tryz.func120, Tryz.ntmps120
  go_wp2
  go_quiet (fail)
  go_wp2_with fail
  refine wp_region_again (by kernel_rfl) (by kernel_rfl) ?_
  repeat (go_big_quiet_step ((go_at_call 134; exact Calls.quiet_of_same (turnedThrice_l e 6 11 25 _ _ _ rfl rfl rfl _ he (by decide) (by decide) (by decide)))))
  refine wpQuiet_nil ?_
  rintro _ ⟨nr, rfl⟩
  go_wp2_with fail
  refine (turnedThrice_l a 2 13 22 _ _ _ rfl rfl rfl _ ha (by decide) (by decide) (by decide)).mono ?_
  rintro r w' ⟨rfl, rfl⟩
  go_wp2
  have E1 : (((q : Int) + (rot3 e 6 11 25 : Nat) + (chN e f g : Nat) + key + word + ((rot3 a 2 13 22 : Nat) + (majN a b c : Nat))) % 4294967296) = (((t1N ⟨a, b, c, d, e, f, g, q⟩ word key + t2N ⟨a, b, c, d, e, f, g, q⟩) % 4294967296 : Nat) : Int) := by simp only [t1N, t2N]; omega
  have E2 : (((d : Int) + (q + (rot3 e 6 11 25 : Nat) + (chN e f g : Nat) + key + word)) % 4294967296) = (((d + t1N ⟨a, b, c, d, e, f, g, q⟩ word key) % 4294967296 : Nat) : Int) := by simp only [t1N]; omega
  rw [E1, E2]
  exact bodyPost_ret (v := .agg (roundN ⟨a, b, c, d, e, f, g, q⟩ word key).u32) (by simp [results, Tryz.results120, go_sem]; rfl) rfl ⟨rfl, ((((((((below_drewN (Below.mk (alloc_below _ _) _) _).setCell (Nat.le_succ _) _).setCell (Nat.le_succ _) _).setCell (Nat.le_succ _) _).setCell (Nat.le_succ _) _).setCell (Nat.le_succ _) _).setCell (Nat.le_succ _) _).setCell (Nat.le_succ _) _).setCell (Nat.le_succ _) _⟩

end Go.Proofs.YtdbpnibcblelbabGreatDoor

/- The contract of the laws' count of bytes: szByteS. -/
namespace Go.Proofs.YtdbpnibcblelbabGreatDoor
open Go.ChangeShapes Go.WideShapes Go.ChangeAt Go.RowKit

set_option maxRecDepth 4000 in
set_option maxHeartbeats 400000 in
theorem szByteS_c (p : Option Addr) (q n : Nat) (left : Int) (w : World) (hn : n ≤ q) (hq : q ≤ 2 ^ 63 - 1) (h0 : 0 ≤ left) (h1 : left ≤ 1048576) :
    Calls Tryz.prog 37 #[.slice p n q, .int .i64 left] w fun e w' => e = .returned (.int .i64 (szR n left)) ∧ w' = w := by
  have hw : wrap64 (left - (n : Int)) = left - n := by unfold wrap64; omega
  by_cases h : (n : Int) ≤ left
  · rw [show szR n left = left - n by rw [szR, if_pos h]]
    have h2 : ¬ (left - (n : Int) < 0) := by omega
    go_enter Tryz.func37, Tryz.ntmps37
    go_wp2
    go_ret
    exact ⟨rfl, rfl⟩
  · rw [show szR n left = -1 by rw [szR, if_neg h]]
    have h2 : left - (n : Int) < 0 := by omega
    go_enter Tryz.func37, Tryz.ntmps37
    go_wp2
    go_ret
    exact ⟨rfl, rfl⟩
end Go.Proofs.YtdbpnibcblelbabGreatDoor

/- The laws' helpers on bytes, said of data that lies in memory ('Cod'): toByteS, szByteS, markByteS, heldByteS; what a call that writes in just these blocks leaves of an array. -/
namespace Go.Proofs.YtdbpnibcblelbabGreatDoor
open Go.ChangeShapes Go.WideShapes Go.ChangeAt Go.RowKit

theorem Arr.only {w w' : World} {g : Nat} {t : TypeId} {vs : List Value} {fp : List Nat} (h : Arr w g t vs) (ho : Only fp w w') (hn : g ∉ fp) : Arr w' g t vs := (ho.block g h.lt hn).trans h
theorem Only.trans_sub {fp f : List Nat} {a b c : World} (h : Only fp a b) (k : Only f b c) (hs : ∀ x, x ∈ f → x ∈ fp) : Only fp a c := h.trans (k.more hs)
theorem nodup_apart {f g : List Nat} (h : (f ++ g).Nodup) : ∀ k, k ∈ f → k ∉ g := fun k h1 h2 => (List.nodup_append.1 h).2.2 k h1 k h2 rfl
theorem nodup_apart' {f g : List Nat} (h : (f ++ g).Nodup) : ∀ k, k ∈ g → k ∉ f := fun k h1 h2 => (List.nodup_append.1 h).2.2 k h2 k h1 rfl
theorem Cod.set {α : Type} (c : Cod α) {w : World} {B : Nat} {a : α} {us : List Value} {fp : List Nat} (h : c.own w B a us fp) {p : Addr} (hp : p.block < B) (u : Value) : c.own (w.setCell p u) B a us fp :=
  c.fr h fun k hk => heap_setCell_other _ _ k _ (by have := (c.ins h k hk).1; omega)
theorem own_int {w : World} {B : Nat} {z : Int} {k : IntKind} : (intC k).own w B z [.int k z] [] := ⟨rfl, rfl⟩
theorem lt_nil {m : Nat} : ∀ k, k ∈ ([] : List Nat) → k < m := fun _ h => by cases h
theorem ge_nil {m : Nat} : ∀ k, k ∈ ([] : List Nat) → m ≤ k := fun _ h => by cases h
theorem ge_app {f g : List Nat} {m : Nat} (h1 : ∀ k, k ∈ f → m ≤ k) (h2 : ∀ k, k ∈ g → m ≤ k) : ∀ k, k ∈ f ++ g → m ≤ k := fun k hk => (List.mem_append.1 hk).elim (h1 k) (h2 k)
theorem byt_own {w : World} {B : Nat} {u : Value} {bs : List UInt8} (h : Own w B u bs) : bytC.own w B bs [u] u.ownBlock.toList := ⟨u, rfl, h, rfl⟩
theorem own_pair {α β : Type} {c : Cod α} {d : Cod β} {w : World} {B : Nat} {a : α × β} {us ts : List Value} {f g : List Nat} (m : Nat) (h1 : c.own w B a.1 us f) (h2 : d.own w B a.2 ts g) (hf : ∀ k, k ∈ f → k < m) (hg : ∀ k, k ∈ g → m ≤ k) : (prodC c d).own w B a (us ++ ts) (f ++ g) :=
  ⟨us, ts, f, g, rfl, rfl, List.nodup_append.2 ⟨c.nd h1, d.nd h2, fun x hx y hy e => by subst e; have := hf x hx; have := hg x hy; omega⟩, h1, h2⟩
theorem toByteS_k (a : List UInt8) (u : Value) (w : World) (h : bytC.rep w a [u]) (hl : a.length ≤ 1048576) :
    Calls Tryz.prog 7 #[u] w fun e w' => ∃ v fp, e = .returned v ∧ bytC.own w' w.heap.size a [v] fp ∧ Below w.heap.size w w' := by
  obtain ⟨p, q, e1, r⟩ := h
  simp only [List.cons.injEq, and_true] at e1
  subst e1
  refine (toByteS_c p q a w r hl).mono ?_
  rintro e w' ⟨v, rfl, o, hb⟩
  exact ⟨v, _, rfl, ⟨v, rfl, o, rfl⟩, hb⟩
theorem eqByteS_k (a : List UInt8) (u v : Value) (w : World) (h1 : bytC.rep w a [u]) (h2 : bytC.rep w a [v]) :
    Calls Tryz.prog 12 #[u, v] w fun e w' => e = .returned (.bool true) ∧ Below w.heap.size w w' := by
  obtain ⟨p, q, e1, r⟩ := h1
  obtain ⟨p2, q2, e2, r2⟩ := h2
  simp only [List.cons.injEq, and_true] at e1 e2
  subst e1 e2
  exact eqByteS_c p p2 q q2 a w r r2
theorem szByteS_k (a : List UInt8) (u : Value) (left : Int) (w : World) (h : bytC.rep w a [u]) (h0 : 0 ≤ left) (h1 : left ≤ 1048576) :
    Calls Tryz.prog 37 #[u, .int .i64 left] w fun e w' => e = .returned (.int .i64 (szR a.length left)) ∧ Below w.heap.size w w' := by
  obtain ⟨p, q, e1, r⟩ := h
  simp only [List.cons.injEq, and_true] at e1
  subst e1
  refine (szByteS_c p q a.length left w r.1 r.2.1 h0 h1).mono ?_
  rintro e w' ⟨rfl, rfl⟩
  exact ⟨rfl, Below.refl _ _⟩
theorem markByteS_k (a : List UInt8) (v : Value) (fp : List Nat) (B m : Nat) (mi : Int) (hmi : mi = (m : Int)) (w : World) (h : bytC.own w B a [v] fp) (hm : m + a.length ≤ 1000000000000) :
    Calls Tryz.prog 15 #[v, .int .i64 mi] w fun e w' => e = .returned (.int .i64 (mi + (a.length : Int))) ∧ bytC.own w' B (marks m a.length) [v] fp ∧ Only fp w w' := by
  subst hmi
  obtain ⟨u, e1, o, rfl⟩ := h
  simp only [List.cons.injEq, and_true] at e1
  subst e1
  refine (markByteS_c B v a m w o hm).mono ?_
  rintro e w' ⟨rfl, o1, hg⟩
  exact ⟨rfl, ⟨v, rfl, o1, rfl⟩, Only.grown hg⟩
theorem heldByteS_k (bs : List UInt8) (p : Option Addr) (q n m : Nat) (hb : bs = marks m n) (mi : Int) (hmi : mi = (m : Int)) (w : World) (hr : Rd w p q bs) (hm : m + n ≤ 1048577) :
    Calls Tryz.prog 57 #[.slice p bs.length q, .int .i64 mi] w fun e w' => e = .returned (.int .i64 (mi + (n : Int))) ∧ w' = w := by
  subst hmi hb
  rw [marks_len]
  exact heldByteS_c p q n m w hr hm
end Go.Proofs.YtdbpnibcblelbabGreatDoor

