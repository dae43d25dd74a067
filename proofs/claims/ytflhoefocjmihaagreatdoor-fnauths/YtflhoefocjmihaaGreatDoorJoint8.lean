/- The contracts of a round: spec.l2Round and impl.mixed (and what it calls) both answer roundN of their arguments; what was there stays. For words below 2^32. -/
import Derived.Test.YtflhoefocjmihaaGreatDoorJoint4
import Derived.Test.YtflhoefocjmihaaGreatDoorJoint2
import Derived.Test.YtflhoefocjmihaaGreatDoorJoint5
import Derived.Deep.QuietTactic
import Derived.BigQuiet
import Derived.Deep.RegionWith
import Derived.Test.YtflhoefocjmihaaGreatDoorJoint7
import Derived.Test.YtflhoefocjmihaaGreatDoorCod
namespace Go.Proofs.YtflhoefocjmihaaGreatDoor
open Go.ChangeShapes Go.WideShapes Go.ChangeAt Go.RowKit

theorem i64_xor32 {a b : Nat} (ha : a < 4294967296) (hb : b < 4294967296) : bits .xor .i64 (a : Int) (b : Int) = ((a ^^^ b : Nat) : Int) := i64_xor_nat a b (by omega) (by omega)
theorem i64_and32 {a b : Nat} (ha : a < 4294967296) (hb : b < 4294967296) : bits .and .i64 (a : Int) (b : Int) = ((a &&& b : Nat) : Int) := i64_and_nat a b (by omega) (by omega)

theorem l1Turn_l (v n : Nat) (m : Int) (hm : m = n) (w : World) (h2 : v < 4294967296) (h3 : 1 ≤ n) (h4 : n ≤ 31) :
    Calls Tryz.prog 168 #[.int .i64 v, .int .i64 m] w fun e w' => e = .returned (.int .i64 (rotN v n : Nat)) ∧ w' = w := by
  subst hm; exact l1Turn_c v n w h2 h3 h4
set_option maxHeartbeats 1000000 in
theorem l2Round_c (a b c d e f g h word key : Nat) (w : World) (ha : a < 4294967296) (hb : b < 4294967296) (hc : c < 4294967296) (hd : d < 4294967296) (he : e < 4294967296) (hf : f < 4294967296) (hg : g < 4294967296) (hh : h < 4294967296) (hw : word < 4294967296) (hk : key < 4294967296) :
    Calls Tryz.prog 145 #[.agg #[.int .i64 a, .int .i64 b, .int .i64 c, .int .i64 d, .int .i64 e, .int .i64 f, .int .i64 g, .int .i64 h], .int .i64 word, .int .i64 key] w fun r w' => r = .returned (.agg (roundN ⟨a, b, c, d, e, f, g, h⟩ word key).i64) ∧ Below w.heap.size w w' := by
  have x1 := i64_xor32 (rotN_lt e 6 he (by decide)) (rotN_lt e 11 he (by decide))
  have x2 : bits .xor .i64 _ _ = ((rot3 e 6 11 25 : Nat) : Int) := i64_xor32 (xor_lt32 (rotN_lt e 6 he (by decide)) (rotN_lt e 11 he (by decide))) (rotN_lt e 25 he (by decide))
  have y1 := i64_xor32 (rotN_lt a 2 ha (by decide)) (rotN_lt a 13 ha (by decide))
  have y2 : bits .xor .i64 _ _ = ((rot3 a 2 13 22 : Nat) : Int) := i64_xor32 (xor_lt32 (rotN_lt a 2 ha (by decide)) (rotN_lt a 13 ha (by decide))) (rotN_lt a 22 ha (by decide))
  have z1 := i64_and32 he hf
  have z2 : bits .and .i64 (4294967295 - (e : Int)) (g : Int) = (((4294967295 - e) &&& g : Nat) : Int) := by
    rw [show 4294967295 - (e : Int) = ((4294967295 - e : Nat) : Int) by omega]; exact i64_and32 (by omega) hg
  have z3 : bits .xor .i64 ((e &&& f : Nat) : Int) (((4294967295 - e) &&& g : Nat) : Int) = ((chN e f g : Nat) : Int) := i64_xor32 (and_lt32 he) (and_lt32 (by omega))
  have m1 := i64_and32 ha hb
  have m2 := i64_and32 ha hc
  have m3 := i64_and32 hb hc
  have m4 := i64_xor32 (and_lt32 (b := b) ha) (and_lt32 (b := c) ha)
  have m5 : bits .xor .i64 (((a &&& b) ^^^ (a &&& c) : Nat) : Int) ((b &&& c : Nat) : Int) = ((majN a b c : Nat) : Int) := i64_xor32 (xor_lt32 (and_lt32 ha) (and_lt32 ha)) (and_lt32 hb)
  have b1 : ((rot3 e 6 11 25 : Nat) : Int) ≤ 4294967295 := by have := rot3_lt (i := 6) (j := 11) (k := 25) he (by decide) (by decide) (by decide); omega
  have b2 : ((rot3 a 2 13 22 : Nat) : Int) ≤ 4294967295 := by have := rot3_lt (i := 2) (j := 13) (k := 22) ha (by decide) (by decide) (by decide); omega
  have b3 : ((chN e f g : Nat) : Int) ≤ 4294967295 := by have := chN_lt (f := f) (g := g) he; omega
  have b4 : ((majN a b c : Nat) : Int) ≤ 4294967295 := by have := majN_lt (c := c) ha hb; omega
  go_enter Tryz.func145, Tryz.ntmps145
  go_wp2_with fail
  refine (l1Turn_l e 6 _ rfl _ he (by decide) (by decide)).mono ?_
  rintro r w' ⟨rfl, rfl⟩
  go_wp2_with fail
  refine (l1Turn_l e 11 _ rfl _ he (by decide) (by decide)).mono ?_
  rintro r w' ⟨rfl, rfl⟩
  go_wp2_with fail
  refine (l1Turn_l e 25 _ rfl _ he (by decide) (by decide)).mono ?_
  rintro r w' ⟨rfl, rfl⟩
  go_wp2_with fail
  refine (l1Turn_l a 2 _ rfl _ ha (by decide) (by decide)).mono ?_
  rintro r w' ⟨rfl, rfl⟩
  go_wp2_with fail
  refine (l1Turn_l a 13 _ rfl _ ha (by decide) (by decide)).mono ?_
  rintro r w' ⟨rfl, rfl⟩
  go_wp2_with fail
  refine (l1Turn_l a 22 _ rfl _ ha (by decide) (by decide)).mono ?_
  rintro r w' ⟨rfl, rfl⟩
  go_wp2
  have E1 : (((h : Int) + (rot3 e 6 11 25 : Nat) + (chN e f g : Nat) + key + word + ((rot3 a 2 13 22 : Nat) + (majN a b c : Nat))) % 4294967296) = (((t1N ⟨a, b, c, d, e, f, g, h⟩ word key + t2N ⟨a, b, c, d, e, f, g, h⟩) % 4294967296 : Nat) : Int) := by simp only [t1N, t2N]; omega
  have E2 : (((d : Int) + (h + (rot3 e 6 11 25 : Nat) + (chN e f g : Nat) + key + word)) % 4294967296) = (((d + t1N ⟨a, b, c, d, e, f, g, h⟩ word key) % 4294967296 : Nat) : Int) := by simp only [t1N]; omega
  rw [E1, E2]
  exact bodyPost_ret (v := .agg (roundN ⟨a, b, c, d, e, f, g, h⟩ word key).i64) (by simp [results, Tryz.results145, go_sem]; rfl) rfl ⟨rfl, Below.mk (alloc_below _ _) _⟩

theorem turnRight_l (v n : Nat) (m : Int) (hm : m = n) (w : World) (h2 : v < 4294967296) (h4 : n ≤ 31) :
    Calls Tryz.prog 185 #[.int .u32 v, .int .i64 m] w fun e w' => e = .returned (.int .u32 (rotN v n : Nat)) ∧ w' = w := by
  subst hm; exact turnRight_c v n w h2 h4
set_option maxHeartbeats 1000000 in
theorem turnedThrice_c (x i j k : Nat) (w : World) (hx : x < 4294967296) (hi : i ≤ 31) (hj : j ≤ 31) (hk : k ≤ 31) :
    Calls Tryz.prog 175 #[.int .u32 x, .int .i64 i, .int .i64 j, .int .i64 k] w fun e w' => e = .returned (.int .u32 (rot3 x i j k : Nat)) ∧ w' = w := by
  have x1 := u32_xor_nat _ _ (rotN_lt x i hx (by omega)) (rotN_lt x j hx (by omega))
  have x2 : bits .xor .u32 _ _ = ((rot3 x i j k : Nat) : Int) := u32_xor_nat _ _ (xor_lt32 (rotN_lt x i hx (by omega)) (rotN_lt x j hx (by omega))) (rotN_lt x k hx (by omega))
  go_enter Tryz.func175, Tryz.ntmps175
  go_wp2_with fail
  refine (turnRight_c x i _ hx hi).mono ?_
  rintro r w' ⟨rfl, rfl⟩
  go_wp2_with fail
  refine (turnRight_c x j _ hx hj).mono ?_
  rintro r w' ⟨rfl, rfl⟩
  go_wp2_with fail
  refine (turnRight_c x k _ hx hk).mono ?_
  rintro r w' ⟨rfl, rfl⟩
  go_wp2
  go_ret
  exact ⟨rfl, rfl⟩
theorem turnedThrice_l (x i j k : Nat) (m n o : Int) (hm : m = i) (hn : n = j) (ho : o = k) (w : World) (hx : x < 4294967296) (hi : i ≤ 31) (hj : j ≤ 31) (hk : k ≤ 31) :
    Calls Tryz.prog 175 #[.int .u32 x, .int .i64 m, .int .i64 n, .int .i64 o] w fun e w' => e = .returned (.int .u32 (rot3 x i j k : Nat)) ∧ w' = w := by
  subst hm hn ho; exact turnedThrice_c x i j k w hx hi hj hk

set_option maxHeartbeats 1000000 in
theorem turnedTwice_c (x i j k : Nat) (w : World) (hx : x < 4294967296) (hi : i ≤ 31) (hj : j ≤ 31) (hk : k ≤ 31) :
    Calls Tryz.prog 174 #[.int .u32 x, .int .i64 i, .int .i64 j, .int .i64 k] w fun e w' => e = .returned (.int .u32 (sh2 x i j k : Nat)) ∧ ∃ n, w' = w.drewN n := by
  have x1 := u32_xor_nat _ _ (rotN_lt x i hx (by omega)) (rotN_lt x j hx (by omega))
  have x2 : bits .xor .u32 ((rotN x i ^^^ rotN x j : Nat) : Int) ((x : Int) / 2 ^ k) = ((sh2 x i j k : Nat) : Int) := by
    rw [show ((x : Int) / 2 ^ k) = ((x / 2 ^ k : Nat) : Int) by push_cast; rfl]
    exact u32_xor_nat _ _ (xor_lt32 (rotN_lt x i hx (by omega)) (rotN_lt x j hx (by omega))) (Nat.lt_of_le_of_lt (Nat.div_le_self x (2 ^ k)) hx)
  go_enter Tryz.func174, Tryz.ntmps174
  go_wp2
  go_quiet ((first | (go_at_call_of 185 (Value.int .i64 (i : Int)); exact Calls.quiet_of_same (turnRight_c x i _ hx hi)) | (go_at_call_of 185 (Value.int .i64 (j : Int)); exact Calls.quiet_of_same (turnRight_c x j _ hx hj))))
  go_wp2
  go_ret
  exact ⟨rfl, _, rfl⟩

theorem not32 (e : Nat) (h : e < 4294967296) : bits .xor .u32 IntKind.u32.max (e : Int) = ((4294967295 - e : Nat) : Int) := by
  have h1 : IntKind.u32.max = ((4294967295 : Nat) : Int) := by decide
  rw [h1, u32_xor_nat _ _ (by decide) h]
  congr 1
  have h2 : (BitVec.allOnes 32 ^^^ BitVec.ofNat 32 e).toNat = 4294967295 ^^^ e := by
    rw [BitVec.toNat_xor, BitVec.toNat_allOnes, BitVec.toNat_ofNat, Nat.mod_eq_of_lt (by omega)]
  rw [← h2, BitVec.allOnes_xor, BitVec.toNat_not, BitVec.toNat_ofNat, Nat.mod_eq_of_lt (by omega)]

set_option maxHeartbeats 1000000 in
theorem mixed_c (a b c d e f g q word key : Nat) (w : World) (ha : a < 4294967296) (hb : b < 4294967296) (hc : c < 4294967296) (he : e < 4294967296) (hf : f < 4294967296) (hg : g < 4294967296) :
    Calls Tryz.prog 153 #[.agg #[.int .u32 a, .int .u32 b, .int .u32 c, .int .u32 d, .int .u32 e, .int .u32 f, .int .u32 g, .int .u32 q], .int .u32 word, .int .u32 key] w fun r w' => r = .returned (.agg (roundN ⟨a, b, c, d, e, f, g, q⟩ word key).u32) ∧ Below w.heap.size w w' := by
  have z1 := u32_and_nat _ _ he hf
  have z2 := u32_and_nat (4294967295 - e) g (by omega) hg
  have z3 : bits .xor .u32 ((e &&& f : Nat) : Int) (((4294967295 - e) &&& g : Nat) : Int) = ((chN e f g : Nat) : Int) := u32_xor_nat _ _ (and_lt32 he) (and_lt32 (by omega))
  have m1 := u32_and_nat _ _ ha hb
  have m2 := u32_and_nat _ _ ha hc
  have m3 := u32_and_nat _ _ hb hc
  have m4 := u32_xor_nat _ _ (and_lt32 (b := b) ha) (and_lt32 (b := c) ha)
  have m5 : bits .xor .u32 (((a &&& b) ^^^ (a &&& c) : Nat) : Int) ((b &&& c : Nat) : Int) = ((majN a b c : Nat) : Int) := u32_xor_nat _ _ (xor_lt32 (and_lt32 ha) (and_lt32 ha)) (and_lt32 hb)
  have n1 := not32 e he
  go_enter Tryz.func153, Tryz.ntmps153
  go_wp2
  go_quiet (fail)
  go_wp2_with fail
  refine wp_region_again (by kernel_rfl) (by kernel_rfl) ?_
  repeat (go_big_quiet_step ((go_at_call 175; exact Calls.quiet_of_same (turnedThrice_l e 6 11 25 _ _ _ rfl rfl rfl _ he (by decide) (by decide) (by decide)))))
  refine wpQuiet_nil ?_
  rintro _ ⟨nr, rfl⟩
  go_wp2_with fail
  refine (turnedThrice_l a 2 13 22 _ _ _ rfl rfl rfl _ ha (by decide) (by decide) (by decide)).mono ?_
  rintro r w' ⟨rfl, rfl⟩
  go_wp2
  have E1 : (((q : Int) + (rot3 e 6 11 25 : Nat) + (chN e f g : Nat) + key + word + ((rot3 a 2 13 22 : Nat) + (majN a b c : Nat))) % 4294967296) = (((t1N ⟨a, b, c, d, e, f, g, q⟩ word key + t2N ⟨a, b, c, d, e, f, g, q⟩) % 4294967296 : Nat) : Int) := by simp only [t1N, t2N]; omega
  have E2 : (((d : Int) + (q + (rot3 e 6 11 25 : Nat) + (chN e f g : Nat) + key + word)) % 4294967296) = (((d + t1N ⟨a, b, c, d, e, f, g, q⟩ word key) % 4294967296 : Nat) : Int) := by simp only [t1N]; omega
  rw [E1, E2]
  exact bodyPost_ret (v := .agg (roundN ⟨a, b, c, d, e, f, g, q⟩ word key).u32) (by simp [results, Tryz.results153, go_sem]; rfl) rfl ⟨rfl, ((((((((below_drewN (Below.mk (alloc_below _ _) _) _).setCell (Nat.le_succ _) _).setCell (Nat.le_succ _) _).setCell (Nat.le_succ _) _).setCell (Nat.le_succ _) _).setCell (Nat.le_succ _) _).setCell (Nat.le_succ _) _).setCell (Nat.le_succ _) _).setCell (Nat.le_succ _) _⟩

end Go.Proofs.YtflhoefocjmihaaGreatDoor

/- The contract of the laws' count of bytes: szByteS. -/
namespace Go.Proofs.YtflhoefocjmihaaGreatDoor
open Go.ChangeShapes Go.WideShapes Go.ChangeAt Go.RowKit

end Go.Proofs.YtflhoefocjmihaaGreatDoor

/- The laws' helpers on bytes, said of data that lies in memory ('Cod'): toByteS, szByteS, markByteS, heldByteS; what a call that writes in just these blocks leaves of an array. -/
namespace Go.Proofs.YtflhoefocjmihaaGreatDoor
open Go.ChangeShapes Go.WideShapes Go.ChangeAt Go.RowKit

theorem Arr.only {w w' : World} {g : Nat} {t : TypeId} {vs : List Value} {fp : List Nat} (h : Arr w g t vs) (ho : Only fp w w') (hn : g ∉ fp) : Arr w' g t vs := (ho.block g h.lt hn).trans h
theorem Only.trans_sub {fp f : List Nat} {a b c : World} (h : Only fp a b) (k : Only f b c) (hs : ∀ x, x ∈ f → x ∈ fp) : Only fp a c := h.trans (k.more hs)
theorem nodup_apart {f g : List Nat} (h : (f ++ g).Nodup) : ∀ k, k ∈ f → k ∉ g := fun k h1 h2 => (List.nodup_append.1 h).2.2 k h1 k h2 rfl
theorem nodup_apart' {f g : List Nat} (h : (f ++ g).Nodup) : ∀ k, k ∈ g → k ∉ f := fun k h1 h2 => (List.nodup_append.1 h).2.2 k h2 k h1 rfl
theorem Cod.set {α : Type} (c : Cod α) {w : World} {B : Nat} {a : α} {us : List Value} {fp : List Nat} (h : c.own w B a us fp) {p : Addr} (hp : p.block < B) (u : Value) : c.own (w.setCell p u) B a us fp :=
  c.fr h fun k hk => heap_setCell_other _ _ k _ (by have := (c.ins h k hk).1; omega)
theorem own_int {w : World} {B : Nat} {z : Int} {k : IntKind} : (intC k).own w B z [.int k z] [] := ⟨rfl, rfl⟩
theorem lt_nil {m : Nat} : ∀ k, k ∈ ([] : List Nat) → k < m := fun _ h => by cases h
theorem ge_nil {m : Nat} : ∀ k, k ∈ ([] : List Nat) → m ≤ k := fun _ h => by cases h
theorem ge_app {f g : List Nat} {m : Nat} (h1 : ∀ k, k ∈ f → m ≤ k) (h2 : ∀ k, k ∈ g → m ≤ k) : ∀ k, k ∈ f ++ g → m ≤ k := fun k hk => (List.mem_append.1 hk).elim (h1 k) (h2 k)
theorem byt_own {w : World} {B : Nat} {u : Value} {bs : List UInt8} (h : Own w B u bs) : bytC.own w B bs [u] u.ownBlock.toList := ⟨u, rfl, h, rfl⟩
theorem own_pair {α β : Type} {c : Cod α} {d : Cod β} {w : World} {B : Nat} {a : α × β} {us ts : List Value} {f g : List Nat} (m : Nat) (h1 : c.own w B a.1 us f) (h2 : d.own w B a.2 ts g) (hf : ∀ k, k ∈ f → k < m) (hg : ∀ k, k ∈ g → m ≤ k) : (prodC c d).own w B a (us ++ ts) (f ++ g) :=
  ⟨us, ts, f, g, rfl, rfl, List.nodup_append.2 ⟨c.nd h1, d.nd h2, fun x hx y hy e => by subst e; have := hf x hx; have := hg x hy; omega⟩, h1, h2⟩
end Go.Proofs.YtflhoefocjmihaaGreatDoor

/- How Cert lies in memory, alone and in lists, and the contracts of the laws' helpers on it (written by tools/certgen.py). -/
namespace Go.Proofs.YtflhoefocjmihaaGreatDoor
open Go.ChangeShapes Go.WideShapes Go.ChangeAt Go.RowKit

abbrev CertD := Int × Int × Int
def certC : Cod CertD := prodC (intC .i64) (prodC (intC .i64) (intC .i64))
theorem cert_rep {w : World} {a : CertD} {vs : List Value} (h : certC.rep w a vs) : vs = [.int .i64 a.1, .int .i64 a.2.1, .int .i64 a.2.2] := by
  obtain ⟨us0, ts0, rfl, h0, us1, ts1, rfl, h1, h2⟩ := h
  have e0 : us0 = [Value.int .i64 _] := h0
  have e1 : us1 = [Value.int .i64 _] := h1
  have e2 : ts1 = [Value.int .i64 _] := h2
  rw [e0, e1, e2]
  rfl
theorem cert_mk {w : World} {a : CertD} : certC.rep w a [.int .i64 a.1, .int .i64 a.2.1, .int .i64 a.2.2] := ⟨[_], _, rfl, rfl, [_], _, rfl, rfl, rfl⟩
theorem cert_own {w : World} {B : Nat} {a : CertD} : certC.own w B a [.int .i64 a.1, .int .i64 a.2.1, .int .i64 a.2.2] [] := ⟨[_], _, [], [], rfl, rfl, List.nodup_nil, ⟨rfl, rfl⟩, [_], _, [], [], rfl, rfl, List.nodup_nil, ⟨rfl, rfl⟩, rfl, rfl⟩
theorem cert_own_inv {w : World} {B : Nat} {a : CertD} {vs : List Value} {fp : List Nat} (h : certC.own w B a vs fp) : vs = [.int .i64 a.1, .int .i64 a.2.1, .int .i64 a.2.2] ∧ fp = [] := by
  obtain ⟨us0, ts0, f0, g0, rfl, rfl, -, ⟨rfl, rfl⟩, us1, ts1, f1, g1, rfl, rfl, -, ⟨rfl, rfl⟩, ⟨rfl, rfl⟩⟩ := h
  exact ⟨rfl, rfl⟩
abbrev certsC : Cod (List CertD) := listC 41 certC
theorem infoCert : (Tryz.prog.info? 41).map (fun i => (i.zero, i.size, i.bytes)) = some (some (.agg #[.int .i64 0, .int .i64 0, .int .i64 0]), 3, 24) := by kernel_rfl
end Go.Proofs.YtflhoefocjmihaaGreatDoor

/- How Sign lies in memory, and the contracts of the laws' helpers on it (written by tools/codgen.py). -/
namespace Go.Proofs.YtflhoefocjmihaaGreatDoor
open Go.ChangeShapes Go.WideShapes Go.ChangeAt Go.RowKit

abbrev SignD := Int × Int × List UInt8
def signC : Cod SignD := prodC (intC .i64) (prodC (intC .i64) bytC)
theorem sign_rep {w : World} {a : SignD} {vs : List Value} (h : signC.rep w a vs) : ∃ p3 q3, vs = [.int .i64 a.1, .int .i64 a.2.1, .slice p3 a.2.2.length q3] ∧ Rd w p3 q3 a.2.2 := by
  obtain ⟨us0, ts0, rfl, h0, us1, ts1, rfl, h1, h2⟩ := h
  have e0 : us0 = [Value.int .i64 _] := h0
  subst e0
  have e1 : us1 = [Value.int .i64 _] := h1
  subst e1
  obtain ⟨p3, q3, rfl, r3⟩ := h2
  exact ⟨p3, q3, rfl, r3⟩
theorem sign_mk {w : World} {a : SignD} {p3 : Option Addr} {q3 : Nat} (r3 : Rd w p3 q3 a.2.2) : signC.rep w a [.int .i64 a.1, .int .i64 a.2.1, .slice p3 a.2.2.length q3] := ⟨[.int .i64 a.1], _, rfl, rfl, ⟨[.int .i64 a.2.1], _, rfl, rfl, ⟨p3, q3, rfl, r3⟩⟩⟩
def signT (a : SignD) : Nat := a.2.2.length
def signM (a : SignD) (m : Nat) : SignD := (a.1, a.2.1, marks m a.2.2.length)

def signN (a : SignD) : Nat := a.2.2.length
theorem signT_le (a : SignD) : signT a ≤ 8 * signN a := by
  unfold signT signN
  omega






end Go.Proofs.YtflhoefocjmihaaGreatDoor

/- How Auth lies in memory, and the contracts of the laws' helpers on it (written by tools/codgen.py). -/
namespace Go.Proofs.YtflhoefocjmihaaGreatDoor
open Go.ChangeShapes Go.WideShapes Go.ChangeAt Go.RowKit

abbrev AuthD := List UInt8 × CertD × Int × List UInt8
def authC : Cod AuthD := prodC bytC (prodC certC (prodC (intC .i64) bytC))
theorem auth_rep {w : World} {a : AuthD} {vs : List Value} (h : authC.rep w a vs) : ∃ p1 q1 p4 q4, vs = [.slice p1 a.1.length q1, .int .i64 a.2.1.1, .int .i64 a.2.1.2.1, .int .i64 a.2.1.2.2, .int .i64 a.2.2.1, .slice p4 a.2.2.2.length q4] ∧ Rd w p1 q1 a.1 ∧ Rd w p4 q4 a.2.2.2 := by
  obtain ⟨us0, ts0, rfl, h0, us1, ts1, rfl, h1, us2, ts2, rfl, h2, h3⟩ := h
  obtain ⟨p1, q1, rfl, r1⟩ := h0
  have e1 := cert_rep h1
  subst e1
  have e2 : us2 = [Value.int .i64 _] := h2
  subst e2
  obtain ⟨p4, q4, rfl, r4⟩ := h3
  exact ⟨p1, q1, p4, q4, rfl, r1, r4⟩
theorem auth_mk {w : World} {a : AuthD} {p1 : Option Addr} {q1 : Nat} {p4 : Option Addr} {q4 : Nat} (r1 : Rd w p1 q1 a.1) (r4 : Rd w p4 q4 a.2.2.2) : authC.rep w a [.slice p1 a.1.length q1, .int .i64 a.2.1.1, .int .i64 a.2.1.2.1, .int .i64 a.2.1.2.2, .int .i64 a.2.2.1, .slice p4 a.2.2.2.length q4] := ⟨[.slice p1 a.1.length q1], _, rfl, ⟨p1, q1, rfl, r1⟩, ⟨[.int .i64 a.2.1.1, .int .i64 a.2.1.2.1, .int .i64 a.2.1.2.2], _, rfl, cert_mk, ⟨[.int .i64 a.2.2.1], _, rfl, rfl, ⟨p4, q4, rfl, r4⟩⟩⟩⟩
def authT (a : AuthD) : Nat := a.1.length + a.2.2.2.length
def authM (a : AuthD) (m : Nat) : AuthD := (marks m a.1.length, a.2.1, a.2.2.1, marks (m + a.1.length) a.2.2.2.length)

def authN (a : AuthD) : Nat := a.1.length + a.2.2.2.length
theorem authT_le (a : AuthD) : authT a ≤ 8 * authN a := by
  unfold authT authN
  omega






end Go.Proofs.YtflhoefocjmihaaGreatDoor

/- The contracts of the laws' helpers on lists of bytes, and on answers that hold such a list: toByteSS, szByteSS, eqByteSS, markByteSS, heldByteSS; eqBlocksResult, markBlocksResult, heldBlocksResult. -/
namespace Go.Proofs.YtflhoefocjmihaaGreatDoor
open Go.ChangeShapes Go.WideShapes Go.ChangeAt Go.RowKit

abbrev BlkD := List UInt8
theorem blk_rep {w : World} {a : BlkD} {vs : List Value} (h : bytC.rep w a vs) : ∃ p q, vs = [.slice p a.length q] ∧ Rd w p q a := h
theorem blk_own {w : World} {B : Nat} {a : BlkD} {vs : List Value} {fp : List Nat} (h : bytC.own w B a vs fp) : ∃ v, vs = [v] ∧ Own w B v a ∧ fp = v.ownBlock.toList := h
theorem blk_own_mk {w : World} {B : Nat} {a : BlkD} {v : Value} (o : Own w B v a) : bytC.own w B a [v] v.ownBlock.toList := ⟨v, rfl, o, rfl⟩
def sumB (l : List BlkD) : Nat := (l.map List.length).sum
def bulkB (l : List BlkD) : Nat := sumB l + l.length
theorem sumB_take {l : List BlkD} {k : Nat} {a : BlkD} (h : l[k]? = some a) : sumB (l.take (k + 1)) = sumB (l.take k) + a.length := by
  rw [List.take_add_one, h]; simp [sumB]
theorem sumB_append (l r : List BlkD) : sumB (l ++ r) = sumB l + sumB r := by simp [sumB]
theorem sumB_le (l : List BlkD) (k : Nat) : sumB (l.take k) ≤ sumB l := by
  conv => rhs; rw [← List.take_append_drop k l, sumB_append]
  omega
theorem sumB_at {l : List BlkD} {k : Nat} {a : BlkD} (h : l[k]? = some a) : a.length ≤ sumB l := by
  have h1 := sumB_take h
  have h2 := sumB_le l (k + 1)
  omega

theorem infoBlk : (Tryz.prog.info? 22).map (fun i => (i.zero, i.size, i.bytes)) = some (some (.slice none 0 0), 1, 24) := by kernel_rfl



def mkB : List BlkD → Nat → List BlkD
  | [], _ => []
  | a :: l, m => marks m a.length :: mkB l (m + a.length)
theorem mkB_append : ∀ (l r : List BlkD) (m : Nat), mkB (l ++ r) m = mkB l m ++ mkB r (m + sumB l)
  | [], r, m => by simp [mkB, sumB]
  | a :: l, r, m => by
    rw [List.cons_append, mkB, mkB, mkB_append l r, List.cons_append, show m + a.length + sumB l = m + sumB (a :: l) by simp [sumB]; omega]
theorem mkB_len : ∀ (l : List BlkD) (m : Nat), (mkB l m).length = l.length
  | [], _ => rfl
  | a :: l, m => by rw [mkB, List.length_cons, mkB_len l, List.length_cons]
theorem mkB_take {l : List BlkD} {k : Nat} {a : BlkD} (h : l[k]? = some a) (m : Nat) : mkB (l.take (k + 1)) m = mkB (l.take k) m ++ [marks (m + sumB (l.take k)) a.length] := by
  rw [List.take_add_one, h, mkB_append]; rfl
theorem mkB_at {l : List BlkD} {k : Nat} {a : BlkD} (h : l[k]? = some a) (m : Nat) : (mkB l m)[k]? = some (marks (m + sumB (l.take k)) a.length) := by
  have hk := (List.getElem?_eq_some_iff.1 h).1
  conv => lhs; rw [← List.take_append_drop k l, drop_at h, mkB_append]
  rw [List.getElem?_append_right (by rw [mkB_len, List.length_take]; omega), mkB_len, List.length_take, Nat.min_eq_left (by omega), Nat.sub_self]
  rfl



end Go.Proofs.YtflhoefocjmihaaGreatDoor

/- How AuthResult lies in memory, and the contracts of the laws' helpers on it (written by tools/codgen.py). -/
namespace Go.Proofs.YtflhoefocjmihaaGreatDoor
open Go.ChangeShapes Go.WideShapes Go.ChangeAt Go.RowKit

abbrev AuthResultD := Int × AuthD
def authResultC : Cod AuthResultD := prodC (intC .i64) authC
theorem authResult_rep {w : World} {a : AuthResultD} {vs : List Value} (h : authResultC.rep w a vs) : ∃ p2_1 q2_1 p2_4 q2_4, vs = [.int .i64 a.1, .slice p2_1 a.2.1.length q2_1, .int .i64 a.2.2.1.1, .int .i64 a.2.2.1.2.1, .int .i64 a.2.2.1.2.2, .int .i64 a.2.2.2.1, .slice p2_4 a.2.2.2.2.length q2_4] ∧ Rd w p2_1 q2_1 a.2.1 ∧ Rd w p2_4 q2_4 a.2.2.2.2 := by
  obtain ⟨us0, ts0, rfl, h0, h1⟩ := h
  have e0 : us0 = [Value.int .i64 _] := h0
  subst e0
  obtain ⟨p2_1, q2_1, p2_4, q2_4, rfl, r2_1, r2_4⟩ := auth_rep h1
  exact ⟨p2_1, q2_1, p2_4, q2_4, rfl, r2_1, r2_4⟩
theorem authResult_mk {w : World} {a : AuthResultD} {p2_1 : Option Addr} {q2_1 : Nat} {p2_4 : Option Addr} {q2_4 : Nat} (r2_1 : Rd w p2_1 q2_1 a.2.1) (r2_4 : Rd w p2_4 q2_4 a.2.2.2.2) : authResultC.rep w a [.int .i64 a.1, .slice p2_1 a.2.1.length q2_1, .int .i64 a.2.2.1.1, .int .i64 a.2.2.1.2.1, .int .i64 a.2.2.1.2.2, .int .i64 a.2.2.2.1, .slice p2_4 a.2.2.2.2.length q2_4] := ⟨[.int .i64 a.1], _, rfl, rfl, (auth_mk r2_1 r2_4)⟩
def authResultT (a : AuthResultD) : Nat := authT a.2
def authResultM (a : AuthResultD) (m : Nat) : AuthResultD := (a.1, authM a.2 m)

def authResultN (a : AuthResultD) : Nat := authN a.2
theorem authResultT_le (a : AuthResultD) : authResultT a ≤ 8 * authResultN a := by
  have h1 := authT_le a.2
  unfold authResultT authResultN
  omega






end Go.Proofs.YtflhoefocjmihaaGreatDoor

/- The contracts of the laws' helpers on messages, on lists of these, and on answers that hold such a list: toMsg, szMsg, eqMsg, markMsg; toMsgS, szMsgS, eqMsgS, markMsgS, heldMsgS; eqMsgsResult, markMsgsResult, heldMsgsResult. -/
namespace Go.Proofs.YtflhoefocjmihaaGreatDoor
open Go.ChangeShapes Go.WideShapes Go.ChangeAt Go.RowKit

abbrev MsgD := Int × List UInt8
def msgC : Cod MsgD := prodC (intC .i64) bytC
theorem msg_rep {w : World} {a : MsgD} {vs : List Value} (h : msgC.rep w a vs) : ∃ p q, vs = [.int .i64 a.1, .slice p a.2.length q] ∧ Rd w p q a.2 := by
  obtain ⟨us, ts, rfl, h1, p, q, rfl, r⟩ := h
  exact ⟨p, q, by rw [h1]; rfl, r⟩
theorem msg_mk {w : World} {a : MsgD} {p : Option Addr} {q : Nat} (r : Rd w p q a.2) : msgC.rep w a [.int .i64 a.1, .slice p a.2.length q] := ⟨[_], [_], rfl, rfl, p, q, rfl, r⟩
theorem msg_own {w : World} {B : Nat} {a : MsgD} {vs : List Value} {fp : List Nat} (h : msgC.own w B a vs fp) : ∃ v, vs = [.int .i64 a.1, v] ∧ Own w B v a.2 ∧ fp = v.ownBlock.toList := by
  obtain ⟨us, ts, f, g, rfl, rfl, _, ⟨rfl, rfl⟩, v, rfl, o, rfl⟩ := h
  exact ⟨v, rfl, o, rfl⟩
theorem msg_own_mk {w : World} {B : Nat} {a : MsgD} {v : Value} (o : Own w B v a.2) : msgC.own w B a [.int .i64 a.1, v] v.ownBlock.toList :=
  ⟨[_], [_], [], _, rfl, rfl, nodup_opt _, ⟨rfl, rfl⟩, v, rfl, o, rfl⟩


theorem infoMsg : (Tryz.prog.info? 261).map (fun i => (i.zero, i.size, i.bytes)) = some (some (.agg #[.int .i64 0, .slice none 0 0]), 2, 32) := by kernel_rfl
def bulkM (l : List MsgD) : Nat := (l.map (fun a => a.2.length)).sum + l.length
theorem bulkM_at {l : List MsgD} {i : Nat} {a : MsgD} (h : l[i]? = some a) : a.2.length ≤ bulkM l := by
  have hm := List.mem_of_getElem? h
  have h2 : ∀ l : List MsgD, a ∈ l → a.2.length ≤ (l.map (fun a : MsgD => a.2.length)).sum := fun l => by
    induction l with
    | nil => intro h; cases h
    | cons b l ih =>
      intro h
      rw [List.map_cons, List.sum_cons]
      rcases List.mem_cons.1 h with rfl | h
      · omega
      · have := ih h; omega
  have := h2 l hm
  unfold bulkM; omega



def mkM : List MsgD → Nat → List MsgD
  | [], _ => []
  | a :: l, m => ((m : Int), marks (m + 1) a.2.length) :: mkM l (m + 1 + a.2.length)
theorem bulkM_cons (a : MsgD) (l : List MsgD) : bulkM (a :: l) = a.2.length + 1 + bulkM l := by simp [bulkM]; omega
theorem bulkM_append (l r : List MsgD) : bulkM (l ++ r) = bulkM l + bulkM r := by simp [bulkM]; omega
theorem mkM_append : ∀ (l r : List MsgD) (m : Nat), mkM (l ++ r) m = mkM l m ++ mkM r (m + bulkM l)
  | [], r, m => by simp [mkM, bulkM]
  | a :: l, r, m => by
    rw [List.cons_append, mkM, mkM, mkM_append l r, bulkM_cons, List.cons_append, show m + 1 + a.2.length + bulkM l = m + (a.2.length + 1 + bulkM l) by omega]
theorem mkM_len : ∀ (l : List MsgD) (m : Nat), (mkM l m).length = l.length
  | [], _ => rfl
  | a :: l, m => by rw [mkM, List.length_cons, mkM_len l, List.length_cons]
theorem mkM_take {l : List MsgD} {k : Nat} {a : MsgD} (h : l[k]? = some a) (m : Nat) : mkM (l.take (k + 1)) m = mkM (l.take k) m ++ [(((m + bulkM (l.take k) : Nat) : Int), marks (m + bulkM (l.take k) + 1) a.2.length)] := by
  rw [List.take_add_one, h, mkM_append]; rfl
theorem bulkM_take {l : List MsgD} {k : Nat} {a : MsgD} (h : l[k]? = some a) : bulkM (l.take (k + 1)) = bulkM (l.take k) + a.2.length + 1 := by
  rw [List.take_add_one, h, bulkM_append]; simp [bulkM]; omega
theorem bulkM_le (l : List MsgD) (k : Nat) : bulkM (l.take k) ≤ bulkM l := by
  conv => rhs; rw [← List.take_append_drop k l, bulkM_append]
  omega


theorem mkM_at {l : List MsgD} {k : Nat} {a : MsgD} (h : l[k]? = some a) (m : Nat) : (mkM l m)[k]? = some (((m + bulkM (l.take k) : Nat) : Int), marks (m + bulkM (l.take k) + 1) a.2.length) := by
  have hk := (List.getElem?_eq_some_iff.1 h).1
  conv => lhs; rw [← List.take_append_drop k l, drop_at h, mkM_append]
  rw [List.getElem?_append_right (by rw [mkM_len, List.length_take]; omega), mkM_len, List.length_take, Nat.min_eq_left (by omega), Nat.sub_self]
  rfl


end Go.Proofs.YtflhoefocjmihaaGreatDoor

