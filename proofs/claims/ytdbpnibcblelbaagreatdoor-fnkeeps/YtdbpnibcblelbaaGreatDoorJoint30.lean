/- What hides, byte for byte, with the program's xor of two bytes; the contract of spec.l4Nonce (nonceN, in a row of its own). -/
import Derived.Test.YtdbpnibcblelbaaGreatDoorJoint14
import Derived.Test.YtdbpnibcblelbaaGreatDoorJoint2
import Derived.Deep.RegionHeld3
import Derived.Deep.AppendLies
import Derived.Test.YtdbpnibcblelbaaGreatDoorMix
import Derived.Test.YtdbpnibcblelbaaGreatDoorJoint11
namespace Go.Proofs.YtdbpnibcblelbaaGreatDoor
open Go.ChangeShapes Go.WideShapes Go.ChangeAt Go.RowKit
theorem u8_xorv (a b : UInt8) : bits .xor .u8 (a.toNat : Int) (b.toNat : Int) = ((a ^^^ b).toNat : Int) := by
  rw [u8_xor_nat _ _ a.toNat_lt b.toNat_lt, UInt8.toNat_xor]
end Go.Proofs.YtdbpnibcblelbaaGreatDoor
/- The contract of what hides in the specification: spec.l4Xor (hideN, in a row of its own). What was there stays. -/
namespace Go.Proofs.YtdbpnibcblelbaaGreatDoor
open Go.ChangeShapes Go.WideShapes Go.ChangeAt Go.RowKit
end Go.Proofs.YtdbpnibcblelbaaGreatDoor
/- The contracts of chapter 4's functions in the specification, at every argument: StartState, StreamBlock, NonceFor: code and list or bytes. -/
namespace Go.Proofs.YtdbpnibcblelbaaGreatDoor
open Go.ChangeShapes Go.WideShapes Go.ChangeAt Go.RowKit
def strC (key nonce : List UInt8) (count : Int) : Int := if key.length = 32 then (if nonce.length = 12 then (if inB count 0 4294967295 then 0 else 3) else 1) else 1
theorem strC_zero {key nonce : List UInt8} {count : Int} (h : strC key nonce count = 0) : key.length = 32 ∧ nonce.length = 12 ∧ inB count 0 4294967295 = true := by
  unfold strC at h
  split at h
  · rename_i h1
    split at h
    · rename_i h2
      split at h
      · rename_i h3
        exact ⟨h1, h2, h3⟩
      · cases h
    · cases h
  · cases h
def nfC (base : List UInt8) (seq : Int) : Int := if base.length = 12 then (if inB seq 0 2147483648 then 0 else 3) else 1
def nfL (base : List UInt8) (seq : Int) : List UInt8 := if base.length = 12 ∧ inB seq 0 2147483648 = true then nonceN base seq.toNat else []
end Go.Proofs.YtdbpnibcblelbaaGreatDoor
/- The contracts of StreamXor and QuarterRound in the specification, at every argument: code and bytes or list. -/
namespace Go.Proofs.YtdbpnibcblelbaaGreatDoor
open Go.ChangeShapes Go.WideShapes Go.ChangeAt Go.RowKit
end Go.Proofs.YtdbpnibcblelbaaGreatDoor
/- The contracts of the stream in the program: impl.turnLeft, impl.isKeyAndNonce, impl.startFault, impl.lowFirstWord, impl.quarterTurned, impl.rowsTurned, impl.tenTimesTurned, impl.streamBlock (arrays by value: what comes in stays as it was). -/
namespace Go.Proofs.YtdbpnibcblelbaaGreatDoor
open Go.ChangeShapes Go.WideShapes Go.ChangeAt Go.RowKit
set_option maxRecDepth 4000 in
set_option maxHeartbeats 400000 in
theorem turnLeft_c (v n : Nat) (w : World) (h2 : v < 4294967296) (h3 : 1 ≤ n) (h4 : n ≤ 31) :
    Calls Tryz.prog 272 #[.int .u32 v, .int .i64 n] w fun e w' => e = .returned (.int .u32 (rotN v (32 - n) : Nat)) ∧ w' = w := by
  have K : Hid (∀ (w : World) (m : Int), m = ((32 - n : Nat) : Int) → Calls Tryz.prog 265 #[.int .u32 v, .int .i64 m] w fun e w' => e = .returned (.int .u32 (rotN v (32 - n) : Nat)) ∧ w' = w) := fun w m hm => by subst hm; exact turnRight_c v (32 - n) w h2 (by omega)
  go_enter Tryz.func272, Tryz.ntmps272
  go_wp2_with fail
  refine (K.out _ _ (by omega)).mono ?_
  rintro e w' ⟨rfl, rfl⟩
  go_wp2
  go_ret
  exact ⟨rfl, rfl⟩
def kn (key nonce : List UInt8) : Bool := decide (key.length = 32) && decide (nonce.length = 12)
set_option maxRecDepth 4000 in
set_option maxHeartbeats 400000 in
theorem isKeyAndNonce_c (p p2 : Option Addr) (q q2 : Nat) (key nonce : List UInt8) (w : World) :
    Calls Tryz.prog 257 #[.slice p key.length q, .slice p2 nonce.length q2] w fun e w' => e = .returned (.bool (kn key nonce)) ∧ w' = w := by
  by_cases h1 : key.length = 32
  · have d1 : ((key.length : Int) == 32) = true := by rw [beq_iff_eq]; omega
    by_cases h2 : nonce.length = 12
    · have d2 : ((nonce.length : Int) == 12) = true := by rw [beq_iff_eq]; omega
      rw [show kn key nonce = true by simp [kn, h1, h2]]
      clear h1 h2
      go_enter Tryz.func257, Tryz.ntmps257
      go_wp2
      go_ret
      exact ⟨rfl, rfl⟩
    · have d2 : ((nonce.length : Int) == 12) = false := by rw [beq_eq_false_iff_ne]; omega
      rw [show kn key nonce = false by simp [kn, h2]]
      clear h1 h2
      go_enter Tryz.func257, Tryz.ntmps257
      go_wp2
      go_ret
      exact ⟨rfl, rfl⟩
  · have d1 : ((key.length : Int) == 32) = false := by rw [beq_eq_false_iff_ne]; omega
    rw [show kn key nonce = false by simp [kn, h1]]
    clear h1
    go_enter Tryz.func257, Tryz.ntmps257
    go_wp2
    go_ret
    exact ⟨rfl, rfl⟩
theorem or_add (a b k : Nat) (h : a < 2 ^ k) : a ||| b * 2 ^ k = a + b * 2 ^ k := by
  rw [Nat.or_comm, ← Nat.shiftLeft_eq, ← Nat.shiftLeft_add_eq_or_of_lt h, Nat.add_comm]
theorem low_or (x0 x1 x2 x3 : Int) (a0 : 0 ≤ x0) (a1 : 0 ≤ x1) (a2 : 0 ≤ x2) (a3 : 0 ≤ x3) (b0 : x0 ≤ 255) (b1 : x1 ≤ 255) (b2 : x2 ≤ 255) (b3 : x3 ≤ 255) :
    bits .or .u32 (bits .or .u32 (bits .or .u32 x0 (x1 * 256)) (x2 * 65536)) (x3 * 16777216) = x0 + x1 * 256 + x2 * 65536 + x3 * 16777216 := by
  obtain ⟨x0, rfl⟩ := Int.eq_ofNat_of_zero_le a0
  obtain ⟨x1, rfl⟩ := Int.eq_ofNat_of_zero_le a1
  obtain ⟨x2, rfl⟩ := Int.eq_ofNat_of_zero_le a2
  obtain ⟨x3, rfl⟩ := Int.eq_ofNat_of_zero_le a3
  have e1 := or_add x0 x1 8 (by omega)
  have e2 := or_add (x0 + x1 * 2 ^ 8) x2 16 (by omega)
  have e3 := or_add (x0 + x1 * 2 ^ 8 + x2 * 2 ^ 16) x3 24 (by omega)
  have f1 : bits .or .u32 (x0 : Int) ((x1 : Int) * 256) = ((x0 + x1 * 2 ^ 8 : Nat) : Int) := by
    rw [show ((x1 : Int) * 256) = ((x1 * 2 ^ 8 : Nat) : Int) by omega, u32_or_nat _ _ (by omega) (by omega), e1]
  have f2 : bits .or .u32 ((x0 + x1 * 2 ^ 8 : Nat) : Int) ((x2 : Int) * 65536) = ((x0 + x1 * 2 ^ 8 + x2 * 2 ^ 16 : Nat) : Int) := by
    rw [show ((x2 : Int) * 65536) = ((x2 * 2 ^ 16 : Nat) : Int) by omega, u32_or_nat _ _ (by omega) (by omega), e2]
  have f3 : bits .or .u32 ((x0 + x1 * 2 ^ 8 + x2 * 2 ^ 16 : Nat) : Int) ((x3 : Int) * 16777216) = ((x0 + x1 * 2 ^ 8 + x2 * 2 ^ 16 + x3 * 2 ^ 24 : Nat) : Int) := by
    rw [show ((x3 : Int) * 16777216) = ((x3 * 2 ^ 24 : Nat) : Int) by omega, u32_or_nat _ _ (by omega) (by omega), e3]
  rw [f1, f2, f3]
  omega
set_option maxRecDepth 4000 in
set_option maxHeartbeats 1000000 in
theorem lowFirstWord_c (b o n cap : Nat) (bs : List UInt8) (w : World) (hr : Rd w (some ⟨b, o, none⟩) cap bs) (hn : bs.length = n) (h4 : 4 ≤ n) :
    Calls Tryz.prog 260 #[.slice (some ⟨b, o, none⟩) n cap] w fun e w' => e = .returned (.int .u32 (low4 bs 0 : Nat)) ∧ ∃ n, w' = w.drewN n := by
  obtain ⟨b', o', ea, hc⟩ := hr.2.2.2 (by omega)
  simp at ea
  obtain ⟨rfl, rfl⟩ := ea
  have c0 := hc 0 (by omega)
  have c1 := hc 1 (by omega)
  have c2 := hc 2 (by omega)
  have c3 := hc 3 (by omega)
  rw [Nat.add_zero] at c0
  have HE : Hid (((low4 bs 0 : Nat) : Int) = at8 bs 0 + at8 bs 1 * 256 + at8 bs 2 * 65536 + at8 bs 3 * 16777216) := by show _ = _; unfold low4 at8; simp only [Nat.mul_zero, Nat.zero_add]; omega
  have a0 := at8_lo bs 0
  have a1 := at8_lo bs 1
  have a2 := at8_lo bs 2
  have a3 := at8_lo bs 3
  have b0 := at8_hi bs 0
  have b1 := at8_hi bs 1
  have b2 := at8_hi bs 2
  have b3 := at8_hi bs 3
  generalize at8 bs 0 = x0 at *
  generalize at8 bs 1 = x1 at *
  generalize at8 bs 2 = x2 at *
  generalize at8 bs 3 = x3 at *
  clear hc hr hn
  have HO : Hid (bits .or .u32 (bits .or .u32 (bits .or .u32 x0 (x1 * 256)) (x2 * 65536)) (x3 * 16777216) = x0 + x1 * 256 + x2 * 65536 + x3 * 16777216) := low_or x0 x1 x2 x3 a0 a1 a2 a3 b0 b1 b2 b3
  go_enter Tryz.func260, Tryz.ntmps260
  go_wp2
  go_quiet (fail)
  go_wp2
  go_ret
  exact ⟨ret_u32 (HO.out.trans HE.out.symm), _, rfl⟩
def z16 : List Value := List.replicate 16 (.int .u32 0)
theorem z16_len : z16.length = 16 := by simp [z16]
theorem Arr.at16 {w : World} {g a n : Nat} {t : TypeId} {s : List Nat} (h : Arr w g t (s.map u32v)) (hl : s.length = n) (ha : a < n) : w.cell? ⟨g, a, none⟩ = some (.int .u32 (s.getD a 0 : Nat)) := by
  rw [h.cell]
  have : a < s.length := by omega
  simp [u32v, this]
theorem Arr.put16 {w : World} {g : Nat} {t : TypeId} {s : List Nat} (h : Arr w g t (s.map u32v)) (a x : Nat) : Arr (w.setCell ⟨g, a, none⟩ (.int .u32 (x : Int))) g t ((s.set a x).map u32v) := by
  rw [List.map_set]; exact h.set a (.int .u32 (x : Int))
theorem info_s16 : (Tryz.prog.info? 263).map (fun i => (i.zero, i.size)) = some (some (.agg z16.toArray), 16) := by kernel_rfl
set_option maxRecDepth 4000 in
set_option maxHeartbeats 1000000 in
theorem quarterTurned_c (s : List Nat) (a b c d : Nat) (w : World) (hl : s.length = 16) (hok : Words s) (ha : a < 16) (hb : b < 16) (hc : c < 16) (hd : d < 16) :
    Calls Tryz.prog 259 #[.agg (s.map u32v).toArray, .int .i64 a, .int .i64 b, .int .i64 c, .int .i64 d] w fun e w' => e = .returned (.agg ((quarterN s a b c d).map u32v).toArray) ∧ Below w.heap.size w w' := by
  have hzv : Hid (∀ w, (zeroValue 263).run Tryz.prog w = .ok (.agg z16.toArray) w) := (zero_of_info info_s16).1
  have HL : Hid (s.length = 16) := hl
  have HO : Hid (Words s) := hok
  have hE : Hid (∀ x y : Nat, (((x : Int) + (y : Int)) % 4294967296) = (((x + y) % 4294967296 : Nat) : Int)) := fun x y => by omega
  clear hl hok
  go_enter Tryz.func259, Tryz.ntmps259
  go_wp2_with (refine wpList_alloc_arr rfl 263 rfl _ hzv.out (w.heap.size + 1) (size_alloc _ _) ?_)
  have BW : Below w.heap.size w ((w.alloc (.cells (s.map u32v).toArray 263)).alloc (.cells z16.toArray 263)) := Below.mk (alloc_below _ _) _
  have S : Arr ((w.alloc (.cells (s.map u32v).toArray 263)).alloc (.cells z16.toArray 263)) w.heap.size 263 (s.map u32v) := (Arr.new w (s.map u32v) 263).old _ _
  have Z : Arr ((w.alloc (.cells (s.map u32v).toArray 263)).alloc (.cells z16.toArray 263)) (w.heap.size + 1) 263 z16 := by
    have h := Arr.new (w.alloc (.cells (s.map u32v).toArray 263)) z16 263
    rw [size_alloc] at h
    exact h
  generalize (w.alloc (.cells (s.map u32v).toArray 263)).alloc (.cells z16.toArray 263) = V0 at *
  have hg : w.heap.size ≤ w.heap.size := Nat.le_refl _
  obtain ⟨g, hgs⟩ : ∃ g, g = w.heap.size := ⟨_, rfl⟩
  rw [← hgs] at S Z
  simp only [← hgs]
  have hg2 : w.heap.size ≤ g := by omega
  clear hgs hg hzv
  have ia : (a : Int) < 16 := by omega
  have ib : (b : Int) < 16 := by omega
  have ic : (c : Int) < 16 := by omega
  have id : (d : Int) < 16 := by omega
  go_simp
  have ca := S.at16 HL.out ha
  have cb := S.at16 HL.out hb
  have fa := S.frozen a
  have ba := HO.out.getD a
  have bb := HO.out.getD b
  have S1 := S.put16 a ((s.getD a 0 + s.getD b 0) % 4294967296)
  rw [show s.set a ((s.getD a 0 + s.getD b 0) % 4294967296) = addAt s a b from rfl] at S1
  have Z1 := Z.setOther (a := ⟨g, a, none⟩) (by show g + 1 ≠ g; omega) (.int .u32 (((s.getD a 0 + s.getD b 0) % 4294967296 : Nat) : Int))
  have B1 := BW.setCell (p := ⟨g, a, none⟩) (by show w.heap.size ≤ g; omega) (.int .u32 (((s.getD a 0 + s.getD b 0) % 4294967296 : Nat) : Int))
  have HL1 : Hid ((addAt s a b).length = 16) := by show _ = _; rw [addAt_len, HL.out]
  have HO1 : Hid (Words (addAt s a b)) := addAt_ok HO.out a b
  have HE : Known (stepN s a b d 16) (turnAt (addAt s a b) d a 16) := ⟨rfl⟩
  generalize addAt s a b = t0 at *
  generalize s.getD a 0 = x at *
  generalize s.getD b 0 = y at *
  clear S Z BW HL HO
  go_wp2_with fail
  go_region
  rw [hE.out x y]
  generalize V0.setCell ⟨g, a, none⟩ (.int .u32 (((x + y) % 4294967296 : Nat) : Int)) = U0 at *
  clear ca cb fa ba bb
  have ca := S1.at16 HL1.out ha
  have cd := S1.at16 HL1.out hd
  have fd := S1.frozen d
  have ba := HO1.out.getD a
  have bd := HO1.out.getD d
  have S2 : ∀ k, Arr ((U0.drewN k).setCell ⟨g, d, none⟩ (.int .u32 ((rotN (t0.getD d 0 ^^^ t0.getD a 0) 16 : Nat) : Int))) g 263 ((stepN s a b d 16).map u32v) := fun k => by rw [HE.eq]; exact (S1.drew (n := k)).put16 d (rotN (t0.getD d 0 ^^^ t0.getD a 0) 16)
  have HL2 : Hid ((stepN s a b d 16).length = 16) := by show _ = _; rw [HE.eq, turnAt_len, HL1.out]
  have HO2 : Hid (Words (stepN s a b d 16)) := by show Words _; rw [HE.eq]; exact turnAt_ok HO1.out d a 16
  generalize t0.getD a 0 = x1 at *
  generalize t0.getD d 0 = d1 at *
  have hx := u32_xor_nat d1 x1 bd ba
  have bx : Hid (d1 ^^^ x1 < 4294967296) := xor_lt32 bd ba
  have Z2 := fun k => (Z1.drew (n := k)).setOther (a := ⟨g, d, none⟩) (by show g + 1 ≠ g; omega) (.int .u32 ((rotN (d1 ^^^ x1) 16 : Nat) : Int))
  have B2 := fun k => (below_drewN B1 k).setCell (p := ⟨g, d, none⟩) (by show w.heap.size ≤ g; omega) (.int .u32 ((rotN (d1 ^^^ x1) 16 : Nat) : Int))
  clear S1 Z1 B1 HL1 HO1 HE
  go_wp2_with fail
  refine wp_region_tail (C := fun w' => ∃ k, w' = U0.drewN k) 10 rfl rfl rfl (by kernel_rfl) (by kernel_rfl) (by kernel_rfl) (by kernel_rfl) ⟨2, rfl⟩ ?_
  simp only [List.take_succ_cons, List.take_zero]
  repeat (go_big_quiet_step ((go_at_call 272; exact Calls.quiet_of_same (turnLeft_c (d1 ^^^ x1) 16 _ bx.out (by decide) (by decide)))))
  refine wpQuiet_nil ?_
  rintro w' ⟨nq, rfl⟩ K hK
  go_wp2_with fail
  have S := S2 nq
  have Z := Z2 nq
  have BW := B2 nq
  have HL := HL2
  have HO := HO2
  obtain ⟨s1, E0⟩ : ∃ z, Known z (stepN s a b d 16) := ⟨_, ⟨rfl⟩⟩
  rw [← E0.eq] at S HL HO
  generalize (U0.drewN nq).setCell ⟨g, d, none⟩ (.int .u32 ((rotN (d1 ^^^ x1) 16 : Nat) : Int)) = V1 at *
  clear S2 Z2 B2 HL2 HO2 ca cd fd ba bd hx bx
  have ca := S.at16 HL.out hc
  have cb := S.at16 HL.out hd
  have fa := S.frozen c
  have ba := HO.out.getD c
  have bb := HO.out.getD d
  have S1 := S.put16 c ((s1.getD c 0 + s1.getD d 0) % 4294967296)
  rw [show s1.set c ((s1.getD c 0 + s1.getD d 0) % 4294967296) = addAt s1 c d from rfl] at S1
  have Z1 := Z.setOther (a := ⟨g, c, none⟩) (by show g + 1 ≠ g; omega) (.int .u32 (((s1.getD c 0 + s1.getD d 0) % 4294967296 : Nat) : Int))
  have B1 := BW.setCell (p := ⟨g, c, none⟩) (by show w.heap.size ≤ g; omega) (.int .u32 (((s1.getD c 0 + s1.getD d 0) % 4294967296 : Nat) : Int))
  have HL1 : Hid ((addAt s1 c d).length = 16) := by show _ = _; rw [addAt_len, HL.out]
  have HO1 : Hid (Words (addAt s1 c d)) := addAt_ok HO.out c d
  have HE : Known (stepN s1 c d b 12) (turnAt (addAt s1 c d) b c 12) := ⟨rfl⟩
  generalize addAt s1 c d = t1 at *
  generalize s1.getD c 0 = x at *
  generalize s1.getD d 0 = y at *
  clear S Z BW HL HO
  go_wp2_with fail
  go_region
  rw [hE.out x y]
  generalize V1.setCell ⟨g, c, none⟩ (.int .u32 (((x + y) % 4294967296 : Nat) : Int)) = U1 at *
  clear ca cb fa ba bb
  have ca := S1.at16 HL1.out hc
  have cd := S1.at16 HL1.out hb
  have fd := S1.frozen b
  have ba := HO1.out.getD c
  have bd := HO1.out.getD b
  have S2 : ∀ k, Arr ((U1.drewN k).setCell ⟨g, b, none⟩ (.int .u32 ((rotN (t1.getD b 0 ^^^ t1.getD c 0) 20 : Nat) : Int))) g 263 ((stepN s1 c d b 12).map u32v) := fun k => by rw [HE.eq]; exact (S1.drew (n := k)).put16 b (rotN (t1.getD b 0 ^^^ t1.getD c 0) 20)
  have HL2 : Hid ((stepN s1 c d b 12).length = 16) := by show _ = _; rw [HE.eq, turnAt_len, HL1.out]
  have HO2 : Hid (Words (stepN s1 c d b 12)) := by show Words _; rw [HE.eq]; exact turnAt_ok HO1.out b c 12
  generalize t1.getD c 0 = x1 at *
  generalize t1.getD b 0 = d1 at *
  have hx := u32_xor_nat d1 x1 bd ba
  have bx : Hid (d1 ^^^ x1 < 4294967296) := xor_lt32 bd ba
  have Z2 := fun k => (Z1.drew (n := k)).setOther (a := ⟨g, b, none⟩) (by show g + 1 ≠ g; omega) (.int .u32 ((rotN (d1 ^^^ x1) 20 : Nat) : Int))
  have B2 := fun k => (below_drewN B1 k).setCell (p := ⟨g, b, none⟩) (by show w.heap.size ≤ g; omega) (.int .u32 ((rotN (d1 ^^^ x1) 20 : Nat) : Int))
  clear S1 Z1 B1 HL1 HO1 HE
  go_wp2_with fail
  refine wp_region_tail (C := fun w' => ∃ k, w' = U1.drewN k) 10 rfl rfl rfl (by kernel_rfl) (by kernel_rfl) (by kernel_rfl) (by kernel_rfl) ⟨2, rfl⟩ ?_
  simp only [List.take_succ_cons, List.take_zero]
  repeat (go_big_quiet_step ((go_at_call 272; exact Calls.quiet_of_same (turnLeft_c (d1 ^^^ x1) 12 _ bx.out (by decide) (by decide)))))
  refine wpQuiet_nil ?_
  rintro w' ⟨nq, rfl⟩ K hK
  go_wp2_with fail
  have S := S2 nq
  have Z := Z2 nq
  have BW := B2 nq
  have HL := HL2
  have HO := HO2
  obtain ⟨s2, E1⟩ : ∃ z, Known z (stepN s1 c d b 12) := ⟨_, ⟨rfl⟩⟩
  rw [← E1.eq] at S HL HO
  generalize (U1.drewN nq).setCell ⟨g, b, none⟩ (.int .u32 ((rotN (d1 ^^^ x1) 20 : Nat) : Int)) = V2 at *
  clear S2 Z2 B2 HL2 HO2 ca cd fd ba bd hx bx
  have ca := S.at16 HL.out ha
  have cb := S.at16 HL.out hb
  have fa := S.frozen a
  have ba := HO.out.getD a
  have bb := HO.out.getD b
  have S1 := S.put16 a ((s2.getD a 0 + s2.getD b 0) % 4294967296)
  rw [show s2.set a ((s2.getD a 0 + s2.getD b 0) % 4294967296) = addAt s2 a b from rfl] at S1
  have Z1 := Z.setOther (a := ⟨g, a, none⟩) (by show g + 1 ≠ g; omega) (.int .u32 (((s2.getD a 0 + s2.getD b 0) % 4294967296 : Nat) : Int))
  have B1 := BW.setCell (p := ⟨g, a, none⟩) (by show w.heap.size ≤ g; omega) (.int .u32 (((s2.getD a 0 + s2.getD b 0) % 4294967296 : Nat) : Int))
  have HL1 : Hid ((addAt s2 a b).length = 16) := by show _ = _; rw [addAt_len, HL.out]
  have HO1 : Hid (Words (addAt s2 a b)) := addAt_ok HO.out a b
  have HE : Known (stepN s2 a b d 8) (turnAt (addAt s2 a b) d a 8) := ⟨rfl⟩
  generalize addAt s2 a b = t2 at *
  generalize s2.getD a 0 = x at *
  generalize s2.getD b 0 = y at *
  clear S Z BW HL HO
  go_wp2_with fail
  go_region
  rw [hE.out x y]
  generalize V2.setCell ⟨g, a, none⟩ (.int .u32 (((x + y) % 4294967296 : Nat) : Int)) = U2 at *
  clear ca cb fa ba bb
  have ca := S1.at16 HL1.out ha
  have cd := S1.at16 HL1.out hd
  have fd := S1.frozen d
  have ba := HO1.out.getD a
  have bd := HO1.out.getD d
  have S2 : ∀ k, Arr ((U2.drewN k).setCell ⟨g, d, none⟩ (.int .u32 ((rotN (t2.getD d 0 ^^^ t2.getD a 0) 24 : Nat) : Int))) g 263 ((stepN s2 a b d 8).map u32v) := fun k => by rw [HE.eq]; exact (S1.drew (n := k)).put16 d (rotN (t2.getD d 0 ^^^ t2.getD a 0) 24)
  have HL2 : Hid ((stepN s2 a b d 8).length = 16) := by show _ = _; rw [HE.eq, turnAt_len, HL1.out]
  have HO2 : Hid (Words (stepN s2 a b d 8)) := by show Words _; rw [HE.eq]; exact turnAt_ok HO1.out d a 8
  generalize t2.getD a 0 = x1 at *
  generalize t2.getD d 0 = d1 at *
  have hx := u32_xor_nat d1 x1 bd ba
  have bx : Hid (d1 ^^^ x1 < 4294967296) := xor_lt32 bd ba
  have Z2 := fun k => (Z1.drew (n := k)).setOther (a := ⟨g, d, none⟩) (by show g + 1 ≠ g; omega) (.int .u32 ((rotN (d1 ^^^ x1) 24 : Nat) : Int))
  have B2 := fun k => (below_drewN B1 k).setCell (p := ⟨g, d, none⟩) (by show w.heap.size ≤ g; omega) (.int .u32 ((rotN (d1 ^^^ x1) 24 : Nat) : Int))
  clear S1 Z1 B1 HL1 HO1 HE
  go_wp2_with fail
  refine wp_region_tail (C := fun w' => ∃ k, w' = U2.drewN k) 10 rfl rfl rfl (by kernel_rfl) (by kernel_rfl) (by kernel_rfl) (by kernel_rfl) ⟨2, rfl⟩ ?_
  simp only [List.take_succ_cons, List.take_zero]
  repeat (go_big_quiet_step ((go_at_call 272; exact Calls.quiet_of_same (turnLeft_c (d1 ^^^ x1) 8 _ bx.out (by decide) (by decide)))))
  refine wpQuiet_nil ?_
  rintro w' ⟨nq, rfl⟩ K hK
  go_wp2_with fail
  have S := S2 nq
  have Z := Z2 nq
  have BW := B2 nq
  have HL := HL2
  have HO := HO2
  obtain ⟨s3, E2⟩ : ∃ z, Known z (stepN s2 a b d 8) := ⟨_, ⟨rfl⟩⟩
  rw [← E2.eq] at S HL HO
  generalize (U2.drewN nq).setCell ⟨g, d, none⟩ (.int .u32 ((rotN (d1 ^^^ x1) 24 : Nat) : Int)) = V3 at *
  clear S2 Z2 B2 HL2 HO2 ca cd fd ba bd hx bx
  have ca := S.at16 HL.out hc
  have cb := S.at16 HL.out hd
  have fa := S.frozen c
  have ba := HO.out.getD c
  have bb := HO.out.getD d
  have S1 := S.put16 c ((s3.getD c 0 + s3.getD d 0) % 4294967296)
  rw [show s3.set c ((s3.getD c 0 + s3.getD d 0) % 4294967296) = addAt s3 c d from rfl] at S1
  have Z1 := Z.setOther (a := ⟨g, c, none⟩) (by show g + 1 ≠ g; omega) (.int .u32 (((s3.getD c 0 + s3.getD d 0) % 4294967296 : Nat) : Int))
  have B1 := BW.setCell (p := ⟨g, c, none⟩) (by show w.heap.size ≤ g; omega) (.int .u32 (((s3.getD c 0 + s3.getD d 0) % 4294967296 : Nat) : Int))
  have HL1 : Hid ((addAt s3 c d).length = 16) := by show _ = _; rw [addAt_len, HL.out]
  have HO1 : Hid (Words (addAt s3 c d)) := addAt_ok HO.out c d
  have HE : Known (stepN s3 c d b 7) (turnAt (addAt s3 c d) b c 7) := ⟨rfl⟩
  generalize addAt s3 c d = t3 at *
  generalize s3.getD c 0 = x at *
  generalize s3.getD d 0 = y at *
  clear S Z BW HL HO
  go_wp2_with fail
  go_region
  rw [hE.out x y]
  generalize V3.setCell ⟨g, c, none⟩ (.int .u32 (((x + y) % 4294967296 : Nat) : Int)) = U3 at *
  clear ca cb fa ba bb
  have ca := S1.at16 HL1.out hc
  have cd := S1.at16 HL1.out hb
  have fd := S1.frozen b
  have ba := HO1.out.getD c
  have bd := HO1.out.getD b
  have S2 : ∀ k, Arr ((U3.drewN k).setCell ⟨g, b, none⟩ (.int .u32 ((rotN (t3.getD b 0 ^^^ t3.getD c 0) 25 : Nat) : Int))) g 263 ((stepN s3 c d b 7).map u32v) := fun k => by rw [HE.eq]; exact (S1.drew (n := k)).put16 b (rotN (t3.getD b 0 ^^^ t3.getD c 0) 25)
  have HL2 : Hid ((stepN s3 c d b 7).length = 16) := by show _ = _; rw [HE.eq, turnAt_len, HL1.out]
  have HO2 : Hid (Words (stepN s3 c d b 7)) := by show Words _; rw [HE.eq]; exact turnAt_ok HO1.out b c 7
  generalize t3.getD c 0 = x1 at *
  generalize t3.getD b 0 = d1 at *
  have hx := u32_xor_nat d1 x1 bd ba
  have bx : Hid (d1 ^^^ x1 < 4294967296) := xor_lt32 bd ba
  have Z2 := fun k => (Z1.drew (n := k)).setOther (a := ⟨g, b, none⟩) (by show g + 1 ≠ g; omega) (.int .u32 ((rotN (d1 ^^^ x1) 25 : Nat) : Int))
  have B2 := fun k => (below_drewN B1 k).setCell (p := ⟨g, b, none⟩) (by show w.heap.size ≤ g; omega) (.int .u32 ((rotN (d1 ^^^ x1) 25 : Nat) : Int))
  clear S1 Z1 B1 HL1 HO1 HE
  go_wp2_with fail
  refine wp_region_tail (C := fun w' => ∃ k, w' = U3.drewN k) 10 rfl rfl rfl (by kernel_rfl) (by kernel_rfl) (by kernel_rfl) (by kernel_rfl) ⟨2, rfl⟩ ?_
  simp only [List.take_succ_cons, List.take_zero]
  repeat (go_big_quiet_step ((go_at_call 272; exact Calls.quiet_of_same (turnLeft_c (d1 ^^^ x1) 7 _ bx.out (by decide) (by decide)))))
  refine wpQuiet_nil ?_
  rintro w' ⟨nq, rfl⟩ K hK
  have S := S2 nq
  have Z := Z2 nq
  have BW := B2 nq
  have HL := HL2
  have HO := HO2
  obtain ⟨s4, E3⟩ : ∃ z, Known z (stepN s3 c d b 7) := ⟨_, ⟨rfl⟩⟩
  rw [← E3.eq] at S HL HO
  clear S2 Z2 B2 HL2 HO2 ba bd hx bx
  have hz2 : Hid ((Tryz.prog.info? 263).map (·.size) = some (s4.map u32v).toArray.size) := by show _ = _; rw [(zero_of_info info_s16).2]; simp [HL.out]
  have HQ : Known (quarterN s a b c d) s4 := ⟨by rw [E3.eq, E2.eq, E1.eq, E0.eq]; rfl⟩
  have hzs : Hid (z16.toArray.size = (s4.map u32v).toArray.size) := by show _ = _; simp [HL.out, z16_len]
  clear E0 E1 E2 E3 HO
  go_wp2_with (first
    | refine wpList_load_row rfl 263 (.tmp 5) rfl g rfl 263 _ (0, 0) _ S Tryz.underlying263 rfl hz2.out ?_
    | refine wpList_store_row rfl 263 (.tmp 10) (.tmp 83) rfl (g + 1) (s4.map u32v).toArray rfl rfl 263 z16.toArray Z hz2.out hzs.out (by simp [u32v]; intros; rfl) ?_)
  exact bodyPost_ret (v := .agg (s4.map u32v).toArray) (results_cell_row Tryz.results259 _ _ (g + 1) 263 _ (0, 0) _ rfl (Z.row _) Tryz.underlying263 rfl hz2.out) rfl ⟨by rw [HQ.eq], Below.row BW (by omega) _⟩
theorem known_of {α : Type} (a : α) : ∃ z, Known z a := ⟨a, ⟨rfl⟩⟩
def rowsN (s : List Nat) (m : Nat) : Nat → List Nat
  | 0 => s
  | k + 1 => quarterN (rowsN s m k) k (4 + (k + m) % 4) (8 + (k + 2 * m) % 4) (12 + (k + 3 * m) % 4)
theorem rowsN_len (s : List Nat) (m k : Nat) : (rowsN s m k).length = s.length := by
  induction k with
  | zero => rfl
  | succ k ih => rw [rowsN, quarterN_len, ih]
theorem rowsN_ok {s : List Nat} (h : Words s) (m k : Nat) : Words (rowsN s m k) := by
  induction k with
  | zero => exact h
  | succ k ih => exact quarterN_ok ih _ _ _ _
theorem rowsN_cols (s : List Nat) : rowsN s 0 4 = colsN s 4 := by simp [rowsN, colsN]
theorem rowsN_dias (s : List Nat) : rowsN s 1 4 = diasN s 4 := by simp [rowsN, diasN]
theorem quarterTurned_l (s : List Nat) (a b c d : Nat) (ai bi ci di : Int) (h1 : ai = a) (h2 : bi = b) (h3 : ci = c) (h4 : di = d) (w : World) (hl : s.length = 16) (hok : Words s) (ha : a < 16) (hb : b < 16) (hc : c < 16) (hd : d < 16) :
    Calls Tryz.prog 259 #[.agg (s.map u32v).toArray, .int .i64 ai, .int .i64 bi, .int .i64 ci, .int .i64 di] w fun e w' => e = .returned (.agg ((quarterN s a b c d).map u32v).toArray) ∧ Below w.heap.size w w' := by
  subst h1 h2 h3 h4; exact quarterTurned_c s a b c d w hl hok ha hb hc hd
theorem sz16 : Hid (∀ s : List Nat, s.length = 16 → (Tryz.prog.info? 263).map (·.size) = some (s.map u32v).toArray.size) := fun s h => by rw [(zero_of_info info_s16).2]; simp [h]
theorem cells16 (s : List Nat) : (s.map u32v).toArray.all (·.oneCell') = true := by simp [u32v]; intros; rfl
set_option maxRecDepth 4000 in
set_option maxHeartbeats 1000000 in
theorem rowsTurned_c (s : List Nat) (m : Nat) (w : World) (hl : s.length = 16) (hok : Words s) (hm : m ≤ 1) :
    Calls Tryz.prog 271 #[.agg (s.map u32v).toArray, .func (.func 259) #[] #[], .int .i64 m] w fun e w' => e = .returned (.agg ((rowsN s m 4).map u32v).toArray) ∧ Below w.heap.size w w' := by
  have hzv : Hid (∀ w, (zeroValue 263).run Tryz.prog w = .ok (.agg z16.toArray) w) := (zero_of_info info_s16).1
  have HL : Hid (s.length = 16) := hl
  have HO : Hid (Words s) := hok
  have hmI : (m : Int) ≤ 1 := by omega
  clear hl hok
  go_enter Tryz.func271, Tryz.ntmps271
  go_wp2_with (refine wpList_alloc_arr rfl 263 rfl _ hzv.out (w.heap.size + 1) (size_alloc _ _) ?_)
  have BW : Below w.heap.size w ((w.alloc (.cells (s.map u32v).toArray 263)).alloc (.cells z16.toArray 263)) := Below.mk (alloc_below _ _) _
  have S : Arr ((w.alloc (.cells (s.map u32v).toArray 263)).alloc (.cells z16.toArray 263)) w.heap.size 263 (s.map u32v) := (Arr.new w (s.map u32v) 263).old _ _
  have Z : Arr ((w.alloc (.cells (s.map u32v).toArray 263)).alloc (.cells z16.toArray 263)) (w.heap.size + 1) 263 z16 := by
    have h := Arr.new (w.alloc (.cells (s.map u32v).toArray 263)) z16 263
    rw [size_alloc] at h
    exact h
  go_simp
  go_loopw [8] (fun i wr => ∃ k : Nat, k ≤ 4 ∧ i = .int .i64 k ∧ Arr wr w.heap.size 263 ((rowsN s m k).map u32v) ∧ Arr wr (w.heap.size + 1) 263 z16 ∧ Below w.heap.size w wr)
    (fun i _ => 4 - (intOf i).toNat)
  case atStart => exact ⟨0, Nat.zero_le _, rfl, S, Z, BW⟩
  case round =>
    clear S Z BW
    obtain ⟨k, hk, rfl, S, Z, BW⟩ := hrel
    have HLk : Hid ((rowsN s m k).length = 16) := by show _ = _; rw [rowsN_len, HL.out]
    have HOk : Hid (Words (rowsN s m k)) := rowsN_ok HO.out m k
    by_cases hlt : k < 4
    · have hkI : (k : Int) < 4 := by omega
      have HS : Known (rowsN s m (k + 1)) (quarterN (rowsN s m k) k (4 + (k + m) % 4) (8 + (k + 2 * m) % 4) (12 + (k + 3 * m) % 4)) := ⟨rfl⟩
      generalize rowsN s m k = sk at *
      have hzk := sz16.out sk HLk.out
      go_wp2_with (refine wpList_load_row rfl 263 (.tmp 3) rfl w.heap.size rfl 263 _ (0, 0) _ S Tryz.underlying263 rfl hzk ?_)
      refine (quarterTurned_l sk k (4 + (k + m) % 4) (8 + (k + 2 * m) % 4) (12 + (k + 3 * m) % 4) _ _ _ _ rfl (by omega) (by omega) (by omega) _ HLk.out HOk.out (by omega) (by omega) (by omega) (by omega)).mono ?_
      rintro e w2 ⟨rfl, hb2⟩
      have S2 := S.stay hb2
      have Z2 := Z.stay hb2
      have BW2 := Below.step BW hb2
      rw [← HS.eq]
      have HLn : Hid ((rowsN s m (k + 1)).length = 16) := by show _ = _; rw [rowsN_len, HL.out]
      clear S Z BW hb2 HS
      obtain ⟨sn, HN⟩ := known_of (rowsN s m (k + 1))
      rw [← HN.eq] at HLn ⊢
      have hzn := sz16.out sn HLn.out
      have hzs : Hid ((sk.map u32v).toArray.size = (sn.map u32v).toArray.size) := by show _ = _; simp [HLk.out, HLn.out]
      go_wp2_with (refine wpList_store_row rfl 263 (.tmp 3) (.tmp 31) rfl w.heap.size (sn.map u32v).toArray rfl rfl 263 (sk.map u32v).toArray S2 hzn hzs.out (cells16 sn) ?_)
      go_roundw
      case rel => exact ⟨k + 1, by omega, by go_num, by rw [← HN.eq]; exact S2.row (sn.map u32v), Z2.rowOther (by omega) _, Below.row BW2 (Nat.le_refl _) _⟩
      case measure => simp [intOf]; omega
    · have e : k = 4 := by omega
      subst e
      obtain ⟨sn, HN⟩ := known_of (rowsN s m 4)
      rw [← HN.eq] at S HLk HOk
      have hzn := sz16.out sn HLk.out
      have hzs : Hid (z16.toArray.size = (sn.map u32v).toArray.size) := by show _ = _; simp [HLk.out, z16_len]
      go_wp2_with (first
        | refine wpList_load_row rfl 263 (.tmp 3) rfl w.heap.size rfl 263 _ (0, 0) _ S Tryz.underlying263 rfl hzn ?_
        | refine wpList_store_row rfl 263 (.tmp 6) (.tmp 33) rfl (w.heap.size + 1) (sn.map u32v).toArray rfl rfl 263 z16.toArray Z hzn hzs.out (cells16 sn) ?_)
      exact bodyPost_ret (v := .agg (sn.map u32v).toArray) (results_cell_row Tryz.results271 _ _ (w.heap.size + 1) 263 _ (0, 0) _ rfl (Z.row _) Tryz.underlying263 rfl hzn) rfl ⟨by rw [HN.eq], Below.row BW (by omega) _⟩
theorem rowsTurned_0 (s : List Nat) (w : World) (hl : s.length = 16) (hok : Words s) :
    Calls Tryz.prog 271 #[.agg (s.map u32v).toArray, .func (.func 259) #[] #[], .int .i64 0] w fun e w' => e = .returned (.agg ((colsN s 4).map u32v).toArray) ∧ Below w.heap.size w w' := by
  rw [← rowsN_cols]; exact rowsTurned_c s 0 w hl hok (by decide)
theorem rowsTurned_1 (s : List Nat) (w : World) (hl : s.length = 16) (hok : Words s) :
    Calls Tryz.prog 271 #[.agg (s.map u32v).toArray, .func (.func 259) #[] #[], .int .i64 1] w fun e w' => e = .returned (.agg ((diasN s 4).map u32v).toArray) ∧ Below w.heap.size w w' := by
  rw [← rowsN_dias]; exact rowsTurned_c s 1 w hl hok (by decide)
set_option maxRecDepth 4000 in
set_option maxHeartbeats 1000000 in
theorem tenTimesTurned_c (s : List Nat) (w : World) (hl : s.length = 16) (hok : Words s) :
    Calls Tryz.prog 258 #[.agg (s.map u32v).toArray, .func (.func 259) #[] #[]] w fun e w' => e = .returned (.agg ((dblsN s 10).map u32v).toArray) ∧ Below w.heap.size w w' := by
  have hzv : Hid (∀ w, (zeroValue 263).run Tryz.prog w = .ok (.agg z16.toArray) w) := (zero_of_info info_s16).1
  have HL : Hid (s.length = 16) := hl
  have HO : Hid (Words s) := hok
  clear hl hok
  go_enter Tryz.func258, Tryz.ntmps258
  go_wp2_with (refine wpList_alloc_arr rfl 263 rfl _ hzv.out (w.heap.size + 1) (size_alloc _ _) ?_)
  have BW : Below w.heap.size w ((w.alloc (.cells (s.map u32v).toArray 263)).alloc (.cells z16.toArray 263)) := Below.mk (alloc_below _ _) _
  have S : Arr ((w.alloc (.cells (s.map u32v).toArray 263)).alloc (.cells z16.toArray 263)) w.heap.size 263 (s.map u32v) := (Arr.new w (s.map u32v) 263).old _ _
  have Z : Arr ((w.alloc (.cells (s.map u32v).toArray 263)).alloc (.cells z16.toArray 263)) (w.heap.size + 1) 263 z16 := by
    have h := Arr.new (w.alloc (.cells (s.map u32v).toArray 263)) z16 263
    rw [size_alloc] at h
    exact h
  go_simp
  go_loopw [5] (fun i wr => ∃ k : Nat, k ≤ 10 ∧ i = .int .i64 k ∧ Arr wr w.heap.size 263 ((dblsN s k).map u32v) ∧ Arr wr (w.heap.size + 1) 263 z16 ∧ Below w.heap.size w wr)
    (fun i _ => 10 - (intOf i).toNat)
  case atStart => exact ⟨0, Nat.zero_le _, rfl, S, Z, BW⟩
  case round =>
    clear S Z BW
    obtain ⟨k, hk, rfl, S, Z, BW⟩ := hrel
    have HLk : Hid ((dblsN s k).length = 16) := by show _ = _; rw [dblsN_len, HL.out]
    have HOk : Hid (Words (dblsN s k)) := dblsN_ok HO.out k
    by_cases hlt : k < 10
    · have hkI : (k : Int) < 10 := by omega
      have HS : Known (dblsN s (k + 1)) (diasN (colsN (dblsN s k) 4) 4) := ⟨rfl⟩
      generalize dblsN s k = sk at *
      have hzk := sz16.out sk HLk.out
      go_wp2_with (refine wpList_load_row rfl 263 (.tmp 2) rfl w.heap.size rfl 263 _ (0, 0) _ S Tryz.underlying263 rfl hzk ?_)
      refine (rowsTurned_0 sk _ HLk.out HOk.out).mono ?_
      rintro e w2 ⟨rfl, hb2⟩
      have S2 := S.stay hb2
      have Z2 := Z.stay hb2
      have BW2 := Below.step BW hb2
      have HLc : Hid ((colsN sk 4).length = 16) := by show _ = _; rw [colsN_len, HLk.out]
      have HOc : Hid (Words (colsN sk 4)) := colsN_ok HOk.out 4
      clear S Z BW hb2
      generalize colsN sk 4 = sc at *
      have hzc := sz16.out sc HLc.out
      have hzs : Hid ((sk.map u32v).toArray.size = (sc.map u32v).toArray.size) := by show _ = _; simp [HLk.out, HLc.out]
      have S3 := S2.row (sc.map u32v)
      have Z3 := Z2.rowOther (k := w.heap.size) (by omega) (sc.map u32v).toArray
      have BW3 := Below.row BW2 (Nat.le_refl w.heap.size) (sc.map u32v).toArray
      go_wp2_with (first
        | refine wpList_store_row rfl 263 (.tmp 2) (.tmp 9) rfl w.heap.size (sc.map u32v).toArray rfl rfl 263 (sk.map u32v).toArray S2 hzc hzs.out (cells16 sc) ?_
        | refine wpList_load_row rfl 263 (.tmp 2) rfl w.heap.size rfl 263 (sc.map u32v).toArray (0, 0) _ S3 Tryz.underlying263 rfl hzc ?_)
      refine (rowsTurned_1 sc _ HLc.out HOc.out).mono ?_
      rintro e w4 ⟨rfl, hb4⟩
      have S4 := S3.stay hb4
      have Z4 := Z3.stay hb4
      have BW4 := Below.step BW3 hb4
      rw [← HS.eq]
      have HLn : Hid ((dblsN s (k + 1)).length = 16) := by show _ = _; rw [dblsN_len, HL.out]
      clear S2 Z2 BW2 S3 Z3 BW3 hb4 HS
      obtain ⟨sn, HN⟩ := known_of (dblsN s (k + 1))
      rw [← HN.eq] at HLn ⊢
      have hzn := sz16.out sn HLn.out
      have hzt : Hid ((sc.map u32v).toArray.size = (sn.map u32v).toArray.size) := by show _ = _; simp [HLc.out, HLn.out]
      go_wp2_with (refine wpList_store_row rfl 263 (.tmp 2) (.tmp 12) rfl w.heap.size (sn.map u32v).toArray rfl rfl 263 (sc.map u32v).toArray S4 hzn hzt.out (cells16 sn) ?_)
      go_roundw
      case rel => exact ⟨k + 1, by omega, by go_num, by rw [← HN.eq]; exact S4.row (sn.map u32v), Z4.rowOther (by omega) _, Below.row BW4 (Nat.le_refl _) _⟩
      case measure => simp [intOf]; omega
    · have e : k = 10 := by omega
      subst e
      obtain ⟨sn, HN⟩ := known_of (dblsN s 10)
      rw [← HN.eq] at S HLk HOk
      have hzn := sz16.out sn HLk.out
      have hzs : Hid (z16.toArray.size = (sn.map u32v).toArray.size) := by show _ = _; simp [HLk.out, z16_len]
      go_wp2_with (first
        | refine wpList_load_row rfl 263 (.tmp 2) rfl w.heap.size rfl 263 _ (0, 0) _ S Tryz.underlying263 rfl hzn ?_
        | refine wpList_store_row rfl 263 (.tmp 4) (.tmp 14) rfl (w.heap.size + 1) (sn.map u32v).toArray rfl rfl 263 z16.toArray Z hzn hzs.out (cells16 sn) ?_)
      exact bodyPost_ret (v := .agg (sn.map u32v).toArray) (results_cell_row Tryz.results258 _ _ (w.heap.size + 1) 263 _ (0, 0) _ rfl (Z.row _) Tryz.underlying263 rfl hzn) rfl ⟨by rw [HN.eq], Below.row BW (by omega) _⟩
set_option maxRecDepth 4000 in
set_option maxHeartbeats 1000000 in
theorem streamBlock_c (s : List Nat) (w : World) (hl : s.length = 16) (hok : Words s) :
    Calls Tryz.prog 225 #[.agg (s.map u32v).toArray] w fun e w' => ∃ u, e = .returned u ∧ Own w' w.heap.size u (outS (dblsN s 10) s 16) ∧ Below w.heap.size w w' := by
  obtain ⟨i0, hi, hz0, hz1, hz2⟩ := info_parts info8
  have HL : Hid (s.length = 16) := hl
  have HO : Hid (Words s) := hok
  clear hl hok
  have hzs := sz16.out s HL.out
  have S : Arr (w.alloc (.cells (s.map u32v).toArray 263)) w.heap.size 263 (s.map u32v) := Arr.new w (s.map u32v) 263
  have BW : Below w.heap.size w (w.alloc (.cells (s.map u32v).toArray 263)) := alloc_below _ _
  go_enter Tryz.func225, Tryz.ntmps225
  go_wp2_with (refine wpList_load_row rfl 263 (.tmp 1) rfl w.heap.size rfl 263 (s.map u32v).toArray (0, 0) _ S Tryz.underlying263 rfl hzs ?_)
  refine (tenTimesTurned_c s _ HL.out HO.out).mono ?_
  rintro e w2 ⟨rfl, hb2⟩
  replace S := S.stay hb2
  replace BW := Below.step BW hb2
  clear hb2
  have HLd : Hid ((dblsN s 10).length = 16) := by show _ = _; rw [dblsN_len, HL.out]
  have HOd : Hid (Words (dblsN s 10)) := dblsN_ok HO.out 10
  obtain ⟨sz, HZ⟩ := known_of (dblsN s 10)
  rw [← HZ.eq] at HLd HOd ⊢
  have hzz := sz16.out sz HLd.out
  have hzv : Hid (∀ w, (zeroValue 263).run Tryz.prog w = .ok (.agg z16.toArray) w) := (zero_of_info info_s16).1
  have hzq : Hid (z16.toArray.size = (sz.map u32v).toArray.size) := by show _ = _; simp [HLd.out, z16_len]
  have D : Arr (w2.alloc (.cells z16.toArray 263)) w2.heap.size 263 z16 := Arr.new w2 z16 263
  have hgz : Hid (w.heap.size < w2.heap.size) := S.lt
  replace S := (S.old _ (.cells z16.toArray 263)).rowOther (k := w2.heap.size) (by have := hgz.out; omega) (sz.map u32v).toArray
  replace BW := Below.row (Below.mk BW (.cells z16.toArray 263)) (g := w2.heap.size) (by have := hgz.out; omega) (sz.map u32v).toArray
  have D2 := D.row (sz.map u32v)
  go_wp2_with (first
    | refine wpList_alloc_arr rfl 263 rfl _ hzv.out w2.heap.size rfl ?_
    | refine wpList_store_row rfl 263 (.tmp 3) (.tmp 9) rfl w2.heap.size (sz.map u32v).toArray rfl rfl 263 z16.toArray D hzz hzq.out (cells16 sz) ?_
    | (at_make; go_loud (refine wpList_make_own _ rfl (.const (.int .i64 0)) (.const (.int .i64 64)) 22 rfl (w2.heap.size + 1) 5 i0 (.int .u8 0) 1 Tryz.underlying22 hi hz0 hz1 .i64 .i64 _ 64 rfl rfl rfl (by rw [hz2]; decide) (by unfold maxLen; decide) (by simp) ?_); intro w3 hown hgrow; replace S := S.other hgrow (by simp); replace D2 := D2.other hgrow (by simp))
    | refine wpList_load_row rfl 263 (.tmp 1) rfl w.heap.size rfl 263 (s.map u32v).toArray (0, 0) _ S Tryz.underlying263 rfl hzs ?_)
  have BW3 : Below w.heap.size w w3 := BW.grown hgrow BW.size (fun k hk => by simp at hk)
  have hgz3 : Hid (w2.heap.size < w3.heap.size) := D2.lt
  clear hgrow D BW hzz hzq hzv hzs
  rw [size_setRow, size_alloc] at hown
  generalize w2.heap.size = g2 at *
  go_loopw [4, 12] (fun v i wr => ∃ j : Nat, j ≤ 16 ∧ i = .int .i64 j ∧ Own wr (g2 + 1) v (outS sz s j) ∧ Arr wr g2 263 (sz.map u32v) ∧ Below w.heap.size w wr)
    (fun _ i _ => 16 - (intOf i).toNat)
  case atStart => exact ⟨0, Nat.zero_le _, rfl, hown, D2, BW3⟩
  case round =>
    clear hown D2 BW3
    obtain ⟨j, hj, rfl, ho, D, BW⟩ := hrel
    have HLo : Hid ((outS sz s j).length = 4 * j) := outS_len sz s j
    obtain ⟨po, qo, rfl, -⟩ := ho.rd
    rw [HLo.out] at ho ⊢
    by_cases hjl : j < 16
    · have hjI : (j : Int) < 16 := by omega
      have HS : Known (outS sz s (j + 1)) (outS sz s j ++ putL (sumAt sz s j)) := ⟨outS_succ sz s j⟩
      have hsum : Hid (((sumAt sz s j : Nat) : Int) = ((sz.getD j 0 : Nat) + (s.getD j 0 : Nat) : Int) % 4294967296) := by show _ = _; unfold sumAt; omega
      have hsl : sumAt sz s j < 4294967296 := Nat.mod_lt _ (by decide)
      have cd := D.at16 HLd.out hjl
      have hx : (s.map u32v).toArray[j]? = some (.int .u32 (s.getD j 0 : Nat)) := by have := HL.out; rw [List.getElem?_toArray]; simp [u32v, show j < s.length by omega]
      generalize sumAt sz s j = x at *
      generalize sz.getD j 0 = xa at *
      generalize s.getD j 0 = xf at *
      have ho2 := fun o => ho.stay (alloc_below wr o)
      have D2 := fun o => D.old wr o
      go_wp2_with (first
        | refine wpList_index_arr rfl 263 (.tmp 11) (.tmp 12) rfl 16 167 _ j .i64 .u32 (.int .u32 (xf : Nat)) rfl rfl Tryz.underlying263 hjl (by kernel_rfl) Tryz.underlying167 hx ?_
        | (at_builtin; go_loud (refine wpList_append_rd rfl (.tmp 21) (.tmp 33) rfl (g2 + 1) _ (outS sz s j) rfl (ho2 _) _ 4 (putL x) rfl (putL_rd wr x hsl _ _ _ _ _ (by have := hsum.out; omega) (by have := hsum.out; omega) (by have := hsum.out; omega) (by have := hsum.out; omega)) (by have := HLo.out; simp [putL]; omega) (by have := D.lt; simp; omega) ?_); intro v8 w8 ho8 hg8))
      rw [← HS.eq] at ho8
      have D8 := (D2 _).other hg8 (fun e => by have := ho.ge g2 e; omega)
      have BW8 := (Below.mk BW _).grown hg8 (Below.mk BW _).size (fun k hk => by have := ho.ge k hk; have := hgz.out; omega)
      clear ho ho2 D D2 BW hg8 hx cd
      go_roundw
      case rel => exact ⟨j + 1, by omega, by go_num, ho8, D8, BW8⟩
      case measure => simp [intOf]; omega
    · have e : j = 16 := by omega
      subst e
      go_wp2_with fail
      go_ret
      exact ⟨_, rfl, by rw [← HZ.eq]; exact ho.lower (by have := hgz.out; omega), BW⟩
end Go.Proofs.YtdbpnibcblelbaaGreatDoor
