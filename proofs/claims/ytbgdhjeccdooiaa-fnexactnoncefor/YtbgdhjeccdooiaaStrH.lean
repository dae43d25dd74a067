/- The contracts of the stream in the program: impl.turnLeft, impl.isKeyAndNonce, impl.startFault, impl.lowFirstWord, impl.quarterTurned, impl.rowsTurned, impl.tenTimesTurned, impl.streamBlock (arrays by value: what comes in stays as it was). -/
import Derived.Test.YtbgdhjeccdooiaaStrY
namespace Go.Proofs.Ytbgdhjeccdooiaa
open Go.ChangeShapes Go.WideShapes Go.ChangeAt Go.RowKit

set_option maxHeartbeats 400000 in
theorem turnLeft_c (v n : Nat) (w : World) (h2 : v < 4294967296) (h3 : 1 ≤ n) (h4 : n ≤ 31) :
    Calls Try.prog 34 #[.int .u32 v, .int .i64 n] w fun e w' => e = .returned (.int .u32 (rotN v (32 - n) : Nat)) ∧ w' = w := by
  have K : Hid (∀ (w : World) (m : Int), m = ((32 - n : Nat) : Int) → Calls Try.prog 37 #[.int .u32 v, .int .i64 m] w fun e w' => e = .returned (.int .u32 (rotN v (32 - n) : Nat)) ∧ w' = w) := fun w m hm => by subst hm; exact turnRight_c v (32 - n) w h2 (by omega)
  go_enter Try.func34, Try.ntmps34
  go_wp2_with fail
  refine (K.out _ _ (by omega)).mono ?_
  rintro e w' ⟨rfl, rfl⟩
  go_wp2
  go_ret
  exact ⟨rfl, rfl⟩




def z16 : List Value := List.replicate 16 (.int .u32 0)
theorem z16_len : z16.length = 16 := by simp [z16]
theorem Arr.at16 {w : World} {g a n : Nat} {t : TypeId} {s : List Nat} (h : Arr w g t (s.map u32v)) (hl : s.length = n) (ha : a < n) : w.cell? ⟨g, a, none⟩ = some (.int .u32 (s.getD a 0 : Nat)) := by
  rw [h.cell]
  have : a < s.length := by omega
  simp [u32v, this]
theorem Arr.put16 {w : World} {g : Nat} {t : TypeId} {s : List Nat} (h : Arr w g t (s.map u32v)) (a x : Nat) : Arr (w.setCell ⟨g, a, none⟩ (.int .u32 (x : Int))) g t ((s.set a x).map u32v) := by
  rw [List.map_set]; exact h.set a (.int .u32 (x : Int))
theorem info_s16 : (Try.prog.info? 50).map (fun i => (i.zero, i.size)) = some (some (.agg z16.toArray), 16) := by kernel_rfl
set_option maxRecDepth 4000 in
set_option maxHeartbeats 1000000 in
theorem quarterTurned_c (s : List Nat) (a b c d : Nat) (w : World) (hl : s.length = 16) (hok : Words s) (ha : a < 16) (hb : b < 16) (hc : c < 16) (hd : d < 16) :
    Calls Try.prog 27 #[.agg (s.map u32v).toArray, .int .i64 a, .int .i64 b, .int .i64 c, .int .i64 d] w fun e w' => e = .returned (.agg ((quarterN s a b c d).map u32v).toArray) ∧ Below w.heap.size w w' := by
  have hzv : Hid (∀ w, (zeroValue 50).run Try.prog w = .ok (.agg z16.toArray) w) := (zero_of_info info_s16).1
  have HL : Hid (s.length = 16) := hl
  have HO : Hid (Words s) := hok
  have hE : Hid (∀ x y : Nat, (((x : Int) + (y : Int)) % 4294967296) = (((x + y) % 4294967296 : Nat) : Int)) := fun x y => by omega
  clear hl hok
  go_enter Try.func27, Try.ntmps27
  go_wp2_with (refine wpList_alloc_arr rfl 50 rfl _ hzv.out (w.heap.size + 1) (size_alloc _ _) ?_)
  have BW : Below w.heap.size w ((w.alloc (.cells (s.map u32v).toArray 50)).alloc (.cells z16.toArray 50)) := Below.mk (alloc_below _ _) _
  have S : Arr ((w.alloc (.cells (s.map u32v).toArray 50)).alloc (.cells z16.toArray 50)) w.heap.size 50 (s.map u32v) := (Arr.new w (s.map u32v) 50).old _ _
  have Z : Arr ((w.alloc (.cells (s.map u32v).toArray 50)).alloc (.cells z16.toArray 50)) (w.heap.size + 1) 50 z16 := by
    have h := Arr.new (w.alloc (.cells (s.map u32v).toArray 50)) z16 50
    rw [size_alloc] at h
    exact h
  generalize (w.alloc (.cells (s.map u32v).toArray 50)).alloc (.cells z16.toArray 50) = V0 at *
  have hg : w.heap.size ≤ w.heap.size := Nat.le_refl _
  obtain ⟨g, hgs⟩ : ∃ g, g = w.heap.size := ⟨_, rfl⟩
  rw [← hgs] at S Z
  simp only [← hgs]
  have hg2 : w.heap.size ≤ g := by omega
  clear hgs hg hzv
  have ia : (a : Int) < 16 := by omega
  have ib : (b : Int) < 16 := by omega
  have ic : (c : Int) < 16 := by omega
  have id : (d : Int) < 16 := by omega
  go_simp
  have ca := S.at16 HL.out ha
  have cb := S.at16 HL.out hb
  have fa := S.frozen a
  have ba := HO.out.getD a
  have bb := HO.out.getD b
  have S1 := S.put16 a ((s.getD a 0 + s.getD b 0) % 4294967296)
  rw [show s.set a ((s.getD a 0 + s.getD b 0) % 4294967296) = addAt s a b from rfl] at S1
  have Z1 := Z.setOther (a := ⟨g, a, none⟩) (by show g + 1 ≠ g; omega) (.int .u32 (((s.getD a 0 + s.getD b 0) % 4294967296 : Nat) : Int))
  have B1 := BW.setCell (p := ⟨g, a, none⟩) (by show w.heap.size ≤ g; omega) (.int .u32 (((s.getD a 0 + s.getD b 0) % 4294967296 : Nat) : Int))
  have HL1 : Hid ((addAt s a b).length = 16) := by show _ = _; rw [addAt_len, HL.out]
  have HO1 : Hid (Words (addAt s a b)) := addAt_ok HO.out a b
  have HE : Known (stepN s a b d 16) (turnAt (addAt s a b) d a 16) := ⟨rfl⟩
  generalize addAt s a b = t0 at *
  generalize s.getD a 0 = x at *
  generalize s.getD b 0 = y at *
  clear S Z BW HL HO
  go_wp2_with fail
  go_region
  rw [hE.out x y]
  generalize V0.setCell ⟨g, a, none⟩ (.int .u32 (((x + y) % 4294967296 : Nat) : Int)) = U0 at *
  clear ca cb fa ba bb
  have ca := S1.at16 HL1.out ha
  have cd := S1.at16 HL1.out hd
  have fd := S1.frozen d
  have ba := HO1.out.getD a
  have bd := HO1.out.getD d
  have S2 : ∀ k, Arr ((U0.drewN k).setCell ⟨g, d, none⟩ (.int .u32 ((rotN (t0.getD d 0 ^^^ t0.getD a 0) 16 : Nat) : Int))) g 50 ((stepN s a b d 16).map u32v) := fun k => by rw [HE.eq]; exact (S1.drew (n := k)).put16 d (rotN (t0.getD d 0 ^^^ t0.getD a 0) 16)
  have HL2 : Hid ((stepN s a b d 16).length = 16) := by show _ = _; rw [HE.eq, turnAt_len, HL1.out]
  have HO2 : Hid (Words (stepN s a b d 16)) := by show Words _; rw [HE.eq]; exact turnAt_ok HO1.out d a 16
  generalize t0.getD a 0 = x1 at *
  generalize t0.getD d 0 = d1 at *
  have hx := u32_xor_nat d1 x1 bd ba
  have bx : Hid (d1 ^^^ x1 < 4294967296) := xor_lt32 bd ba
  have Z2 := fun k => (Z1.drew (n := k)).setOther (a := ⟨g, d, none⟩) (by show g + 1 ≠ g; omega) (.int .u32 ((rotN (d1 ^^^ x1) 16 : Nat) : Int))
  have B2 := fun k => (below_drewN B1 k).setCell (p := ⟨g, d, none⟩) (by show w.heap.size ≤ g; omega) (.int .u32 ((rotN (d1 ^^^ x1) 16 : Nat) : Int))
  clear S1 Z1 B1 HL1 HO1 HE
  go_wp2_with fail
  refine wp_region_tail (C := fun w' => ∃ k, w' = U0.drewN k) 10 rfl rfl rfl (by kernel_rfl) (by kernel_rfl) (by kernel_rfl) (by kernel_rfl) ⟨2, rfl⟩ ?_
  simp only [List.take_succ_cons, List.take_zero]
  repeat (go_big_quiet_step ((go_at_call 34; exact Calls.quiet_of_same (turnLeft_c (d1 ^^^ x1) 16 _ bx.out (by decide) (by decide)))))
  refine wpQuiet_nil ?_
  rintro w' ⟨nq, rfl⟩ K hK
  go_wp2_with fail
  have S := S2 nq
  have Z := Z2 nq
  have BW := B2 nq
  have HL := HL2
  have HO := HO2
  obtain ⟨s1, E0⟩ : ∃ z, Known z (stepN s a b d 16) := ⟨_, ⟨rfl⟩⟩
  rw [← E0.eq] at S HL HO
  generalize (U0.drewN nq).setCell ⟨g, d, none⟩ (.int .u32 ((rotN (d1 ^^^ x1) 16 : Nat) : Int)) = V1 at *
  clear S2 Z2 B2 HL2 HO2 ca cd fd ba bd hx bx
  have ca := S.at16 HL.out hc
  have cb := S.at16 HL.out hd
  have fa := S.frozen c
  have ba := HO.out.getD c
  have bb := HO.out.getD d
  have S1 := S.put16 c ((s1.getD c 0 + s1.getD d 0) % 4294967296)
  rw [show s1.set c ((s1.getD c 0 + s1.getD d 0) % 4294967296) = addAt s1 c d from rfl] at S1
  have Z1 := Z.setOther (a := ⟨g, c, none⟩) (by show g + 1 ≠ g; omega) (.int .u32 (((s1.getD c 0 + s1.getD d 0) % 4294967296 : Nat) : Int))
  have B1 := BW.setCell (p := ⟨g, c, none⟩) (by show w.heap.size ≤ g; omega) (.int .u32 (((s1.getD c 0 + s1.getD d 0) % 4294967296 : Nat) : Int))
  have HL1 : Hid ((addAt s1 c d).length = 16) := by show _ = _; rw [addAt_len, HL.out]
  have HO1 : Hid (Words (addAt s1 c d)) := addAt_ok HO.out c d
  have HE : Known (stepN s1 c d b 12) (turnAt (addAt s1 c d) b c 12) := ⟨rfl⟩
  generalize addAt s1 c d = t1 at *
  generalize s1.getD c 0 = x at *
  generalize s1.getD d 0 = y at *
  clear S Z BW HL HO
  go_wp2_with fail
  go_region
  rw [hE.out x y]
  generalize V1.setCell ⟨g, c, none⟩ (.int .u32 (((x + y) % 4294967296 : Nat) : Int)) = U1 at *
  clear ca cb fa ba bb
  have ca := S1.at16 HL1.out hc
  have cd := S1.at16 HL1.out hb
  have fd := S1.frozen b
  have ba := HO1.out.getD c
  have bd := HO1.out.getD b
  have S2 : ∀ k, Arr ((U1.drewN k).setCell ⟨g, b, none⟩ (.int .u32 ((rotN (t1.getD b 0 ^^^ t1.getD c 0) 20 : Nat) : Int))) g 50 ((stepN s1 c d b 12).map u32v) := fun k => by rw [HE.eq]; exact (S1.drew (n := k)).put16 b (rotN (t1.getD b 0 ^^^ t1.getD c 0) 20)
  have HL2 : Hid ((stepN s1 c d b 12).length = 16) := by show _ = _; rw [HE.eq, turnAt_len, HL1.out]
  have HO2 : Hid (Words (stepN s1 c d b 12)) := by show Words _; rw [HE.eq]; exact turnAt_ok HO1.out b c 12
  generalize t1.getD c 0 = x1 at *
  generalize t1.getD b 0 = d1 at *
  have hx := u32_xor_nat d1 x1 bd ba
  have bx : Hid (d1 ^^^ x1 < 4294967296) := xor_lt32 bd ba
  have Z2 := fun k => (Z1.drew (n := k)).setOther (a := ⟨g, b, none⟩) (by show g + 1 ≠ g; omega) (.int .u32 ((rotN (d1 ^^^ x1) 20 : Nat) : Int))
  have B2 := fun k => (below_drewN B1 k).setCell (p := ⟨g, b, none⟩) (by show w.heap.size ≤ g; omega) (.int .u32 ((rotN (d1 ^^^ x1) 20 : Nat) : Int))
  clear S1 Z1 B1 HL1 HO1 HE
  go_wp2_with fail
  refine wp_region_tail (C := fun w' => ∃ k, w' = U1.drewN k) 10 rfl rfl rfl (by kernel_rfl) (by kernel_rfl) (by kernel_rfl) (by kernel_rfl) ⟨2, rfl⟩ ?_
  simp only [List.take_succ_cons, List.take_zero]
  repeat (go_big_quiet_step ((go_at_call 34; exact Calls.quiet_of_same (turnLeft_c (d1 ^^^ x1) 12 _ bx.out (by decide) (by decide)))))
  refine wpQuiet_nil ?_
  rintro w' ⟨nq, rfl⟩ K hK
  go_wp2_with fail
  have S := S2 nq
  have Z := Z2 nq
  have BW := B2 nq
  have HL := HL2
  have HO := HO2
  obtain ⟨s2, E1⟩ : ∃ z, Known z (stepN s1 c d b 12) := ⟨_, ⟨rfl⟩⟩
  rw [← E1.eq] at S HL HO
  generalize (U1.drewN nq).setCell ⟨g, b, none⟩ (.int .u32 ((rotN (d1 ^^^ x1) 20 : Nat) : Int)) = V2 at *
  clear S2 Z2 B2 HL2 HO2 ca cd fd ba bd hx bx
  have ca := S.at16 HL.out ha
  have cb := S.at16 HL.out hb
  have fa := S.frozen a
  have ba := HO.out.getD a
  have bb := HO.out.getD b
  have S1 := S.put16 a ((s2.getD a 0 + s2.getD b 0) % 4294967296)
  rw [show s2.set a ((s2.getD a 0 + s2.getD b 0) % 4294967296) = addAt s2 a b from rfl] at S1
  have Z1 := Z.setOther (a := ⟨g, a, none⟩) (by show g + 1 ≠ g; omega) (.int .u32 (((s2.getD a 0 + s2.getD b 0) % 4294967296 : Nat) : Int))
  have B1 := BW.setCell (p := ⟨g, a, none⟩) (by show w.heap.size ≤ g; omega) (.int .u32 (((s2.getD a 0 + s2.getD b 0) % 4294967296 : Nat) : Int))
  have HL1 : Hid ((addAt s2 a b).length = 16) := by show _ = _; rw [addAt_len, HL.out]
  have HO1 : Hid (Words (addAt s2 a b)) := addAt_ok HO.out a b
  have HE : Known (stepN s2 a b d 8) (turnAt (addAt s2 a b) d a 8) := ⟨rfl⟩
  generalize addAt s2 a b = t2 at *
  generalize s2.getD a 0 = x at *
  generalize s2.getD b 0 = y at *
  clear S Z BW HL HO
  go_wp2_with fail
  go_region
  rw [hE.out x y]
  generalize V2.setCell ⟨g, a, none⟩ (.int .u32 (((x + y) % 4294967296 : Nat) : Int)) = U2 at *
  clear ca cb fa ba bb
  have ca := S1.at16 HL1.out ha
  have cd := S1.at16 HL1.out hd
  have fd := S1.frozen d
  have ba := HO1.out.getD a
  have bd := HO1.out.getD d
  have S2 : ∀ k, Arr ((U2.drewN k).setCell ⟨g, d, none⟩ (.int .u32 ((rotN (t2.getD d 0 ^^^ t2.getD a 0) 24 : Nat) : Int))) g 50 ((stepN s2 a b d 8).map u32v) := fun k => by rw [HE.eq]; exact (S1.drew (n := k)).put16 d (rotN (t2.getD d 0 ^^^ t2.getD a 0) 24)
  have HL2 : Hid ((stepN s2 a b d 8).length = 16) := by show _ = _; rw [HE.eq, turnAt_len, HL1.out]
  have HO2 : Hid (Words (stepN s2 a b d 8)) := by show Words _; rw [HE.eq]; exact turnAt_ok HO1.out d a 8
  generalize t2.getD a 0 = x1 at *
  generalize t2.getD d 0 = d1 at *
  have hx := u32_xor_nat d1 x1 bd ba
  have bx : Hid (d1 ^^^ x1 < 4294967296) := xor_lt32 bd ba
  have Z2 := fun k => (Z1.drew (n := k)).setOther (a := ⟨g, d, none⟩) (by show g + 1 ≠ g; omega) (.int .u32 ((rotN (d1 ^^^ x1) 24 : Nat) : Int))
  have B2 := fun k => (below_drewN B1 k).setCell (p := ⟨g, d, none⟩) (by show w.heap.size ≤ g; omega) (.int .u32 ((rotN (d1 ^^^ x1) 24 : Nat) : Int))
  clear S1 Z1 B1 HL1 HO1 HE
  go_wp2_with fail
  refine wp_region_tail (C := fun w' => ∃ k, w' = U2.drewN k) 10 rfl rfl rfl (by kernel_rfl) (by kernel_rfl) (by kernel_rfl) (by kernel_rfl) ⟨2, rfl⟩ ?_
  simp only [List.take_succ_cons, List.take_zero]
  repeat (go_big_quiet_step ((go_at_call 34; exact Calls.quiet_of_same (turnLeft_c (d1 ^^^ x1) 8 _ bx.out (by decide) (by decide)))))
  refine wpQuiet_nil ?_
  rintro w' ⟨nq, rfl⟩ K hK
  go_wp2_with fail
  have S := S2 nq
  have Z := Z2 nq
  have BW := B2 nq
  have HL := HL2
  have HO := HO2
  obtain ⟨s3, E2⟩ : ∃ z, Known z (stepN s2 a b d 8) := ⟨_, ⟨rfl⟩⟩
  rw [← E2.eq] at S HL HO
  generalize (U2.drewN nq).setCell ⟨g, d, none⟩ (.int .u32 ((rotN (d1 ^^^ x1) 24 : Nat) : Int)) = V3 at *
  clear S2 Z2 B2 HL2 HO2 ca cd fd ba bd hx bx
  have ca := S.at16 HL.out hc
  have cb := S.at16 HL.out hd
  have fa := S.frozen c
  have ba := HO.out.getD c
  have bb := HO.out.getD d
  have S1 := S.put16 c ((s3.getD c 0 + s3.getD d 0) % 4294967296)
  rw [show s3.set c ((s3.getD c 0 + s3.getD d 0) % 4294967296) = addAt s3 c d from rfl] at S1
  have Z1 := Z.setOther (a := ⟨g, c, none⟩) (by show g + 1 ≠ g; omega) (.int .u32 (((s3.getD c 0 + s3.getD d 0) % 4294967296 : Nat) : Int))
  have B1 := BW.setCell (p := ⟨g, c, none⟩) (by show w.heap.size ≤ g; omega) (.int .u32 (((s3.getD c 0 + s3.getD d 0) % 4294967296 : Nat) : Int))
  have HL1 : Hid ((addAt s3 c d).length = 16) := by show _ = _; rw [addAt_len, HL.out]
  have HO1 : Hid (Words (addAt s3 c d)) := addAt_ok HO.out c d
  have HE : Known (stepN s3 c d b 7) (turnAt (addAt s3 c d) b c 7) := ⟨rfl⟩
  generalize addAt s3 c d = t3 at *
  generalize s3.getD c 0 = x at *
  generalize s3.getD d 0 = y at *
  clear S Z BW HL HO
  go_wp2_with fail
  go_region
  rw [hE.out x y]
  generalize V3.setCell ⟨g, c, none⟩ (.int .u32 (((x + y) % 4294967296 : Nat) : Int)) = U3 at *
  clear ca cb fa ba bb
  have ca := S1.at16 HL1.out hc
  have cd := S1.at16 HL1.out hb
  have fd := S1.frozen b
  have ba := HO1.out.getD c
  have bd := HO1.out.getD b
  have S2 : ∀ k, Arr ((U3.drewN k).setCell ⟨g, b, none⟩ (.int .u32 ((rotN (t3.getD b 0 ^^^ t3.getD c 0) 25 : Nat) : Int))) g 50 ((stepN s3 c d b 7).map u32v) := fun k => by rw [HE.eq]; exact (S1.drew (n := k)).put16 b (rotN (t3.getD b 0 ^^^ t3.getD c 0) 25)
  have HL2 : Hid ((stepN s3 c d b 7).length = 16) := by show _ = _; rw [HE.eq, turnAt_len, HL1.out]
  have HO2 : Hid (Words (stepN s3 c d b 7)) := by show Words _; rw [HE.eq]; exact turnAt_ok HO1.out b c 7
  generalize t3.getD c 0 = x1 at *
  generalize t3.getD b 0 = d1 at *
  have hx := u32_xor_nat d1 x1 bd ba
  have bx : Hid (d1 ^^^ x1 < 4294967296) := xor_lt32 bd ba
  have Z2 := fun k => (Z1.drew (n := k)).setOther (a := ⟨g, b, none⟩) (by show g + 1 ≠ g; omega) (.int .u32 ((rotN (d1 ^^^ x1) 25 : Nat) : Int))
  have B2 := fun k => (below_drewN B1 k).setCell (p := ⟨g, b, none⟩) (by show w.heap.size ≤ g; omega) (.int .u32 ((rotN (d1 ^^^ x1) 25 : Nat) : Int))
  clear S1 Z1 B1 HL1 HO1 HE
  go_wp2_with fail
  refine wp_region_tail (C := fun w' => ∃ k, w' = U3.drewN k) 10 rfl rfl rfl (by kernel_rfl) (by kernel_rfl) (by kernel_rfl) (by kernel_rfl) ⟨2, rfl⟩ ?_
  simp only [List.take_succ_cons, List.take_zero]
  repeat (go_big_quiet_step ((go_at_call 34; exact Calls.quiet_of_same (turnLeft_c (d1 ^^^ x1) 7 _ bx.out (by decide) (by decide)))))
  refine wpQuiet_nil ?_
  rintro w' ⟨nq, rfl⟩ K hK
  have S := S2 nq
  have Z := Z2 nq
  have BW := B2 nq
  have HL := HL2
  have HO := HO2
  obtain ⟨s4, E3⟩ : ∃ z, Known z (stepN s3 c d b 7) := ⟨_, ⟨rfl⟩⟩
  rw [← E3.eq] at S HL HO
  clear S2 Z2 B2 HL2 HO2 ba bd hx bx
  have hz2 : Hid ((Try.prog.info? 50).map (·.size) = some (s4.map u32v).toArray.size) := by show _ = _; rw [(zero_of_info info_s16).2]; simp [HL.out]
  have HQ : Known (quarterN s a b c d) s4 := ⟨by rw [E3.eq, E2.eq, E1.eq, E0.eq]; rfl⟩
  have hzs : Hid (z16.toArray.size = (s4.map u32v).toArray.size) := by show _ = _; simp [HL.out, z16_len]
  clear E0 E1 E2 E3 HO
  go_wp2_with (first
    | refine wpList_load_row rfl 50 (.tmp 5) rfl g rfl 50 _ (0, 0) _ S Try.underlying50 rfl hz2.out ?_
    | refine wpList_store_row rfl 50 (.tmp 10) (.tmp 83) rfl (g + 1) (s4.map u32v).toArray rfl rfl 50 z16.toArray Z hz2.out hzs.out (by simp [u32v]; intros; rfl) ?_)
  exact bodyPost_ret (v := .agg (s4.map u32v).toArray) (results_cell_row Try.results27 _ _ (g + 1) 50 _ (0, 0) _ rfl (Z.row _) Try.underlying50 rfl hz2.out) rfl ⟨by rw [HQ.eq], Below.row BW (by omega) _⟩

theorem known_of {α : Type} (a : α) : ∃ z, Known z a := ⟨a, ⟨rfl⟩⟩
def rowsN (s : List Nat) (m : Nat) : Nat → List Nat
  | 0 => s
  | k + 1 => quarterN (rowsN s m k) k (4 + (k + m) % 4) (8 + (k + 2 * m) % 4) (12 + (k + 3 * m) % 4)
theorem rowsN_len (s : List Nat) (m k : Nat) : (rowsN s m k).length = s.length := by
  induction k with
  | zero => rfl
  | succ k ih => rw [rowsN, quarterN_len, ih]
theorem rowsN_ok {s : List Nat} (h : Words s) (m k : Nat) : Words (rowsN s m k) := by
  induction k with
  | zero => exact h
  | succ k ih => exact quarterN_ok ih _ _ _ _
theorem rowsN_cols (s : List Nat) : rowsN s 0 4 = colsN s 4 := by simp [rowsN, colsN]
theorem rowsN_dias (s : List Nat) : rowsN s 1 4 = diasN s 4 := by simp [rowsN, diasN]
theorem quarterTurned_l (s : List Nat) (a b c d : Nat) (ai bi ci di : Int) (h1 : ai = a) (h2 : bi = b) (h3 : ci = c) (h4 : di = d) (w : World) (hl : s.length = 16) (hok : Words s) (ha : a < 16) (hb : b < 16) (hc : c < 16) (hd : d < 16) :
    Calls Try.prog 27 #[.agg (s.map u32v).toArray, .int .i64 ai, .int .i64 bi, .int .i64 ci, .int .i64 di] w fun e w' => e = .returned (.agg ((quarterN s a b c d).map u32v).toArray) ∧ Below w.heap.size w w' := by
  subst h1 h2 h3 h4; exact quarterTurned_c s a b c d w hl hok ha hb hc hd
theorem sz16 : Hid (∀ s : List Nat, s.length = 16 → (Try.prog.info? 50).map (·.size) = some (s.map u32v).toArray.size) := fun s h => by rw [(zero_of_info info_s16).2]; simp [h]
theorem cells16 (s : List Nat) : (s.map u32v).toArray.all (·.oneCell') = true := by simp [u32v]; intros; rfl

end Go.Proofs.Ytbgdhjeccdooiaa
