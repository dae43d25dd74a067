/- The contracts of the program's macs: impl.maskedBlock (each byte of a block xor a mask), impl.macOver (macN of all pieces): where the two tables hold what the program's text lays (Tabs). What was there stays. -/
import Derived.Test.YtflhoefocjmihaaGreatDoorJoint12
import Derived.Test.YtflhoefocjmihaaGreatDoorJoint15
import Derived.Test.YtflhoefocjmihaaGreatDoorMacS
import Derived.Test.YtflhoefocjmihaaGreatDoorJoint1
namespace Go.Proofs.YtflhoefocjmihaaGreatDoor
open Go.ChangeShapes Go.WideShapes Go.ChangeAt Go.RowKit

theorem info_mb : (Tryz.prog.info? 207).map (fun i => (i.zero, i.size)) = some (some (.agg (List.replicate 64 (Value.int .u8 0)).toArray), 64) := by kernel_rfl
set_option maxRecDepth 4000 in
set_option maxHeartbeats 1000000 in
theorem maskedBlock_c (ks : List UInt8) (x : UInt8) (xi : Int) (hx : xi = (x.toNat : Int)) (w : World) (h64 : ks.length = 64) :
    Calls Tryz.prog 172 #[.agg (ks.map u8v).toArray, .int .u8 xi] w fun e w' => ∃ u, e = .returned u ∧ Own w' w.heap.size u (ks.map (· ^^^ x)) ∧ Below w.heap.size w w' := by
  subst hx
  obtain ⟨i0, hi, hz0, hz1, hz2⟩ := info_parts info8
  have HL : Hid (ks.length = 64) := h64
  have hsz : Hid ((Tryz.prog.info? 207).map (·.size) = some (ks.map u8v).toArray.size) := by show _ = _; rw [(zero_of_info info_mb).2]; simp [h64]
  have B : Arr (w.alloc (.cells (ks.map u8v).toArray 207)) w.heap.size 207 (ks.map u8v) := Arr.new _ _ _
  clear h64
  go_enter Tryz.func172, Tryz.ntmps172
  go_wp2_with (first
    | (at_make; go_loud (refine wpList_make_full _ rfl (.const (.int .i64 64)) (.const (.int .i64 64)) 22 rfl w.heap.size 5 i0 (.int .u8 0) 1 Tryz.underlying22 hi hz0 hz1 .i64 .i64 _ _ 64 rfl rfl rfl rfl (by rw [hz2]; decide) (by unfold maxLen; decide) (by simp) ?_); intro w1 hown hgrow; replace B := B.other hgrow (by simp))
    | refine wpList_load_row rfl 207 (.tmp 2) rfl w.heap.size rfl 207 (ks.map u8v).toArray (0, 0) _ B Tryz.underlying207 rfl hsz.out ?_)
  have hA1 : Arr w1 (w.heap.size + 1) 5 ((zs 64).map u8v) := by
    have h := (made_zeros hown).arr (zs_len 64)
    rw [size_alloc] at h
    exact h
  have BW : Below w.heap.size w w1 := (alloc_below _ _).grown hgrow (by simp) (fun k hk => by simp at hk)
  obtain ⟨ys, hys⟩ : ∃ ys, Hid (ys = ks.map (· ^^^ x)) := ⟨_, rfl⟩
  have HY : Hid (ys.length = 64) := by show _ = _; rw [hys.out, List.length_map]; exact HL.out
  clear hown hgrow hi hz0 hz1 hz2 B hsz
  go_loopw [10] (fun i wr => ∃ j : Nat, j ≤ 64 ∧ i = .int .i64 j ∧ Arr wr (w.heap.size + 1) 5 (part ys ys.length j) ∧ Below w.heap.size w wr)
    (fun i _ => 64 - (intOf i).toNat)
  case atStart => exact ⟨0, Nat.zero_le _, rfl, by rw [part_zero, HY.out]; simpa [zs, u8v] using hA1, BW⟩
  case round =>
    clear hA1 BW
    obtain ⟨j, hj, rfl, A, BW⟩ := hrel
    by_cases hjl : j < 64
    · have hjk : j < ks.length := by rw [HL.out]; exact hjl
      have hjy : j < ys.length := by rw [HY.out]; exact hjl
      have hx : (ks.map u8v).toArray[j]? = some (.int .u8 ((ks.getD j 0).toNat : Int)) := by rw [List.getElem?_toArray, u8v_at hjk]; rfl
      have cx := (A.cell j).trans (part_at ys j hjy)
      have fx := A.frozen j
      have R := A.set j (.int .u8 (at8 ys j))
      rw [part_set ys j hjy] at R
      have RB := fun v => Below.setCell (p := ⟨w.heap.size + 1, j, none⟩) BW (Nat.le_succ _) v
      have hxo := u8_xor8 (ks.getD j 0) x
      have hay : at8 ys j = ((ks.getD j 0 ^^^ x).toNat : Int) := by
        rw [at8_get hjy]
        simp only [hys.out, List.getElem_map]
        rw [show ks.getD j 0 = ks[j] by simp [hjk]]
      rw [hay] at R
      generalize ks.getD j 0 = y at *
      clear A hay
      go_wp2_with (refine wpList_index_arr rfl 207 (.tmp 9) (.tmp 10) rfl 64 5 _ j .i64 .u8 (.int .u8 (y.toNat : Int)) rfl rfl Tryz.underlying207 hjl (by kernel_rfl) Tryz.underlying5 hx ?_)
      go_roundw
      case rel => exact ⟨j + 1, by omega, by go_num, R, RB _⟩
      case measure => simp [intOf]; omega
    · have e : j = 64 := by omega
      subst e
      have e2 : part ys ys.length 64 = ys.map u8v := by rw [← HY.out]; exact part_all ys
      rw [e2] at A
      have ho := A.own (Nat.le_succ _) (by rw [HY.out]; decide)
      rw [HY.out] at ho
      go_wp2
      go_ret
      exact ⟨_, rfl, by rw [← hys.out]; exact ho, BW⟩

theorem joined2_c (p p2 : Option Addr) (q q2 : Nat) (xs ys : List UInt8) (w : World) (hr : Rd w p q xs) (hr2 : Rd w p2 q2 ys) (hl : xs.length + ys.length ≤ 100000) :
    Calls Tryz.prog 70 #[.slice (some ⟨w.heap.size, 0, none⟩) 2 2] (w.alloc (.cells #[.slice p xs.length q, .slice p2 ys.length q2] 22)) fun e w' => ∃ u, e = .returned u ∧ Own w' w.heap.size u (xs ++ ys) ∧ Below w.heap.size w w' := by
  have h := joined_c [⟨p, q, xs⟩, ⟨p2, q2, ys⟩] w.heap.size 0 2 _ (pcs_two w ⟨p, q, xs⟩ ⟨p2, q2, ys⟩ 22 hr hr2) (by rw [flat_two, List.length_append]; exact hl) (by simp)
  rw [flat_two] at h
  refine h.mono ?_
  rintro e w1 ⟨u, rfl, k, hb⟩
  exact ⟨u, rfl, k.lower (by rw [size_alloc]; omega), Below.res hb⟩
theorem implDg_ok (p : Option Addr) (q : Nat) (bs : List UInt8) (w : World) (hr : Rd w p q bs) (hT : Tabs w) (hl : bs.length ≤ 600) :
    Calls Tryz.prog 69 #[.slice p bs.length q] w fun e w' => ∃ a c, e = .returned (.agg #[.int .i64 0, .slice a 32 c]) ∧ Own w' w.heap.size (.slice a 32 c) (digestN bs) ∧ Below w.heap.size w w' := by
  have h := implDg_c p q bs w hr hT
  rw [show dgCode bs = 0 by simp [dgCode, hl], show dgList bs = digestN bs by simp [dgList, hl]] at h
  refine h.mono ?_
  rintro e w1 ⟨u, rfl, k, hb⟩
  obtain ⟨a, c, rfl, -⟩ := k.rd
  rw [digestN_len] at k ⊢
  exact ⟨a, c, rfl, k, hb⟩
set_option maxRecDepth 4000 in
set_option maxHeartbeats 1000000 in
theorem macOver_c (p : Option Addr) (q : Nat) (key : List UInt8) (ps : List Pc) (b o cap : Nat) (w : World) (hr : Rd w p q key) (hp : Pcs w b o ps) (hT : Tabs w) (hk : key.length ≤ 64) (hl : (flat ps).length ≤ 536) (hn : ps.length ≤ 1000) :
    Calls Tryz.prog 150 #[.slice p key.length q, .slice (some ⟨b, o, none⟩) ps.length cap] w fun e w' => ∃ u, e = .returned u ∧ Own w' w.heap.size u (macN key (flat ps)) ∧ Below w.heap.size w w' := by
  have HI : Hid ((Tryz.prog.info? 5).map (·.size) = some 1) := by show _ = _; obtain ⟨i0, hi, hz0, hz1, hz2⟩ := info_parts info8; rw [hi]; simp [hz1]
  have HR : Hid (Rd w p q key) := hr
  have HP : Hid (Pcs w b o ps) := hp
  have HT : Hid (Tabs w) := hT
  have HK : Hid (key.length ≤ 64) := hk
  have HL : Hid ((flat ps).length ≤ 536) := hl
  clear hr hp hT hk hl
  have hzs : Hid (∀ w, (zeroValue 207).run Tryz.prog w = .ok (.agg ((zs 64).map u8v).toArray) w) := by
    rw [show (zs 64).map u8v = List.replicate 64 (Value.int .u8 0) by simp [zs, u8v]]; exact (zero_of_info info_mb).1
  have A0 := Arr.new w ((zs 64).map u8v) 207
  have hb0 : Below w.heap.size w (w.alloc (.cells ((zs 64).map u8v).toArray 207)) := alloc_below _ _
  have HZ : Hid ((keyZ key).length = 64) := keyZ_len HK.out
  have hsz : Hid ((Tryz.prog.info? 207).map (·.size) = some ((keyZ key).map u8v).toArray.size) := by show _ = _; rw [(zero_of_info info_mb).2]; simp [HZ.out]
  obtain ⟨b1, hb1⟩ : ∃ b, Hid (b = blockK key 54) := ⟨_, rfl⟩
  obtain ⟨b2, hb2⟩ : ∃ b, Hid (b = blockK key 92) := ⟨_, rfl⟩
  obtain ⟨data, hdata⟩ : ∃ d, Hid (d = flat ps) := ⟨_, rfl⟩
  have HE : Hid (macN key (flat ps) = digestN (b2 ++ digestN (b1 ++ data))) := by show _ = _; rw [hb1.out, hb2.out, hdata.out]; rfl
  have L1 : Hid (b1.length = 64) := by show _ = _; rw [hb1.out]; exact blockK_len _ HK.out
  have L2 : Hid (b2.length = 64) := by show _ = _; rw [hb2.out]; exact blockK_len _ HK.out
  have C1 : Hid (∀ w, Calls Tryz.prog 172 #[.agg ((keyZ key).map u8v).toArray, .int .u8 54] w fun e w' => ∃ u, e = .returned u ∧ Own w' w.heap.size u b1 ∧ Below w.heap.size w w') := fun w => by rw [hb1.out, blockK_eq]; exact maskedBlock_c (keyZ key) 54 _ rfl _ HZ.out
  have C2 : Hid (∀ w, Calls Tryz.prog 172 #[.agg ((keyZ key).map u8v).toArray, .int .u8 92] w fun e w' => ∃ u, e = .returned u ∧ Own w' w.heap.size u b2 ∧ Below w.heap.size w w') := fun w => by rw [hb2.out, blockK_eq]; exact maskedBlock_c (keyZ key) 92 _ rfl _ HZ.out
  have CJ : Hid (∀ w, Pcs w b o ps → Calls Tryz.prog 70 #[.slice (some ⟨b, o, none⟩) ps.length cap] w fun e w' => ∃ u, e = .returned u ∧ Own w' w.heap.size u data ∧ Below w.heap.size w w') := fun w h => by rw [hdata.out]; exact joined_c ps b o cap w h (by have := HL.out; omega) hn
  have HD : Hid (data.length ≤ 536) := by show _ ≤ _; rw [hdata.out]; exact HL.out
  have hkl : key.length ≤ 64 := HK.out
  clear hb1 hb2 hdata
  go_enter Tryz.func150, Tryz.ntmps150
  go_wp2_with (first
    | refine wpList_alloc_arr rfl 207 rfl _ hzs.out w.heap.size rfl ?_
    | (refine wpList_copy_splice rfl (.tmp 8) (.tmp 9) 22 22 rfl 5 Tryz.underlying22 HI.out _ _ _ _ _ _ rfl rfl w.heap.size 0 ((zs 64).map u8v) 207 A0 (key.map u8v) (by rw [List.length_map]; exact (Nat.min_eq_left (by omega)).symm) (fun hp => ⟨rfl, (HR.out.keep hb0).addr (by simpa using hp)⟩) (by simp [zs_len]; omega) (by intro u hu; obtain ⟨n, -, rfl⟩ := List.mem_map.1 hu; rfl) w.heap.size w hb0 (Nat.le_refl _) ?_; intro w2 hA2 hb2; replace hA2 := keyStart hA2))
  refine (CJ.out _ (HP.out.keep hb2)).mono ?_
  rintro e w3 ⟨u3, rfl, k3, hb3⟩
  obtain ⟨p3, q3, rfl, rd3⟩ := k3.rd
  have A := hA2.stay hb3
  have BW := Below.step hb2 hb3
  clear k3 hb3 hb2 hA2 A0 hb0
  go_wp2_with (refine wpList_load_row rfl 207 (.tmp 5) rfl w.heap.size rfl 207 ((keyZ key).map u8v).toArray (0, 0) _ A Tryz.underlying207 rfl hsz.out ?_)
  refine (C1.out _).mono ?_
  rintro e w4 ⟨u4, rfl, k4, hb4⟩
  obtain ⟨p4, q4, rfl, rd4⟩ := k4.rd
  replace A := A.stay hb4
  replace BW := Below.step BW hb4
  replace rd3 := rd3.keep hb4
  clear k4 hb4
  go_wp2_with fail
  refine (joined2_c p4 p3 q4 q3 b1 data _ rd4 rd3 (by have := L1.out; have := HD.out; omega)).mono ?_
  rintro e w5 ⟨u5, rfl, k5, hb5⟩
  obtain ⟨p5, q5, rfl, rd5⟩ := k5.rd
  replace A := A.stay hb5
  replace BW := Below.step BW hb5
  clear k5 hb5 rd3 rd4
  have HX1 : Hid ((b1 ++ data).length ≤ 600) := by show _ ≤ _; have := L1.out; have := HD.out; rw [List.length_append]; omega
  generalize b1 ++ data = x1 at *
  go_wp2_with fail
  refine (implDg_ok p5 q5 x1 _ rd5 (HT.out.keep BW) HX1.out).mono ?_
  rintro e w6 ⟨p6, q6, rfl, k6, hb6⟩
  replace A := A.stay hb6
  replace BW := Below.step BW hb6
  have HD1 : Hid ((digestN x1).length = 32) := digestN_len _
  generalize digestN x1 = d1 at *
  have rd6 := Rd.own k6
  have hf := bytes_f1 0 p6 32 q6
  clear k6 hb6 rd5
  go_wp2_with (refine wpList_load_row rfl 207 (.tmp 5) rfl w.heap.size rfl 207 ((keyZ key).map u8v).toArray (0, 0) _ A Tryz.underlying207 rfl hsz.out ?_)
  refine (C2.out _).mono ?_
  rintro e w7 ⟨u7, rfl, k7, hb7⟩
  obtain ⟨p7, q7, rfl, rd7⟩ := k7.rd
  replace BW := Below.step BW hb7
  replace rd6 := rd6.keep hb7
  clear k7 hb7 A hf
  go_wp2_with fail
  have K7 := joined2_c p7 p6 q7 q6 b2 d1 _ rd7 rd6 (by have := L2.out; have := HD1.out; omega)
  rw [HD1.out] at K7
  refine K7.mono ?_
  rintro e w8 ⟨u8, rfl, k8, hb8⟩
  obtain ⟨p8, q8, rfl, rd8⟩ := k8.rd
  replace BW := Below.step BW hb8
  clear k8 hb8 rd6 rd7 K7
  have HX2 : Hid ((b2 ++ d1).length ≤ 600) := by show _ ≤ _; have := L2.out; have := HD1.out; rw [List.length_append]; omega
  generalize b2 ++ d1 = x2 at *
  go_wp2_with fail
  refine (implDg_ok p8 q8 x2 _ rd8 (HT.out.keep BW) HX2.out).mono ?_
  rintro e w9 ⟨p9, q9, rfl, k9, hb9⟩
  have hz := BW.size
  replace BW := Below.step BW hb9
  have hf := bytes_f1 0 p9 32 q9
  go_wp2
  go_ret
  exact ⟨_, rfl, by rw [HE.out]; exact k9.lower hz, BW⟩
end Go.Proofs.YtflhoefocjmihaaGreatDoor

