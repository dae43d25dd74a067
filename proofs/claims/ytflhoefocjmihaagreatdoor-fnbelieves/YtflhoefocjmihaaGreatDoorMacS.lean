/- The contracts of the macs in the specification: spec.l3Block, spec.l3Mac, spec.l3Extract, spec.l3Expand: blockK, macN, extractN, expandN, each in a row of its own. For keys of at most 64 bytes. What was there stays. -/
import Derived.Test.YtflhoefocjmihaaGreatDoorJoint3
import Derived.Test.YtflhoefocjmihaaGreatDoorDigS
import Derived.Test.YtflhoefocjmihaaGreatDoorJoint2
namespace Go.Proofs.YtflhoefocjmihaaGreatDoor
open Go.ChangeShapes Go.WideShapes Go.ChangeAt Go.RowKit

/-- What a loop that changes bytes from the first one on has laid behind j rounds. -/
def xorP (ks : List UInt8) (x : UInt8) (j : Nat) : List UInt8 := (ks.take j).map (· ^^^ x) ++ ks.drop j
theorem xorP_zero (ks : List UInt8) (x : UInt8) : xorP ks x 0 = ks := by simp [xorP]
theorem xorP_all (ks : List UInt8) (x : UInt8) : xorP ks x ks.length = ks.map (· ^^^ x) := by simp [xorP]
theorem xorP_at (ks : List UInt8) (x : UInt8) {j : Nat} (h : j < ks.length) : ((xorP ks x j).map u8v)[j]? = some (.int .u8 (at8 ks j)) := by
  unfold xorP
  rw [List.map_append, List.getElem?_append_right (by simp; omega)]
  simp [u8v, at8, h, show min j ks.length = j by omega]
theorem xorP_set (ks : List UInt8) (x : UInt8) {j : Nat} (h : j < ks.length) : ((xorP ks x j).map u8v).set j (u8v (ks.getD j 0 ^^^ x)) = (xorP ks x (j + 1)).map u8v := by
  have hl : (((ks.take j).map (· ^^^ x)).map u8v).length = j := by simp; omega
  have hg : ks.getD j 0 = ks[j] := by simp [h]
  unfold xorP
  rw [List.map_append, List.set_append_right _ _ (by omega), hl, Nat.sub_self, List.drop_eq_getElem_cons h, List.map_cons, List.set_cons_zero, List.take_succ_eq_append_getElem h, hg]
  simp only [List.map_append, List.map_cons, List.map_nil, List.append_assoc, List.cons_append, List.nil_append]
theorem u8_xor8 (a b : UInt8) : bits .xor .u8 (a.toNat : Int) (b.toNat : Int) = ((a ^^^ b).toNat : Int) := by
  rw [u8_xor_nat _ _ a.toNat_lt b.toNat_lt, UInt8.toNat_xor]
def keyZ (key : List UInt8) : List UInt8 := key ++ zs (64 - key.length)
theorem keyZ_len {key : List UInt8} (h : key.length ≤ 64) : (keyZ key).length = 64 := by simp [keyZ, zs_len]; omega
theorem blockK_eq (key : List UInt8) (x : UInt8) : blockK key x = (keyZ key).map (· ^^^ x) := rfl
theorem keyStart {w : World} {g : Nat} {t : TypeId} {key : List UInt8} (h : Hid (w.heap[g]? = some (.cells (splice ((zs 64).map u8v) 0 (key.map u8v)).toArray t (0, 0)))) : Arr w g t ((keyZ key).map u8v) := by
  have e : splice ((zs 64).map u8v) 0 (key.map u8v) = (keyZ key).map u8v := by
    simp only [splice, List.take_zero, List.nil_append, Nat.zero_add, List.length_map, keyZ, List.map_append, zs, ← List.map_drop, List.drop_replicate]
  unfold Arr
  rw [← e]
  exact h.out

set_option maxRecDepth 4000 in
set_option maxHeartbeats 1000000 in
theorem l3Block_c (p : Option Addr) (q : Nat) (key : List UInt8) (x : UInt8) (xi : Int) (hx : xi = (x.toNat : Int)) (w : World) (hr : Rd w p q key) (hl : key.length ≤ 64) :
    Calls Tryz.prog 171 #[.slice p key.length q, .int .u8 xi] w fun e w' => ∃ u, e = .returned u ∧ Own w' w.heap.size u (blockK key x) ∧ Below w.heap.size w w' := by
  subst hx
  obtain ⟨i0, hi, hz0, hz1, hz2⟩ := info_parts info8
  have HR : Hid (Rd w p q key) := hr
  have HL : Hid ((keyZ key).length = 64) := keyZ_len hl
  have HI : Hid ((Tryz.prog.info? 5).map (·.size) = some 1) := by show _ = _; rw [hi]; simp [hz1]
  clear hr
  go_enter Tryz.func171, Tryz.ntmps171
  go_wp2_with (first
    | (at_make; refine wpList_make_full _ rfl (.const (.int .i64 64)) (.const (.int .i64 64)) 22 rfl w.heap.size 5 i0 (.int .u8 0) 1 Tryz.underlying22 hi hz0 hz1 .i64 .i64 _ _ 64 rfl rfl rfl rfl (by rw [hz2]; decide) (by unfold maxLen; decide) (Nat.le_refl _) ?_; intro w1 hown hgrow; have hA1 := (made_zeros hown).arr (zs_len 64); have hb1 : Below w.heap.size w w1 := (Below.refl _ _).grown hgrow (Nat.le_refl _) (fun k hk => by simp at hk))
    | (refine wpList_copy_splice rfl (.tmp 8) (.tmp 9) 22 22 rfl 5 Tryz.underlying22 HI.out _ _ _ _ _ _ rfl rfl w.heap.size 0 ((zs 64).map u8v) 5 hA1 (key.map u8v) (by rw [List.length_map]; exact (Nat.min_eq_left (by omega)).symm) (fun hp => ⟨rfl, (HR.out.keep hb1).addr (by simpa using hp)⟩) (by simp [zs_len]; omega) (by intro u hu; obtain ⟨n, -, rfl⟩ := List.mem_map.1 hu; rfl) w.heap.size w hb1 (Nat.le_refl _) ?_; intro w2 hA2 hb2; replace hA2 := keyStart hA2)
    | go_in)
  have HE : Hid (blockK key x = (keyZ key).map (· ^^^ x)) := blockK_eq key x
  clear hA1 hb1 HR hown hgrow hi hz0 hz1 hz2
  go_loopw [6] (fun i wr => ∃ j : Nat, j ≤ 64 ∧ i = .int .i64 j ∧ Arr wr w.heap.size 5 ((xorP (keyZ key) x j).map u8v) ∧ Below w.heap.size w wr)
    (fun i _ => 64 - (intOf i).toNat)
  case atStart => exact ⟨0, Nat.zero_le _, rfl, by rw [xorP_zero]; exact hA2, hb2⟩
  case round =>
    clear hA2 hb2
    obtain ⟨j, hj, rfl, A, BW⟩ := hrel
    by_cases hjl : j < 64
    · have hjk : j < (keyZ key).length := by rw [HL.out]; exact hjl
      have cx := (A.cell j).trans (xorP_at (keyZ key) x hjk)
      have fx := A.frozen j
      have R := A.set j (u8v ((keyZ key).getD j 0 ^^^ x))
      rw [xorP_set _ _ hjk] at R
      have RB := fun v => Below.setCell (p := ⟨w.heap.size, j, none⟩) BW (Nat.le_refl _) v
      have hxo := u8_xor8 ((keyZ key).getD j 0) x
      unfold at8 at cx
      unfold u8v at R
      generalize (keyZ key).getD j 0 = y at *
      clear A
      go_wp2
      go_roundw
      case rel => exact ⟨j + 1, by omega, by go_num, R, RB _⟩
      case measure => simp [intOf]; omega
    · have e : j = 64 := by omega
      subst e
      have hl2 : (xorP (keyZ key) x 64).length = 64 := by simp [xorP, HL.out]
      have e2 : xorP (keyZ key) x 64 = blockK key x := by rw [HE.out, ← HL.out]; exact xorP_all _ _
      rw [e2] at A hl2
      have ho := A.own (Nat.le_refl _) (by rw [hl2]; decide)
      rw [hl2] at ho
      go_wp2
      go_ret
      exact ⟨_, rfl, ho, BW⟩

set_option maxRecDepth 4000 in
set_option maxHeartbeats 1000000 in
theorem l3Mac_c (p p2 : Option Addr) (q q2 : Nat) (key data : List UInt8) (w : World) (hr : Rd w p q key) (hr2 : Rd w p2 q2 data) (hl : key.length ≤ 64) (hl2 : data.length ≤ 536) :
    Calls Tryz.prog 148 #[.slice p key.length q, .slice p2 data.length q2] w fun e w' => ∃ u, e = .returned u ∧ Own w' w.heap.size u (macN key data) ∧ Below w.heap.size w w' := by
  obtain ⟨b1, hb1⟩ : ∃ b, Hid (b = blockK key 54) := ⟨_, rfl⟩
  obtain ⟨b2, hb2⟩ : ∃ b, Hid (b = blockK key 92) := ⟨_, rfl⟩
  have HE : Hid (macN key data = digestN (b2 ++ digestN (b1 ++ data))) := by show _ = _; rw [hb1.out, hb2.out]; rfl
  have L1 : Hid (b1.length = 64) := by show _ = _; rw [hb1.out]; exact blockK_len _ hl
  have L2 : Hid (b2.length = 64) := by show _ = _; rw [hb2.out]; exact blockK_len _ hl
  have C1 : Hid (∀ w, Rd w p q key → Calls Tryz.prog 171 #[.slice p key.length q, .int .u8 54] w fun e w' => ∃ u, e = .returned u ∧ Own w' w.heap.size u b1 ∧ Below w.heap.size w w') := fun w hr => by rw [hb1.out]; exact l3Block_c p q key 54 _ rfl _ hr hl
  have C2 : Hid (∀ w, Rd w p q key → Calls Tryz.prog 171 #[.slice p key.length q, .int .u8 92] w fun e w' => ∃ u, e = .returned u ∧ Own w' w.heap.size u b2 ∧ Below w.heap.size w w') := fun w hr => by rw [hb2.out]; exact l3Block_c p q key 92 _ rfl _ hr hl
  clear hb1 hb2
  have HR : Hid (Rd w p q key) := hr
  clear hr
  go_enter Tryz.func148, Tryz.ntmps148
  go_wp2_with fail
  refine (C1.out _ HR.out).mono ?_
  rintro e w1 ⟨u1, rfl, k1, hb1⟩
  obtain ⟨p3, q3, rfl, -⟩ := k1.rd
  have BW := hb1
  replace hr2 := hr2.keep hb1
  clear hb1
  go_wp2_with (at_builtin; refine wpList_append_rd rfl (.tmp 7) (.tmp 8) rfl w.heap.size _ b1 rfl k1 p2 q2 data rfl hr2 (by have := L1.out; omega) BW.size ?_; intro v2 w2 k2 hg2)
  replace BW := BW.grown hg2 BW.size (fun k hk => k1.ge k hk)
  obtain ⟨p4, q4, rfl, rd4⟩ := k2.rd
  clear k1 hg2 hr2 k2
  refine (l2Digest_c p4 q4 (b1 ++ data) _ rd4 (by have := L1.out; simp; omega)).mono ?_
  rintro e w3 ⟨u3, rfl, k3, hb3⟩
  replace BW := Below.step BW hb3
  have HD : Hid ((digestN (b1 ++ data)).length = 32) := digestN_len _
  generalize digestN (b1 ++ data) = d1 at *
  obtain ⟨p5, q5, rfl, rd5⟩ := k3.rd
  clear rd4 hb3 k3
  go_wp2_with fail
  refine (C2.out _ (HR.out.keep BW)).mono ?_
  rintro e w4 ⟨u4, rfl, k4, hb4⟩
  obtain ⟨p6, q6, rfl, -⟩ := k4.rd
  have hz : Hid (w.heap.size ≤ w3.heap.size) := BW.size
  replace BW := Below.step BW hb4
  replace rd5 := rd5.keep hb4
  have hz4 := hb4.size
  clear hb4
  go_wp2_with (at_builtin; refine wpList_append_rd rfl (.tmp 12) (.tmp 13) rfl w3.heap.size _ b2 rfl k4 p5 q5 d1 rfl rd5 (by have := L2.out; have := HD.out; omega) hz4 ?_; intro v6 w6 k6 hg6)
  replace BW := BW.grown hg6 BW.size (fun k hk => by have := k4.ge k hk; have := hz.out; omega)
  obtain ⟨p7, q7, rfl, rd7⟩ := k6.rd
  clear k4 hg6 rd5 k6 hz4
  refine (l2Digest_c p7 q7 (b2 ++ d1) _ rd7 (by have := L2.out; have := HD.out; simp; omega)).mono ?_
  rintro e w8 ⟨u8, rfl, k8, hb8⟩
  have hz8 := BW.size
  replace BW := Below.step BW hb8
  go_wp2
  go_ret
  exact ⟨_, rfl, by rw [HE.out]; exact k8.lower hz8, BW⟩


/-- The beginning of a row of one's own. -/
theorem Own.cut {w : World} {B : Nat} {a : Option Addr} {m cap : Nat} {bs : List UInt8} (h : Own w B (.slice a m cap) bs) (k : Nat) (hk : k ≤ bs.length) : Own w B (.slice a k cap) (bs.take k) := by
  have hl : (bs.take k).length = k := by simp; omega
  obtain ⟨h1, h2⟩ := h
  unfold Own
  rw [hl]
  refine ⟨by simp; omega, ?_⟩
  rcases h2 with ⟨e, hn⟩ | ⟨g, c, cur, e, hB, hg, hle, hm, hs, ht⟩
  · simp at e
    obtain ⟨rfl, rfl, rfl⟩ := e
    have : k = 0 := by omega
    subst this
    exact .inl ⟨rfl, rfl⟩
  · simp at e
    obtain ⟨rfl, -, rfl⟩ := e
    refine .inr ⟨g, cap, cur, rfl, hB, hg, by omega, hm, hs, ?_⟩
    rw [Nat.mul_one] at ht ⊢
    rw [List.map_take, ← ht, List.take_take, Nat.min_eq_left hk]

set_option maxRecDepth 4000 in
set_option maxHeartbeats 2000000 in
theorem l3Expand_c (p p2 : Option Addr) (q q2 : Nat) (key info : List UInt8) (n : Nat) (w : World) (hr : Rd w p q key) (hr2 : Rd w p2 q2 info) (hl : key.length ≤ 64) (hl2 : info.length ≤ 400) (hn : n ≤ 255) :
    Calls Tryz.prog 183 #[.slice p key.length q, .slice p2 info.length q2, .int .i64 (n : Int)] w fun e w' => ∃ u, e = .returned u ∧ Own w' w.heap.size u (expandN key info n) ∧ Below w.heap.size w w' := by
  have HR : Hid (Rd w p q key) := hr
  have HR2 : Hid (Rd w p2 q2 info) := hr2
  have HL : Hid (key.length ≤ 64) := hl
  clear hr hr2 hl
  have O1 := (none_own8 w w.heap.size (Nat.le_refl _)).stay (alloc_below _ (.cells #[] 5))
  have BW : Below w.heap.size w ((w.alloc (.cells #[] 5)).alloc (.cells #[] 5)) := Below.mk (alloc_below _ _) _
  have R1 : Rd ((w.alloc (.cells #[] 5)).alloc (.cells #[] 5)) (some ⟨w.heap.size + 1, 0, none⟩) 0 [] := ⟨Nat.le_refl _, by unfold maxLen; decide, fun e => by simp at e, fun hp => by simp at hp⟩
  go_enter Tryz.func183, Tryz.ntmps183
  go_wp2
  go_loopw [7, 8, 9] (fun o l i wr => ∃ (k : Nat) (pl : Option Addr) (ql go co : Nat), 32 * k < n + 32 ∧ o = .slice (some ⟨go, 0, none⟩) (32 * k) co ∧ l = .slice pl (lastN key info k).length ql ∧ i = .int .u8 ((k : Int) + 1) ∧ Own wr w.heap.size o (outN key info k) ∧ Rd wr pl ql (lastN key info k) ∧ Below w.heap.size w wr)
    (fun o _ _ _ => n - sliceLen o)
  case atStart => exact ⟨0, _, 0, _, 0, by omega, rfl, rfl, rfl, O1, R1, BW⟩
  case round =>
    clear O1 R1 BW
    obtain ⟨k, pl, ql, go, qo, hk, rfl, rfl, rfl, ho, rl, BW⟩ := hrel
    have HO : Hid ((outN key info k).length = 32 * k) := outN_len key info k
    have HLL : Hid ((lastN key info k).length ≤ 32) := lastN_len key info k
    by_cases hlt : 32 * k < n
    · have HS : Hid (lastN key info (k + 1) = macN key (lastN key info k ++ info ++ [UInt8.ofNat (k + 1)])) := lastN_succ key info k
      have HOS : Hid (outN key info (k + 1) = outN key info k ++ lastN key info (k + 1)) := rfl
      generalize lastN key info k = ls at *
      go_wp2_with fail
      refine (l1Copy_c pl ql ls _ rl (by have := HLL.out; omega)).mono ?_
      rintro e w1 ⟨u1, rfl, k1, hb1⟩
      obtain ⟨p1, q1, rfl, -⟩ := k1.rd
      have BR := hb1
      have hz := BW.size
      clear hb1 rl
      have hv : Hid ((k : Int) + 1 = ((UInt8.ofNat (k + 1)).toNat : Int)) := by show _ = _; rw [UInt8.toNat_ofNat', Nat.mod_eq_of_lt (by omega)]; omega
      go_wp2_with (first
        | (at_builtin; refine wpList_append_rd rfl (.tmp 20) (.tmp 21) rfl wr.heap.size _ ls rfl k1 p2 q2 info rfl ((HR2.out.keep BW).keep BR) (by have := HLL.out; omega) BR.size ?_; intro v2 w2 k2 hg2; replace BR := BR.grown hg2 BR.size (fun k hk => k1.ge k hk); clear hg2 k1; have k2' := k2.stay (alloc_below w2 (.cells #[.int .u8 ((k : Int) + 1)] 5)))
        | (at_builtin; refine wpList_append_rd rfl (.tmp 22) (.tmp 24) rfl wr.heap.size _ (ls ++ info) rfl k2' _ 1 [UInt8.ofNat (k + 1)] rfl (rd_one w2 _ _ _ hv.out) (by have := HLL.out; simp; omega) (by have := BR.size; simp; omega) ?_; intro v3 w3 k3 hg3; replace BR := (Below.mk BR (.cells #[.int .u8 ((k : Int) + 1)] 5)).grown hg3 (by have := BR.size; simp; omega) (fun k hk => k2.ge k hk); clear hg3 k2 k2'))
      obtain ⟨p3, q3, rfl, rd3⟩ := k3.rd
      have BW3 := Below.step BW BR
      refine (l3Mac_c p p3 q q3 key (ls ++ info ++ [UInt8.ofNat (k + 1)]) _ (HR.out.keep BW3) rd3 HL.out (by have := HLL.out; simp; omega)).mono ?_
      rintro e w4 ⟨u4, rfl, k4, hb4⟩
      rw [← HS.out] at k4
      have HL4 : Hid ((lastN key info (k + 1)).length = 32) := by show _ = _; rw [HS.out]; exact macN_len _ _
      obtain ⟨ls2, HZ⟩ : ∃ l, Hid (l = lastN key info (k + 1)) := ⟨_, rfl⟩
      rw [← HZ.out] at k4 HL4 HOS
      obtain ⟨p4, q4, rfl, rd4⟩ := k4.rd
      have hz3 : Hid (wr.heap.size ≤ w3.heap.size) := BR.size
      replace BR := Below.step BR hb4
      have ho4 := ho.stay BR
      have hlt4 := ho.lt
      replace BW3 := Below.step BW BR
      clear hb4 rd3 k3
      go_wp2_with (at_builtin; refine wpList_append_rd rfl (.tmp 27) (.tmp 28) rfl w.heap.size _ (outN key info k) rfl ho4 p4 q4 ls2 rfl rd4 (by have := HO.out; have := HL4.out; omega) BW3.size ?_; intro v5 w5 ho5 hg5)
      have rd5 := rd4.other hg5 (fun hp y hy e => by
        have h1 := hlt4 _ e
        subst hy
        obtain ⟨-, h2⟩ := k4
        rcases h2 with ⟨e2, -⟩ | ⟨g, c, cur, e2, hB, -⟩
        · simp at e2
        · simp at e2
          have := hz3.out
          rw [e2.1] at h1
          simp at h1
          omega)
      have BW5 := BW3.grown hg5 BW3.size (fun k hk => ho.ge k hk)
      rw [← HOS.out] at ho5
      obtain ⟨p6, q6, rfl, rd6⟩ := ho5.rd
      have HO6 : (outN key info (k + 1)).length = 32 * (k + 1) := outN_len key info (k + 1)
      obtain ⟨g6, rfl⟩ : ∃ g, p6 = some ⟨g, 0, none⟩ := by
        obtain ⟨-, h2⟩ := id ho5
        rcases h2 with ⟨e2, h3⟩ | ⟨g, c, cur, e2, -⟩
        · omega
        · simp at e2
          exact ⟨g, e2.1⟩
      clear rd6
      rw [HO6] at ho5 ⊢
      clear ho ho4 hg5 BR BW3 k4 rd4 hv HO HLL
      go_roundw
      case rel => exact ⟨k + 1, p4, q4, g6, q6, by omega, rfl, by rw [HZ.out], by go_num, ho5, by rw [← HZ.out]; exact rd5, BW5⟩
      case measure => simp [sliceLen]; omega
    · have e : k = (n + 31) / 32 := by omega
      have HX : Hid (expandN key info n = (outN key info k).take n) := by show _ = _; rw [expandN, e]
      have hc := ho.cut n (by rw [HO.out]; omega)
      rw [← HX.out] at hc
      have hn2 : n ≤ 32 * k := by omega
      have hrd := Rd.own ho
      have hq : 32 * k ≤ qo := by have := hrd.1; rw [HO.out] at this; exact this
      have hq2 : qo ≤ 2 ^ 63 - 1 := hrd.2.1
      clear ho rl HX e HLL hrd HO
      go_wp2
      go_ret
      exact ⟨_, rfl, hc, BW⟩
end Go.Proofs.YtflhoefocjmihaaGreatDoor

