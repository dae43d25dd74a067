/- The contracts of the draws of chapter 5: extras, plain bytes, what is sealed and bent: within bounds, no more. -/
import Derived.Test.YtpcgpefefklfoaaDoorJoint11
import Derived.Test.YtpcgpefefklfoaaDoorSealX
import Derived.Test.YtpcgpefefklfoaaDoorGen
namespace Go.Proofs.YtpcgpefefklfoaaDoor
open Go.ChangeShapes Go.WideShapes Go.ChangeAt Go.RowKit

set_option maxRecDepth 4000 in
set_option maxHeartbeats 1000000 in
theorem l5Extra_c (b : Nat) (p : Option Addr) (q : Nat) (cs : List UInt8) (t : Int) (w : World) (hs : Src w b p q cs t) (ht : 0 ≤ t) (ht2 : t ≤ 800000000) :
    Calls Tryd.prog 34 #[.pointer (some ⟨b, 0, none⟩)] w fun e w' => ∃ (u : Value) (bs : List UInt8) (t' : Int), e = .returned u ∧ bs.length ≤ 61 ∧ t ≤ t' ∧ t' ≤ t + 1000 ∧ Own w' w.heap.size u bs ∧ Src w' b p q cs t' ∧ w.grownBy w' (some b) := by
  go_enter Tryd.func34, Tryd.ntmps34
  go_wp2_with fail
  refine (l1Next_c b p q cs (t) 9 w hs (by omega) (by omega) (by omega) (by omega)).mono ?_
  rintro e v0 ⟨r0, rfl, x0, y0, hs0, hg0⟩
  go_wp2_with fail
  refine (l1Pick_c b p q cs (t + 1) v0.heap.size [0, 5, r0, 60, 61] 5 _ (hs0.keep (alloc_below _ _)) (by omega) (by omega) rfl (by decide) (by decide) (by have := hs0.lt; omega) (new_ints _ _ _ [0, 5, r0, 60, 61] rfl)).mono ?_
  rintro e w5 ⟨k, hk, rfl, hs9, hg9⟩
  have hR : Hid (0 ≤ k ∧ k ≤ 61) := by
    show _ ∧ _
    simp only [List.mem_cons, List.not_mem_nil, or_false] at hk
    omega
  clear hk
  have hg : w.grownBy w5 (some b) := grownBy_trans hg0 (grownBy_trans (World.grownBy_alloc _ _ _) hg9)
  clear hg9 hg0
  go_wp2_with fail
  refine (l1Some_c b p q cs (t + 1 + 1) k w5 hs9 (by omega) (by omega) hR.out.1 (by have := hR.out.2; omega)).mono ?_
  rintro e w6 ⟨u, bs, rfl, hl, ho, hs10, hg10⟩
  go_wp2
  go_ret
  have h1 := hR.out.1
  have h2 := hR.out.2
  exact ⟨u, bs, _, rfl, by omega, by omega, by omega, ho.lower hg.size, hs10, grownBy_trans hg hg10⟩

set_option maxRecDepth 4000 in
set_option maxHeartbeats 1000000 in
theorem l5Plain_c (b : Nat) (p : Option Addr) (q : Nat) (cs : List UInt8) (t : Int) (w : World) (hs : Src w b p q cs t) (ht : 0 ≤ t) (ht2 : t ≤ 800000000) :
    Calls Tryd.prog 35 #[.pointer (some ⟨b, 0, none⟩)] w fun e w' => ∃ (u : Value) (bs : List UInt8) (t' : Int), e = .returned u ∧ bs.length ≤ 221 ∧ t ≤ t' ∧ t' ≤ t + 1000 ∧ Own w' w.heap.size u bs ∧ Src w' b p q cs t' ∧ w.grownBy w' (some b) := by
  go_enter Tryd.func35, Tryd.ntmps35
  go_wp2_with fail
  refine (l1Next_c b p q cs (t) 20 w hs (by omega) (by omega) (by omega) (by omega)).mono ?_
  rintro e v0 ⟨r0, rfl, x0, y0, hs0, hg0⟩
  go_wp2_with fail
  refine (l1Next_c b p q cs (t + 1) 80 v0 hs0 (by omega) (by omega) (by omega) (by omega)).mono ?_
  rintro e v1 ⟨r1, rfl, x1, y1, hs1, hg1⟩
  go_wp2_with fail
  refine (l1Pick_c b p q cs (t + 1 + 1) v1.heap.size [r0, r1, 0, 220, 221] 5 _ (hs1.keep (alloc_below _ _)) (by omega) (by omega) rfl (by decide) (by decide) (by have := hs1.lt; omega) (new_ints _ _ _ [r0, r1, 0, 220, 221] rfl)).mono ?_
  rintro e w5 ⟨k, hk, rfl, hs9, hg9⟩
  have hR : Hid (0 ≤ k ∧ k ≤ 221) := by
    show _ ∧ _
    simp only [List.mem_cons, List.not_mem_nil, or_false] at hk
    omega
  clear hk
  have hg : w.grownBy w5 (some b) := grownBy_trans hg0 (grownBy_trans hg1 (grownBy_trans (World.grownBy_alloc _ _ _) hg9))
  clear hg9 hg0 hg1
  go_wp2_with fail
  refine (l1Some_c b p q cs (t + 1 + 1 + 1) k w5 hs9 (by omega) (by omega) hR.out.1 (by have := hR.out.2; omega)).mono ?_
  rintro e w6 ⟨u, bs, rfl, hl, ho, hs10, hg10⟩
  go_wp2
  go_ret
  have h1 := hR.out.1
  have h2 := hR.out.2
  exact ⟨u, bs, _, rfl, by omega, by omega, by omega, ho.lower hg.size, hs10, grownBy_trans hg hg10⟩

set_option maxRecDepth 4000 in
set_option maxHeartbeats 1000000 in
theorem drawSeal_c (p : Option Addr) (q : Nat) (cs : List UInt8) (w : World) (hr : Rd w p q cs) :
    Calls Tryd.prog 10 #[.slice p cs.length q] w fun e w' => ∃ (p1 p2 p3 p4 : Option Addr) (q1 q2 q3 q4 : Nat) (key nonce extra plain : List UInt8), e = .returned (.tuple #[.slice p1 key.length q1, .slice p2 nonce.length q2, .slice p3 extra.length q3, .slice p4 plain.length q4]) ∧ Rd w' p1 q1 key ∧ Rd w' p2 q2 nonce ∧ Rd w' p3 q3 extra ∧ Rd w' p4 q4 plain ∧ key.length ≤ 32 ∧ nonce.length ≤ 12 ∧ extra.length ≤ 61 ∧ plain.length ≤ 221 ∧ Below w.heap.size w w' := by
  go_enter Tryd.func10, Tryd.ntmps10
  go_wp2_with fail
  refine (l1Source_c p q cs w hr).mono ?_
  rintro e w0 ⟨rfl, hs0, BW, hz0⟩
  have z0 : Hid (w.heap.size < w0.heap.size) := hz0
  clear hz0
  go_wp2_with fail
  refine (l4Key_c _ p q cs (0) w0 hs0 (by omega) (by omega)).mono ?_
  rintro e w1 ⟨u1, key, t1, rfl, hl1, ha1, hb1, ho1, hs1, hg1⟩
  obtain ⟨p1, q1, rfl, -⟩ := ho1.rd
  have z1 : Hid (w.heap.size < w1.heap.size) := by have h1 := hg1.size; have h2 := z0.out; show _ < _; omega
  replace BW := below_of_grown BW hg1
  clear hg1
  go_wp2_with fail
  refine (l4DrawNonce_c _ p q cs (t1) w1 hs1 (by omega) (by omega)).mono ?_
  rintro e w2 ⟨u2, nonce, t2, rfl, hl2, ha2, hb2, ho2, hs2, hg2⟩
  obtain ⟨p2, q2, rfl, -⟩ := ho2.rd
  have z2 : Hid (w.heap.size < w2.heap.size) := by have h1 := hg2.size; have h2 := z1.out; show _ < _; omega
  replace ho1 := ho1.draw hg2 z0.out
  replace BW := below_of_grown BW hg2
  clear hg2
  go_wp2_with fail
  refine (l5Extra_c _ p q cs (t2) w2 hs2 (by omega) (by omega)).mono ?_
  rintro e w3 ⟨u3, extra, t3, rfl, hl3, ha3, hb3, ho3, hs3, hg3⟩
  obtain ⟨p3, q3, rfl, -⟩ := ho3.rd
  have z3 : Hid (w.heap.size < w3.heap.size) := by have h1 := hg3.size; have h2 := z2.out; show _ < _; omega
  replace ho1 := ho1.draw hg3 z0.out
  replace ho2 := ho2.draw hg3 z1.out
  replace BW := below_of_grown BW hg3
  clear hg3
  go_wp2_with fail
  refine (l5Plain_c _ p q cs (t3) w3 hs3 (by omega) (by omega)).mono ?_
  rintro e w4 ⟨u4, plain, t4, rfl, hl4, ha4, hb4, ho4, hs4, hg4⟩
  obtain ⟨p4, q4, rfl, -⟩ := ho4.rd
  have z4 : Hid (w.heap.size < w4.heap.size) := by have h1 := hg4.size; have h2 := z3.out; show _ < _; omega
  replace ho1 := ho1.draw hg4 z0.out
  replace ho2 := ho2.draw hg4 z1.out
  replace ho3 := ho3.draw hg4 z2.out
  replace BW := below_of_grown BW hg4
  clear hg4
  clear hs4
  go_wp2
  exact bodyPost_ret (v := .tuple #[.slice p1 key.length q1, .slice p2 nonce.length q2, .slice p3 extra.length q3, .slice p4 plain.length q4]) (by simp [results, Tryd.results10, go_sem]) rfl ⟨p1, p2, p3, p4, q1, q2, q3, q4, key, nonce, extra, plain, rfl, Rd.own ho1, Rd.own ho2, Rd.own ho3, Rd.own ho4, hl1, hl2, hl3, hl4, BW⟩

set_option maxRecDepth 4000 in
set_option maxHeartbeats 1000000 in
theorem drawFin_c (p : Option Addr) (q : Nat) (cs : List UInt8) (w : World) (hr : Rd w p q cs) :
    Calls Tryd.prog 19 #[.slice p cs.length q] w fun e w' => ∃ (p1 p2 : Option Addr) (q1 q2 : Nat) (key digest : List UInt8), e = .returned (.tuple #[.slice p1 key.length q1, .slice p2 digest.length q2]) ∧ Rd w' p1 q1 key ∧ Rd w' p2 q2 digest ∧ key.length ≤ 32 ∧ digest.length ≤ 32 ∧ Below w.heap.size w w' := by
  go_enter Tryd.func19, Tryd.ntmps19
  go_wp2_with fail
  refine (l1Source_c p q cs w hr).mono ?_
  rintro e w0 ⟨rfl, hs0, BW, hz0⟩
  have z0 : Hid (w.heap.size < w0.heap.size) := hz0
  clear hz0
  go_wp2_with fail
  refine (l4Key_c _ p q cs (0) w0 hs0 (by omega) (by omega)).mono ?_
  rintro e w1 ⟨u1, key, t1, rfl, hl1, ha1, hb1, ho1, hs1, hg1⟩
  obtain ⟨p1, q1, rfl, -⟩ := ho1.rd
  have z1 : Hid (w.heap.size < w1.heap.size) := by have h1 := hg1.size; have h2 := z0.out; show _ < _; omega
  replace BW := below_of_grown BW hg1
  clear hg1
  go_wp2_with fail
  refine (l4Key_c _ p q cs (t1) w1 hs1 (by omega) (by omega)).mono ?_
  rintro e w2 ⟨u2, digest, t2, rfl, hl2, ha2, hb2, ho2, hs2, hg2⟩
  obtain ⟨p2, q2, rfl, -⟩ := ho2.rd
  have z2 : Hid (w.heap.size < w2.heap.size) := by have h1 := hg2.size; have h2 := z1.out; show _ < _; omega
  replace ho1 := ho1.draw hg2 z0.out
  replace BW := below_of_grown BW hg2
  clear hg2
  clear hs2
  go_wp2
  exact bodyPost_ret (v := .tuple #[.slice p1 key.length q1, .slice p2 digest.length q2]) (by simp [results, Tryd.results19, go_sem]) rfl ⟨p1, p2, q1, q2, key, digest, rfl, Rd.own ho1, Rd.own ho2, hl1, hl2, BW⟩

set_option maxRecDepth 4000 in
set_option maxHeartbeats 1000000 in
theorem l1Later_c (p : Option Addr) (q : Nat) (cs : List UInt8) (n : Nat) (w : World) (hr : Rd w p q cs) (hn : n ≤ 1000) :
    Calls Tryd.prog 46 #[.slice p cs.length q, .int .i64 (n : Int)] w fun e w' => e = .returned (.pointer (some ⟨w.heap.size, 0, none⟩)) ∧ Src w' w.heap.size p q cs (5 + 7 * (n : Int)) ∧ Below w.heap.size w w' ∧ w.heap.size < w'.heap.size := by
  go_enter Tryd.func46, Tryd.ntmps46
  go_wp2
  go_ret
  refine ⟨rfl, ⟨Loc.new _ _ _, hr.keep (alloc_below _ _), fun hp x hx => ?_⟩, alloc_below _ _, by simp⟩
  obtain ⟨b, o, rfl, hc⟩ := hr.2.2.2 hp
  simp only [Option.some.injEq] at hx
  subst hx
  exact World.block_lt_of_cell? w _ (hc 0 hp)

theorem Rd.below {w : World} {a : Option Addr} {cap : Nat} {bs : List UInt8} (h : Rd w a cap bs) : 0 < bs.length → ∀ y, a = some y → y.block < w.heap.size := fun hp y hy => by
  obtain ⟨b, o, rfl, hc⟩ := h.2.2.2 hp
  simp at hy
  subst hy
  exact World.block_lt_of_cell? w _ (hc 0 hp)
theorem Rd.draw {w w' : World} {a : Option Addr} {cap b : Nat} {bs : List UInt8} (h : Rd w a cap bs) (hg : w.grownBy w' (some b)) (hlt : 0 < bs.length → ∀ y, a = some y → y.block < b) : Rd w' a cap bs :=
  h.other hg (fun hp y hy e => by have := hlt hp y hy; simp at e; omega)
set_option maxRecDepth 4000 in
set_option maxHeartbeats 2000000 in
theorem drawOpen_c (p : Option Addr) (q : Nat) (cs : List UInt8) (w : World) (hr : Rd w p q cs) :
    Calls Tryd.prog 16 #[.slice p cs.length q] w fun e w' => ∃ (p1 p2 p3 p4 : Option Addr) (q1 q2 q3 q4 : Nat) (key nonce extra data : List UInt8), e = .returned (.tuple #[.slice p1 key.length q1, .slice p2 nonce.length q2, .slice p3 extra.length q3, .slice p4 data.length q4]) ∧ Rd w' p1 q1 key ∧ Rd w' p2 q2 nonce ∧ Rd w' p3 q3 extra ∧ Rd w' p4 q4 data ∧ key.length ≤ 32 ∧ nonce.length ≤ 12 ∧ extra.length ≤ 61 ∧ data.length ≤ 237 ∧ Below w.heap.size w w' := by
  go_enter Tryd.func16, Tryd.ntmps16
  go_wp2_with fail
  refine (drawSeal_c p q cs w hr).mono ?_
  rintro e w1 ⟨p1, p2, p3, p4, q1, q2, q3, q4, key, nonce, extra, plain, rfl, rk, rn, re, rp, hl1, hl2, hl3, hl4, BW⟩
  have hw1 : Hid (w.heap.size ≤ w1.heap.size) := BW.size
  have LK : Hid _ := rk.below
  have LN : Hid _ := rn.below
  have LE : Hid _ := re.below
  have LP : Hid _ := rp.below
  go_wp2_with fail
  have KL := l1Later_c p q cs 3 w1 (hr.keep BW) (by decide)
  rw [show ((3 : Nat) : Int) = 3 from rfl, show (5 + 7 * 3 : Int) = 26 from rfl] at KL
  refine KL.mono ?_
  rintro e w2 ⟨rfl, hs2, hb2, hz2⟩
  replace rk := rk.keep hb2
  replace rn := rn.keep hb2
  replace re := re.keep hb2
  replace rp := rp.keep hb2
  replace BW := Below.step BW hb2
  have z2 : Hid (w1.heap.size < w2.heap.size) := hz2
  clear KL hb2 hz2 hr
  go_wp2_with fail
  refine (specSl_s p1 p2 p3 p4 q1 q2 q3 q4 key nonce extra plain _ rk rn re rp).mono ?_
  rintro e w3 ⟨u3, rfl, k3, hb3, -⟩
  obtain ⟨a3, c3, rfl, -⟩ := k3.rd
  replace rk := rk.keep hb3
  replace rn := rn.keep hb3
  replace re := re.keep hb3
  replace rp := rp.keep hb3
  replace hs2 := hs2.keep hb3
  replace BW := Below.step BW hb3
  have z3 : Hid (w2.heap.size ≤ w3.heap.size) := hb3.size
  have z4 : Hid (∀ k, (Value.slice a3 (slL key nonce extra plain).length c3).ownBlock = some k → k < w3.heap.size) := k3.lt
  clear hb3
  by_cases hc : tgC key nonce extra plain = 0
  · rw [hc]
    rw [show slL key nonce extra plain = sealN key nonce extra plain by simp [slL, hc]] at k3 z4 ⊢
    have HL : Hid ((sealN key nonce extra plain).length = plain.length + 16) := sealN_len _ _ _ _
    have HD : Hid ((sealN key nonce extra plain).length ≤ 236) := by have := (tgC_zero hc).2; have := HL.out; show _ ≤ _; omega
    have HD2 : Hid (16 ≤ (sealN key nonce extra plain).length) := by have := HL.out; show _ ≤ _; omega
    generalize sealN key nonce extra plain = sd at *
    clear hc
    have A3 := Arr.new w3 [.int .i64 0, .slice a3 sd.length c3] 27
    have hbA := alloc_below w3 (.cells #[.int .i64 0, .slice a3 sd.length c3] 27)
    replace rk := rk.keep hbA
    replace rn := rn.keep hbA
    replace re := re.keep hbA
    replace hs2 := hs2.keep hbA
    replace k3 := k3.stay hbA
    replace BW := Below.step BW hbA
    clear hbA rp LP
    go_wp2_with fail
    refine (l1Next_c _ p q cs 26 6 _ hs2 (by omega) (by omega) (by omega) (by omega)).mono ?_
    rintro e w4 ⟨r, rfl, r0, r1, hs4, hg4⟩
    replace rk := rk.draw hg4 LK.out
    replace rn := rn.draw hg4 LN.out
    replace re := re.draw hg4 LE.out
    replace A3 := A3.other hg4 (fun e => by have := z2.out; have := z3.out; simp at e; omega)
    replace k3 := k3.other hg4 (fun k hk e => by have := k3.ge k hk; have := z2.out; simp at e; omega)
    replace BW := BW.grown hg4 BW.size (fun k hk => by simp at hk; have := hw1.out; omega)
    clear hg4 hs2
    have c0 := A3.cell 0
    have c1 := A3.cell 1
    simp at c0 c1
    have f0 := A3.frozen
    by_cases h0 : r = 0
    · subst h0
      obtain ⟨g, e3⟩ : ∃ g, a3 = some ⟨g, 0, none⟩ := by
        rcases k3.2 with ⟨e, hz⟩ | ⟨g, cap, cur, e, -⟩
        · have := HD2.out; omega
        · simp at e; exact ⟨g, e.1⟩
      subst e3
      have hg2 : Hid (w2.heap.size ≤ g) := k3.ge g rfl
      have hg3 : Hid (g < w3.heap.size) := z4.out g rfl
      have g1 := Gen.But.cell c1 (show w3.heap.size ≠ w1.heap.size by have := z2.out; have := z3.out; omega)
      have hne := Gen.But.some w1.heap.size w4
      go_wp2_with fail
      refine Gen.wp_region_mix (Gen.But.pre w1.heap.size) 6 5 1 rfl (by kernel_rfl) (by kernel_rfl) (by kernel_rfl) (by kernel_rfl) (by kernel_rfl) ?_
      simp only [List.take_succ_cons, List.take_zero]
      repeat (go_big_quiet_step (fail))
      refine wpQuiet_nil ?_
      refine Gen.wpM_call (k := 6) rfl (by kernel_rfl) (by kernel_rfl) (by go_simp) 47 _ #[.pointer (some ⟨w1.heap.size, 0, none⟩), .int .i64 (sd.length : Int)] (fun w => by go_simp) rfl ?_
      rintro _ ⟨n, rfl⟩
      refine (l1Next_c _ p q cs (26 + 1) (sd.length : Int) _ (hs4.drewN n) (by omega) (by omega) (by have := HD2.out; omega) (by have := HD.out; omega)).mono ?_
      rintro e w5 ⟨x, rfl, x0, x1, -, hg5⟩
      have hgw : w4.grownBy w5 (some w1.heap.size) := grownBy_trans (grownBy_drewN w4 n _) hg5
      refine ⟨_, rfl, ⟨⟨w5, hg5⟩, rfl⟩, ?_⟩
      obtain ⟨x, rfl⟩ := Int.eq_ofNat_of_zero_le x0
      have hxl : x < sd.length := by omega
      replace rk := rk.draw hgw LK.out
      replace rn := rn.draw hgw LN.out
      replace re := re.draw hgw LE.out
      replace A3 := A3.other hgw (fun e => by have := z2.out; have := z3.out; simp at e; omega)
      replace k3 := k3.other hgw (fun k hk e => by have := k3.ge k hk; have := z2.out; simp at e; omega)
      replace BW := BW.grown hgw BW.size (fun k hk => by simp at hk; have := hw1.out; omega)
      have cx := World.ownsRow.cellAt k3 x (by omega)
      rw [u8v_at hxl] at cx
      have fx := World.ownsRow.frozenAt k3 x
      have R := World.ownsRow.stored k3 x (u8v (sd.getD x 0 ^^^ 1))
      have hR : Own (w5.setCell ⟨g, x, none⟩ (u8v (sd.getD x 0 ^^^ 1))) w2.heap.size (.slice (some ⟨g, 0, none⟩) sd.length c3) (sd.set x (sd.getD x 0 ^^^ 1)) := by
        unfold Own
        rw [List.length_set, List.map_set]
        exact R.1
      have hxo : bits .xor .u8 ((sd.getD x 0).toNat : Int) 1 = ((sd.getD x 0 ^^^ 1).toNat : Int) := u8_xor8 (sd.getD x 0) 1
      have gx := Gen.But.cell cx (show g ≠ w1.heap.size by have := hg2.out; have := z2.out; omega)
      have hne5 := Gen.But.some w1.heap.size w5
      unfold at8 at gx cx
      have hcx2 : sd.length ≤ c3 := (Rd.own k3).1
      have hxI : (x : Int) < (sd.length : Int) := by omega
      clear hgw hg5 g1 hne c0 c1 f0
      generalize sd.getD x 0 = y at *
      refine Gen.wpM_next (Gen.But.pre w1.heap.size) 7 4 0 (by decide) (by decide) (by kernel_rfl) (by kernel_rfl) (by kernel_rfl) (by kernel_rfl) (by kernel_rfl) ?_
      simp only [List.drop_succ_cons, List.drop_zero, List.take_succ_cons, List.take_zero]
      go_simp
      repeat (go_big_quiet_step (fail))
      refine wpQuiet_nil ?_
      refine Gen.wpM_tail rfl (by kernel_rfl) (by decide) ?_
      rintro _ ⟨n2, rfl⟩
      simp only [List.drop_succ_cons, List.drop_zero]
      replace cx : (w5.drewN n2).cell? ⟨g, x, none⟩ = some (.int .u8 (y.toNat : Int)) := cx
      replace fx : (w5.drewN n2).frozen? ⟨g, x, none⟩ = false := fx
      have hgs := grownBy_trans (grownBy_drewN w5 n2 (some g)) (grownBy_set (w5.drewN n2) g x (u8v (y ^^^ 1)))
      replace hR : Own ((w5.drewN n2).setCell ⟨g, x, none⟩ (u8v (y ^^^ 1))) w2.heap.size (.slice (some ⟨g, 0, none⟩) sd.length c3) (sd.set x (y ^^^ 1)) := hR
      replace rk := rk.other hgs (fun hp y hy e => by have := LK.out hp y hy; have := hg2.out; have := z2.out; simp at e; omega)
      replace rn := rn.other hgs (fun hp y hy e => by have := LN.out hp y hy; have := hg2.out; have := z2.out; simp at e; omega)
      replace re := re.other hgs (fun hp y hy e => by have := LE.out hp y hy; have := hg2.out; have := z2.out; simp at e; omega)
      replace A3 := A3.other hgs (fun e => by have := hg3.out; simp at e; omega)
      replace BW := BW.grown hgs BW.size (fun k hk => by simp at hk; have := hg2.out; have := z2.out; have := hw1.out; omega)
      have c1 := A3.cell 1
      simp at c1
      unfold u8v at c1 hR rk rn re BW hgs
      have rz := Rd.own hR
      have HLS : Hid ((sd.set x (y ^^^ 1)).length = sd.length) := List.length_set
      generalize sd.set x (y ^^^ 1) = sd2 at *
      have hyx : ((y ^^^ 1).toNat : Int) = ((y.toNat ^^^ 1 : Nat) : Int) := by rw [UInt8.toNat_xor]; rfl
      rw [hyx] at c1 rk rn re rz BW hxo
      clear A3 R k3 hgs gx hne5 hR hyx
      go_wp2
      generalize (w5.drewN n2).setCell ⟨g, x, none⟩ (.int .u8 ((y.toNat ^^^ 1 : Nat) : Int)) = WW at *
      have gz := HW.at c1
      have hneZ := HW.some WW
      clear c1
      refine wp_region_class (by kernel_rfl) (by kernel_rfl) ?_
      repeat (go_big_quiet_step (fail))
      refine wpQuiet_nil ?_
      intro w8 hw8
      have hs8 := HW.out hw8
      go_wp2
      exact bodyPost_ret (v := .tuple #[.slice p1 key.length q1, .slice p2 nonce.length q2, .slice p3 extra.length q3, .slice (some ⟨g, 0, none⟩) sd.length c3]) (by simp [results, Tryd.results16, go_sem]) rfl ⟨p1, p2, p3, _, q1, q2, q3, c3, key, nonce, extra, sd2, by rw [HLS.out], rk.keep hs8, rn.keep hs8, re.keep hs8, rz.keep hs8, hl1, hl2, hl3, by have := HD.out; have := HLS.out; omega, Below.step BW hs8⟩
    · by_cases h1 : r = 1
      · subst h1
        have g1 := Gen.But.cell c1 (show w3.heap.size ≠ w1.heap.size by have := z2.out; have := z3.out; omega)
        have hne := Gen.But.some w1.heap.size w4
        go_wp2_with fail
        refine Gen.wp_region_mix (Gen.But.pre w1.heap.size) 6 3 1 rfl (by kernel_rfl) (by kernel_rfl) (by kernel_rfl) (by kernel_rfl) (by kernel_rfl) ?_
        simp only [List.take_succ_cons, List.take_zero]
        repeat (go_big_quiet_step (fail))
        refine wpQuiet_nil ?_
        refine Gen.wpM_call (k := 6) rfl (by kernel_rfl) (by kernel_rfl) (by go_simp) 47 _ #[.pointer (some ⟨w1.heap.size, 0, none⟩), .int .i64 (sd.length : Int)] (fun w => by go_simp) rfl ?_
        rintro _ ⟨n, rfl⟩
        refine (l1Next_c _ p q cs (26 + 1) (sd.length : Int) _ (hs4.drewN n) (by omega) (by omega) (by have := HD2.out; omega) (by have := HD.out; omega)).mono ?_
        rintro e w5 ⟨x, rfl, x0, x1, -, hg5⟩
        have hgw : w4.grownBy w5 (some w1.heap.size) := grownBy_trans (grownBy_drewN w4 n _) hg5
        refine ⟨_, rfl, ⟨⟨w5, hg5⟩, rfl⟩, ?_⟩
        obtain ⟨x, rfl⟩ := Int.eq_ofNat_of_zero_le x0
        have hxl : x ≤ sd.length := by omega
        replace rk := rk.draw hgw LK.out
        replace rn := rn.draw hgw LN.out
        replace re := re.draw hgw LE.out
        replace A3 := A3.other hgw (fun e => by have := z2.out; have := z3.out; simp at e; omega)
        replace k3 := k3.other hgw (fun k hk e => by have := k3.ge k hk; have := z2.out; simp at e; omega)
        replace BW := BW.grown hgw BW.size (fun k hk => by simp at hk; have := hw1.out; omega)
        have hcx2 : sd.length ≤ c3 := (Rd.own k3).1
        have hcx3 : c3 ≤ 2 ^ 63 - 1 := (Rd.own k3).2.1
        have hxc : x ≤ c3 := by omega
        have hxI : (x : Int) ≤ (sd.length : Int) := by omega
        have hne5 := Gen.But.some w1.heap.size w5
        clear hgw hg5 g1 hne c0 c1 f0
        refine Gen.wpM_next (Gen.But.pre w1.heap.size) 7 2 0 (by decide) (by decide) (by kernel_rfl) (by kernel_rfl) (by kernel_rfl) (by kernel_rfl) (by kernel_rfl) ?_
        simp only [List.drop_succ_cons, List.drop_zero, List.take_succ_cons, List.take_zero]
        go_simp
        repeat (go_big_quiet_step (fail))
        refine wpQuiet_nil ?_
        refine Gen.wpM_tail rfl (by kernel_rfl) (by decide) ?_
        rintro _ ⟨n2, rfl⟩
        simp only [List.drop_succ_cons, List.drop_zero]
        replace A3 : Arr (w5.drewN n2) w3.heap.size 27 [.int .i64 0, .slice a3 sd.length c3] := A3
        have c1 := A3.cell 1
        simp at c1
        have f1 := A3.frozen
        have hgs := grownBy_trans (grownBy_drewN w5 n2 (some w3.heap.size)) (grownBy_set (w5.drewN n2) w3.heap.size 1 (.slice a3 x c3))
        replace rk := rk.other hgs (fun hp y hy e => by have := LK.out hp y hy; have := z2.out; have := z3.out; simp at e; omega)
        replace rn := rn.other hgs (fun hp y hy e => by have := LN.out hp y hy; have := z2.out; have := z3.out; simp at e; omega)
        replace re := re.other hgs (fun hp y hy e => by have := LE.out hp y hy; have := z2.out; have := z3.out; simp at e; omega)
        have kc := (k3.cut x hxl).other hgs (fun k hk e => by have := z4.out k (by cases a3 <;> simp [Value.ownBlock] at hk ⊢; exact hk); simp at e; omega)
        have A4 := A3.set 1 (.slice a3 x c3)
        replace BW := BW.grown hgs BW.size (fun k hk => by simp at hk; have := z2.out; have := z3.out; have := hw1.out; omega)
        have HLS : Hid ((sd.take x).length = x) := by show _ = _; rw [List.length_take]; omega
        have rz := Rd.own kc
        generalize sd.take x = sd2 at *
        clear k3 kc hgs hne5
        go_wp2
        clear c1 f1 A3
        have c1 := A4.cell 1
        simp at c1
        generalize (w5.drewN n2).setCell ⟨w3.heap.size, 1, none⟩ (.slice a3 x c3) = WW at *
        have gz := HW.at c1
        have hneZ := HW.some WW
        clear c1
        refine wp_region_class (by kernel_rfl) (by kernel_rfl) ?_
        repeat (go_big_quiet_step (fail))
        refine wpQuiet_nil ?_
        intro w8 hw8
        have hs8 := HW.out hw8
        go_wp2
        exact bodyPost_ret (v := .tuple #[.slice p1 key.length q1, .slice p2 nonce.length q2, .slice p3 extra.length q3, .slice a3 x c3]) (by simp [results, Tryd.results16, go_sem]) rfl ⟨p1, p2, p3, a3, q1, q2, q3, c3, key, nonce, extra, sd2, by rw [HLS.out], rk.keep hs8, rn.keep hs8, re.keep hs8, rz.keep hs8, hl1, hl2, hl3, by have := HD.out; have := HLS.out; omega, Below.step BW hs8⟩
      · have b0 : (r == 0) = false := by rw [beq_eq_false_iff_ne]; exact h0
        have b1 : (r == 1) = false := by rw [beq_eq_false_iff_ne]; exact h1
        have e0 : ((0 : Int) == r) = false := by rw [beq_eq_false_iff_ne]; omega
        have e1 : ((1 : Int) == r) = false := by rw [beq_eq_false_iff_ne]; omega
        go_wp2
        have gz := HW.at c1
        have hneZ := HW.some w4
        clear c1
        refine wp_region_class (by kernel_rfl) (by kernel_rfl) ?_
        repeat (go_big_quiet_step (fail))
        refine wpQuiet_nil ?_
        intro w8 hw8
        have hs8 := HW.out hw8
        go_wp2
        exact bodyPost_ret (v := .tuple #[.slice p1 key.length q1, .slice p2 nonce.length q2, .slice p3 extra.length q3, .slice a3 sd.length c3]) (by simp [results, Tryd.results16, go_sem]) rfl ⟨p1, p2, p3, a3, q1, q2, q3, c3, key, nonce, extra, sd, rfl, rk.keep hs8, rn.keep hs8, re.keep hs8, (Rd.own k3).keep hs8, hl1, hl2, hl3, by have := HD.out; omega, Below.step BW hs8⟩
  · generalize tgC key nonce extra plain = tc at *
    have cz : (tc != 0) = true := by rw [bne_iff_ne]; exact hc
    clear hc
    go_wp2
    have hbA := alloc_below w3 (.cells #[.int .i64 tc, .slice a3 (slL key nonce extra plain).length c3] 27)
    exact bodyPost_ret (v := .tuple #[.slice p1 key.length q1, .slice p2 nonce.length q2, .slice p3 extra.length q3, .slice p4 plain.length q4]) (by simp [results, Tryd.results16, go_sem]) rfl ⟨p1, p2, p3, p4, q1, q2, q3, q4, key, nonce, extra, plain, rfl, rk.keep hbA, rn.keep hbA, re.keep hbA, rp.keep hbA, hl1, hl2, hl3, by omega, Below.step BW hbA⟩
end Go.Proofs.YtpcgpefefklfoaaDoor

