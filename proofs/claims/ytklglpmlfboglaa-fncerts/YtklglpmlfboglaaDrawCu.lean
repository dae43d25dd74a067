/- The draws DrawUnpackCert, DrawPackCert, DrawLookCert: what comes out can be read; its bounds, no more (written by tools/draw_cu.py). -/
import Derived.Test.YtklglpmlfboglaaDrawCt
namespace Go.Proofs.Ytklglpmlfboglaa
open Go.ChangeShapes Go.WideShapes Go.ChangeAt Go.RowKit

set_option maxRecDepth 4000 in
set_option maxHeartbeats 1000000 in
theorem drawLk_c (p : Option Addr) (q : Nat) (cs : List UInt8) (w : World) (hr : Rd w p q cs) :
    Calls Try.prog 17 #[.slice p cs.length q] w fun e w' => ∃ (l : List CertD) (pl : Option Addr) (ql : Nat) (id : Int), e = .returned (.tuple #[.slice pl l.length ql, .int .i64 id]) ∧ l.length ≤ 9 ∧ 1 ≤ id ∧ id ≤ 6 ∧ RdL certC w' pl ql l ∧ Below w.heap.size w w' := by
  go_enter Try.func17, Try.ntmps17
  go_wp2_with fail
  refine (l1Source_c p q cs w hr).mono ?_
  rintro e w1 ⟨rfl, hs, hb, hlt⟩
  go_wp2_with fail
  refine (l12Bent_c w.heap.size p q cs 0 w1 hs (by omega) (by omega)).mono ?_
  rintro e w2 ⟨v, rfl, l, xs, fp, t', ho, hl, -, ht3, ht4, hs2, hg2⟩
  obtain ⟨po, qo, rfl, hrd⟩ := ho.rd
  have BW := hb.grown hg2 (Nat.le_of_lt hlt) (fun k hk => by simp at hk; omega)
  clear hb hs hg2
  go_wp2_with fail
  refine (l1Next_c w.heap.size p q cs t' 6 _ hs2 (by omega) (by omega) (by omega) (by omega)).mono ?_
  rintro e w3 ⟨r, rfl, x0, y0, hs3, hg3⟩
  replace ho := ho.drawC hg3 hlt
  replace BW := BW.grown hg3 BW.size (fun k hk => by simp at hk; omega)
  have HR : Hid (RdL certC w3 po qo l) := RdL.own ho
  clear hs2 hg3 hrd ho
  go_wp2_with fail
  exact bodyPost_ret (v := .tuple #[.slice po l.length qo, .int .i64 (1 + r)]) (by simp [results, Try.results17, go_sem]) rfl ⟨l, po, qo, 1 + r, rfl, hl, by omega, by omega, HR.out, BW⟩
set_option maxRecDepth 4000 in
set_option maxHeartbeats 1000000 in
theorem drawPc_c (p : Option Addr) (q : Nat) (cs : List UInt8) (w : World) (hr : Rd w p q cs) :
    Calls Try.prog 15 #[.slice p cs.length q] w fun e w' => ∃ a : CertD, e = .returned (.agg #[.int .i64 a.1, .int .i64 a.2.1, .int .i64 a.2.2]) ∧ Below w.heap.size w w' := by
  have R := Arr.new w [.int .i64 0, .int .i64 0, .int .i64 0] 26
  have BW := alloc_below w (.cells #[.int .i64 0, .int .i64 0, .int .i64 0] 26)
  go_enter Try.func15, Try.ntmps15
  go_wp2_with fail
  refine (l1Source_c p q cs _ (hr.keep BW)).mono ?_
  rintro e w1 ⟨rfl, hs, hb, hlt⟩
  rw [size_alloc] at hs hb hlt
  rw [size_alloc]
  have hb' : Below (w.alloc (.cells #[.int .i64 0, .int .i64 0, .int .i64 0] 26)).heap.size (w.alloc (.cells #[.int .i64 0, .int .i64 0, .int .i64 0] 26)) w1 := by rw [size_alloc]; exact hb
  replace R := R.stay hb'
  replace BW := Below.step BW hb'
  clear hb hb'
  go_wp2_with fail
  refine (l1Pick_c (w.heap.size + 1) p q cs (0) w1.heap.size [1, 7, 99, 0, 100] 5 _ (hs.keep (alloc_below _ _)) (by omega) (by omega) rfl (by decide) (by decide) (by have := hs.lt; omega) (new_ints _ _ _ [1, 7, 99, 0, 100] rfl)).mono ?_
  rintro e w2 ⟨r1, -, rfl, hs2, hgp⟩
  replace R := (R.stay (alloc_below _ _)).other hgp (fun e => by simp at e)
  replace BW := (Below.mk BW _).grown hgp (by rw [size_alloc]; have := BW.size; omega) (fun k hk => by simp at hk; omega)
  clear hgp hs
  go_wp2_with fail
  refine (l1Pick_c (w.heap.size + 1) p q cs (0 + 1) w2.heap.size [1, 9, 0] 3 _ (hs2.keep (alloc_below _ _)) (by omega) (by omega) rfl (by decide) (by decide) (by have := hs2.lt; omega) (new_ints _ _ _ [1, 9, 0] rfl)).mono ?_
  rintro e w3 ⟨r2, -, rfl, hs3, hgp⟩
  replace R := (R.stay (alloc_below _ _)).other hgp (fun e => by simp at e)
  replace BW := (Below.mk BW _).grown hgp (by rw [size_alloc]; have := BW.size; omega) (fun k hk => by simp at hk; omega)
  clear hgp hs2
  go_wp2_with fail
  refine (l1Pick_c (w.heap.size + 1) p q cs (0 + 1 + 1) w3.heap.size [5, 9999, 10000] 3 _ (hs3.keep (alloc_below _ _)) (by omega) (by omega) rfl (by decide) (by decide) (by have := hs3.lt; omega) (new_ints _ _ _ [5, 9999, 10000] rfl)).mono ?_
  rintro e w4 ⟨r3, -, rfl, hs4, hgp⟩
  replace R := (R.stay (alloc_below _ _)).other hgp (fun e => by simp at e)
  replace BW := (Below.mk BW _).grown hgp (by rw [size_alloc]; have := BW.size; omega) (fun k hk => by simp at hk; omega)
  clear hgp hs3
  have c0 := R.cell 0
  have c1 := R.cell 1
  have c2 := R.cell 2
  have fz := R.frozen
  simp at c0 c1 c2
  go_wp2_with fail
  exact bodyPost_ret (v := .agg #[.int .i64 r1, .int .i64 r2, .int .i64 r3]) (by simp [results, Try.results15, go_sem, c0, c1, c2]) rfl ⟨(r1, r2, r3), rfl, ((BW.setCell (Nat.le_refl _) _).setCell (Nat.le_refl _) _).setCell (Nat.le_refl _) _⟩
set_option maxRecDepth 4000 in
set_option maxHeartbeats 1000000 in
theorem drawUc_c (p : Option Addr) (q : Nat) (cs : List UInt8) (w : World) (hr : Rd w p q cs) :
    Calls Try.prog 10 #[.slice p cs.length q] w fun e w' => ∃ (p1 : Option Addr) (q1 : Nat) (bs : List UInt8), e = .returned (.slice p1 bs.length q1) ∧ bs.length ≤ 4 ∧ Rd w' p1 q1 bs ∧ Below w.heap.size w w' := by
  go_enter Try.func10, Try.ntmps10
  go_wp2_with fail
  refine (l1Source_c p q cs w hr).mono ?_
  rintro e w1 ⟨rfl, hs, hb, hlt⟩
  have hltH : Hid (w.heap.size < w1.heap.size) := hlt
  go_wp2_with fail
  refine (l12Right_c w.heap.size p q cs 0 w1 hs (by omega) (by omega)).mono ?_
  rintro e w2 ⟨v, rfl, l, xs, fp, t', ho, hl, ⟨hl1, hok⟩, ht3, ht4, hs2, hg2⟩
  obtain ⟨po, qo, rfl, hrd⟩ := ho.rd
  have BW := hb.grown hg2 (Nat.le_of_lt hlt) (fun k hk => by simp at hk; omega)
  obtain ⟨b0, o0, e1, hc⟩ := hrd.2.2.2 (by omega)
  subst e1
  obtain ⟨a, ha⟩ : ∃ a, l[0]? = some a := ⟨l[0], by simp⟩
  obtain ⟨us, hrep, hcell⟩ := hc 0 a ha
  obtain rfl := cert_rep hrep
  have c0 := hcell 0 _ rfl
  have c1 := hcell 1 _ rfl
  have c2 := hcell 2 _ rfl
  rw [Nat.zero_mul, Nat.add_zero] at c0 c1 c2
  have hq1 : l.length ≤ qo := hrd.1
  have hq2 : qo ≤ 2 ^ 63 - 1 := hrd.2.1
  have hoa : Hid (okC a = true) := hok a (List.mem_of_getElem? ha)
  have hlI : 0 < (l.length : Int) := by omega
  have N := Arr.new w2 [.int .i64 a.1, .int .i64 a.2.1, .int .i64 a.2.2] 26
  have hal := alloc_below w2 (.cells #[.int .i64 a.1, .int .i64 a.2.1, .int .i64 a.2.2] 26)
  have hs3 := hs2.keep hal
  have B3 := Below.step BW hal
  have hw2 : Hid (w.heap.size < w2.heap.size) := Nat.lt_of_lt_of_le hlt hg2.size
  have KP : Hid (Calls Try.prog 41 #[.pointer (some ⟨w2.heap.size, 0, none⟩)] _ _) := l12Pack_c w2.heap.size 0 a _ ((N.cell 0).trans rfl) ((N.cell 1).trans rfl) ((N.cell 2).trans rfl) hoa.out
  have HPL : Hid ((pcL a).length = 4) := rfl
  clear hs hb hg2 ho hrd hc hcell hrep hok BW hs2 hal
  go_wp2_with fail
  refine KP.out.mono ?_
  rintro e w4 ⟨u4, rfl, k4, hb4⟩
  replace hs3 := hs3.keep hb4
  replace B3 := Below.step B3 hb4
  generalize pcL a = bs at *
  obtain ⟨p4, q4, rfl, r4⟩ := k4.rd
  have hq41 := r4.1
  have hq42 : q4 ≤ 2 ^ 63 - 1 := r4.2.1
  have hnb : Hid (∀ k, (Value.slice p4 bs.length q4).ownBlock = some k → w.heap.size < k) := fun k hk => by have h := k4.ge k hk; rw [size_alloc] at h; have := hw2.out; omega
  replace k4 := k4.lower (B' := w.heap.size) (by rw [size_alloc]; have := hw2.out; omega)
  obtain ⟨g, e4⟩ : ∃ g, p4 = some ⟨g, 0, none⟩ := by
    rcases k4.2 with ⟨e, hz⟩ | ⟨g, cap, cur, e, -⟩
    · have := HPL.out; omega
    · simp at e; exact ⟨g, e.1⟩
  subst e4
  rw [HPL.out] at hq41
  clear KP hb4 c0 c1 c2 N r4
  go_wp2_with fail
  refine (l1Next_c w.heap.size p q cs t' 4 w4 hs3 (by omega) (by omega) (by omega) (by omega)).mono ?_
  rintro e w5 ⟨r, rfl, x1, y1, hs5, hg5⟩
  replace k4 := k4.other hg5 (fun k hk e => by have := hnb.out k hk; simp at e; omega)
  replace B3 := B3.grown hg5 B3.size (fun k hk => by simp at hk; omega)
  clear hs3 hg5
  by_cases h0 : r = 0
  · subst h0
    go_wp2_with fail
    refine (l1Next_c w.heap.size p q cs (t' + 1) 4 w5 hs5 (by omega) (by omega) (by omega) (by omega)).mono ?_
    rintro e w6 ⟨n, rfl, x2, y2, hs6, hg6⟩
    obtain ⟨n, rfl⟩ := Int.eq_ofNat_of_zero_le x2
    replace k4 := k4.other hg6 (fun k hk e => by have := hnb.out k hk; simp at e; omega)
    replace B3 := B3.grown hg6 B3.size (fun k hk => by simp at hk; omega)
    clear hs5 hg6
    go_wp2_with fail
    refine (l1Next_c w.heap.size p q cs (t' + 1 + 1) 256 w6 hs6 (by omega) (by omega) (by omega) (by omega)).mono ?_
    rintro e w7 ⟨m, rfl, x3, y3, hs7, hg7⟩
    obtain ⟨m, rfl⟩ := Int.eq_ofNat_of_zero_le x3
    replace k4 := k4.other hg7 (fun k hk e => by have := hnb.out k hk; simp at e; omega)
    replace B3 := B3.grown hg7 B3.size (fun k hk => by simp at hk; omega)
    have hnl : n < bs.length := by have := HPL.out; omega
    have k5 : w7.ownsRow w.heap.size 5 1 (.slice (some ⟨g, 0, none⟩) bs.length q4) bs.length (bs.map u8v) := k4
    have cn := World.ownsRow.cellAt k5 n (by omega)
    rw [u8v_at hnl] at cn
    have fz := World.ownsRow.frozenAt k5
    have R1 := World.ownsRow.stored k5 n (u8v (UInt8.ofNat m))
    rw [show (bs.map u8v).set n (u8v (UInt8.ofNat m)) = (bs.set n (UInt8.ofNat m)).map u8v by rw [List.map_set]] at R1
    have k6 : Own (w7.setCell ⟨g, n, none⟩ (u8v (UInt8.ofNat m))) w.heap.size (.slice (some ⟨g, 0, none⟩) bs.length q4) (bs.set n (UInt8.ofNat m)) := by
      unfold Own
      rw [List.length_set]
      exact R1.1
    have hu : u8v (UInt8.ofNat m) = .int .u8 (m : Int) := by unfold u8v; rw [UInt8.toNat_ofNat']; congr 1; omega
    rw [hu] at k6
    have r6 := Rd.own k6
    have B6 := B3.setCell (p := ⟨g, n, none⟩) (Nat.le_of_lt (hnb.out g rfl)) (.int .u8 (m : Int))
    have HL2 : Hid ((bs.set n (UInt8.ofNat m)).length = bs.length) := List.length_set ..
    rw [HPL.out]
    clear hs6 hg7 hs7 k4 k5 R1 k6
    go_wp2_with fail
    go_ret
    exact ⟨some ⟨g, 0, none⟩, q4, bs.set n (UInt8.ofNat m), by rw [HL2.out, HPL.out]; rfl, by rw [HL2.out, HPL.out]; exact Nat.le_refl _, r6, B6⟩
  · by_cases h1 : r = 1
    · subst h1
      go_wp2_with fail
      refine (l1Next_c w.heap.size p q cs (t' + 1) 4 w5 hs5 (by omega) (by omega) (by omega) (by omega)).mono ?_
      rintro e w6 ⟨n, rfl, x2, y2, hs6, hg6⟩
      obtain ⟨n, rfl⟩ := Int.eq_ofNat_of_zero_le x2
      replace k4 := k4.other hg6 (fun k hk e => by have := hnb.out k hk; simp at e; omega)
      replace B3 := B3.grown hg6 B3.size (fun k hk => by simp at hk; omega)
      have r6 := (Rd.own k4).take n
      have hln : Hid ((bs.take n).length = n) := by show _ = _; rw [List.length_take]; have := HPL.out; omega
      rw [HPL.out]
      clear hs5 hg6 k4 hs6
      go_wp2_with fail
      go_ret
      exact ⟨some ⟨g, 0, none⟩, q4, bs.take n, by rw [hln.out]; rfl, by rw [hln.out]; omega, r6, B3⟩
    · have d0 : (r == 0) = false := by rw [beq_eq_false_iff_ne]; exact h0
      have d1 : (r == 1) = false := by rw [beq_eq_false_iff_ne]; exact h1
      have r6 := Rd.own k4
      rw [HPL.out]
      clear k4 hs5
      go_wp2_with fail
      go_ret
      exact ⟨some ⟨g, 0, none⟩, q4, bs, by rw [HPL.out]; rfl, by rw [HPL.out]; exact Nat.le_refl _, r6, B3⟩
end Go.Proofs.Ytklglpmlfboglaa
