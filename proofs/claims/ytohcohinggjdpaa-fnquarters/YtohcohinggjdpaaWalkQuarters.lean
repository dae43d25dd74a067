/- The walk of FnQuarters. -/
import Derived.Test.YtohcohinggjdpaaDrawS
import Derived.Test.YtohcohinggjdpaaStrI
import Derived.Test.YtohcohinggjdpaaBig
import Derived.Test.YtohcohinggjdpaaLwSame
import Derived.Test.YtohcohinggjdpaaOdd
import Derived.Test.YtohcohinggjdpaaFields
namespace Go.Proofs.Ytohcohinggjdpaa
open Go.ChangeShapes Go.WideShapes Go.ChangeAt Go.RowKit

theorem nfC_base {base : List UInt8} {seq : Int} (h : nfC base seq = 0) : base.length = 12 := by
  unfold nfC at h
  split at h
  · assumption
  · cases h
theorem nfL_len12 {base : List UInt8} {seq : Int} (h : nfC base seq = 0) : (nfL base seq).length = 12 := by
  have hb := nfC_base h
  unfold nfC at h
  rw [if_pos hb] at h
  split at h
  · rename_i h2
    simp only [nfL, hb, h2, and_self, if_true, nonceN_len]
  · cases h
theorem zs_at (n i : Nat) : (zs n).getD i 0 = 0 := by
  unfold zs
  rw [List.getD_eq_getElem?_getD, List.getElem?_replicate]
  split <;> rfl
theorem nfL_zero {base : List UInt8} (h : base.length = 12) : nfL base 0 = base := by
  have hi : inB 0 0 2147483648 = true := by decide
  simp only [nfL, h, hi, and_self, if_true]
  unfold nonceN
  have hp : putB (0 : Int).toNat 12 = zs 12 := by decide
  rw [hp]
  apply List.ext_getElem?
  intro i
  by_cases h2 : i < 12
  · have hl : i < base.length := by omega
    rw [List.getElem?_map, List.getElem?_range h2]
    simp only [Option.map_some, zs_at]
    simp [hl]
  · rw [List.getElem?_eq_none (by simp; omega), List.getElem?_eq_none (by omega)]

set_option maxRecDepth 4000 in
set_option maxHeartbeats 8000000 in
theorem fnQuarters_walk (a : Option Addr) (cap : Nat) (bs0 : List UInt8) (w : World) (r0 : Rd w a cap bs0) :
    Calls Try.prog 4 #[.slice a bs0.length cap] w fun e w' => e = .returned (.bool true) ∧ Below w.heap.size w w' := by
  by_cases hl0 : 1048576 < bs0.length
  · go_enter Try.func4, Try.ntmps4
    go_wp2_with fail
    refine (lwBig_yes _ _ _ _ hl0).mono ?_
    rintro e w1 ⟨rfl, rfl⟩
    go_wp2
    go_ret
    exact ⟨rfl, Below.refl _ _⟩
  replace hl0 : bs0.length ≤ 1048576 := by omega
  have bf0 := bytes_f0
  have bf1 := bytes_f1
  have lf0 := ints_f0
  have lf1 := ints_f1
  go_enter Try.func4, Try.ntmps4
  go_wp2_with fail
  refine (lwBig_no _ _ _ _ hl0).mono ?_
  rintro e w1 ⟨rfl, hw1⟩
  rw [hw1]
  clear hw1 w1
  go_wp2_with fail
  refine (drawQuarter_c _ _ bs0 _ r0).mono ?_
  rintro e w1 ⟨u1, l, xa, xb, xc, xd, rfl, k1, BW⟩
  obtain ⟨p1, q1, rfl, rs⟩ := k1.rd
  replace r0 := r0.keep BW
  clear k1
  go_wp2_with fail
  refine (implQR_c p1 q1 l xa xb xc xd _ rs).mono ?_
  rintro e w2 ⟨u2, rfl, k2, hb2⟩
  obtain ⟨p2, q2, rfl, rr⟩ := k2.rd
  replace r0 := r0.keep hb2
  replace rs := rs.keep hb2
  replace BW := Below.step BW hb2
  clear hb2 k2
  by_cases hok : qrC l xa xb xc xd = 0
  · obtain ⟨h16, hqo, hsm⟩ := qrC_zero hok
    have hall : l.all isW = true := by simp [qrOk] at hqo; simpa using hqo.1
    obtain ⟨na, rfl, ba⟩ := nat16 (a := xa) (by simp [qrOk] at hqo; exact hqo.2.1)
    obtain ⟨nb, rfl, bb⟩ := nat16 (a := xb) (by simp [qrOk] at hqo; exact hqo.2.2.1)
    obtain ⟨nc, rfl, bc⟩ := nat16 (a := xc) (by simp [qrOk] at hqo; exact hqo.2.2.2.1)
    obtain ⟨nd, rfl, bd⟩ := nat16 (a := xd) (by simp [qrOk] at hqo; exact hqo.2.2.2.2)
    have hL : qrL l na nb nc nd = (quarterN (l.map Int.toNat) na nb nc nd).map Int.ofNat := by simp [qrL, hok]
    obtain ⟨Q, hQ⟩ : ∃ Q, Hid (Q = quarterN (l.map Int.toNat) na nb nc nd) := ⟨_, rfl⟩
    rw [hL, ← hQ.out] at rr ⊢
    have HQL : Hid ((Q.map Int.ofNat).length = 16) := by show _ = _; rw [List.length_map, hQ.out, quarterN_len, List.length_map, h16]
    have HLL : Hid (l.length = 16) := h16
    have HAT : Hid (∀ i, i < 16 → atI l i = ((l.map Int.toNat).getD i 0 : Nat)) := fun i hi => by
      have h1 := (isW_at hall i).1
      have hil : i < l.length := by omega
      rw [atI_get hil] at h1 ⊢
      simp [hil]
      omega
    have HQA : Hid (∀ i, i < 16 → atI (Q.map Int.ofNat) i = (Q.getD i 0 : Nat)) := fun i hi => by
      have hil : i < (Q.map Int.ofNat).length := by rw [HQL.out]; exact hi
      rw [atI_get hil]
      have h2 : i < Q.length := by simpa using hil
      simp [h2]
    have HOT : Hid (∀ i, i ≠ na → i ≠ nb → i ≠ nc → i ≠ nd → Q.getD i 0 = (l.map Int.toNat).getD i 0) := fun i h1 h2 h3 h4 => by rw [hQ.out]; exact quarterN_other _ h1 h2 h3 h4
    have HS : Hid (∀ w, RdI w p1 q1 l → Calls Try.prog 19 #[.slice p1 l.length q1, .int .i64 na, .int .i64 nb, .int .i64 nc, .int .i64 nd] w fun e w' => ∃ u, e = .returned (.agg #[.int .i64 0, u]) ∧ OwnI w' w.heap.size u (Q.map Int.ofNat) ∧ Below w.heap.size w w') := fun w h => by
      have g := specQR_c p1 q1 l na nb nc nd w h
      rw [hok, hL, ← hQ.out] at g
      exact g
    rw [hok, HQL.out]
    clear hok hqo hsm hall hL h16
    --@loop
    go_wp2_with fail
    have A1 := Arr.new w2 [.int .i64 0, .slice p2 16 q2] 36
    have hbA := alloc_below w2 (.cells #[.int .i64 0, .slice p2 16 q2] 36)
    replace r0 := r0.keep hbA
    replace rs := rs.keep hbA
    replace rr := rr.keep hbA
    replace BW := Below.step BW hbA
    clear hbA
    obtain ⟨b1, o1, e1, h1⟩ := rs.2.2.2 (by rw [HLL.out]; decide)
    obtain ⟨b2, o2, e2, h2⟩ := rr.2.2.2 (by rw [HQL.out]; decide)
    subst e1 e2
    generalize w2.alloc (Obj.cells #[Value.int IntKind.i64 0, Value.slice (some ⟨b2, o2, none⟩) 16 q2] 36) = W at *
    have HA1 : Hid (Arr W w2.heap.size 36 [.int .i64 0, .slice (some ⟨b2, o2, none⟩) 16 q2]) := A1
    have H1 : Hid (∀ i, i < 16 → W.cell? ⟨b1, o1 + i, none⟩ = some (.int .i64 ((l.map Int.toNat).getD i 0 : Nat))) := fun i hi => by rw [h1 i (by rw [HLL.out]; exact hi), HAT.out i hi]
    have H2 : Hid (∀ i, i < 16 → W.cell? ⟨b2, o2 + i, none⟩ = some (.int .i64 (Q.getD i 0 : Nat))) := fun i hi => by rw [h2 i (by rw [HQL.out]; exact hi), HQA.out i hi]
    clear A1 h1 h2
    go_loopw [9] (fun i wr => ∃ j : Nat, j ≤ 16 ∧ i = .int .i64 j ∧ Below W.heap.size W wr)
      (fun i _ => 16 - (intOf i).toNat)
    case atStart => exact ⟨0, Nat.zero_le _, rfl, Below.refl _ _⟩
    case round =>
      obtain ⟨j, hj, rfl, hbr⟩ := hrel
      have B1 := HA1.out.stay hbr
      have c1 := B1.cell 1
      simp at c1
      by_cases hjl : j < 16
      · have hI : (j : Int) < 16 := by omega
        have hIl : (j : Int) < (l.length : Int) := by have := HLL.out; omega
        have x1 := cell_keep (H1.out j hjl) hbr
        have x2 := cell_keep (H2.out j hjl) hbr
        have HO := HOT.out j
        generalize Q.getD j 0 = y at *
        generalize (l.map Int.toNat).getD j 0 = x at *
        have g1 := HW.at c1
        have y1 := HW.at x1
        have y2 := HW.at x2
        have hne := HW.some wr
        skip
        by_cases ha : j = na
        · have ia : ((j : Int) != (na : Int)) = false := by rw [bne_eq_false_iff_eq]; omega
          clear ha
          clear HO
          go_wp2_with fail
          clear c1 x1 x2
          refine wp_region_class (by kernel_rfl) (by kernel_rfl) ?_
          repeat (go_big_quiet_step (fail))
          refine wpQuiet_nil ?_
          intro w8 hw8
          have hs8 := HW.out hw8
          go_wp2_with fail
          exact ⟨⟨j + 1, by omega, by go_num, Below.step hbr hs8⟩, by simp [intOf]; omega⟩
        have ia : ((j : Int) != (na : Int)) = true := by rw [bne_iff_ne]; omega
        by_cases hb : j = nb
        · have ib : ((j : Int) != (nb : Int)) = false := by rw [bne_eq_false_iff_eq]; omega
          clear hb
          clear HO
          go_wp2_with fail
          clear c1 x1 x2
          refine wp_region_class (by kernel_rfl) (by kernel_rfl) ?_
          repeat (go_big_quiet_step (fail))
          refine wpQuiet_nil ?_
          intro w8 hw8
          have hs8 := HW.out hw8
          go_wp2_with fail
          exact ⟨⟨j + 1, by omega, by go_num, Below.step hbr hs8⟩, by simp [intOf]; omega⟩
        have ib : ((j : Int) != (nb : Int)) = true := by rw [bne_iff_ne]; omega
        by_cases hc : j = nc
        · have ic : ((j : Int) != (nc : Int)) = false := by rw [bne_eq_false_iff_eq]; omega
          clear hc
          clear HO
          go_wp2_with fail
          clear c1 x1 x2
          refine wp_region_class (by kernel_rfl) (by kernel_rfl) ?_
          repeat (go_big_quiet_step (fail))
          refine wpQuiet_nil ?_
          intro w8 hw8
          have hs8 := HW.out hw8
          go_wp2_with fail
          exact ⟨⟨j + 1, by omega, by go_num, Below.step hbr hs8⟩, by simp [intOf]; omega⟩
        have ic : ((j : Int) != (nc : Int)) = true := by rw [bne_iff_ne]; omega
        by_cases hd : j = nd
        · have id : ((j : Int) != (nd : Int)) = false := by rw [bne_eq_false_iff_eq]; omega
          clear hd
          clear HO
          go_wp2_with fail
          clear c1 x1 x2
          refine wp_region_class (by kernel_rfl) (by kernel_rfl) ?_
          repeat (go_big_quiet_step (fail))
          refine wpQuiet_nil ?_
          intro w8 hw8
          have hs8 := HW.out hw8
          go_wp2_with fail
          exact ⟨⟨j + 1, by omega, by go_num, Below.step hbr hs8⟩, by simp [intOf]; omega⟩
        have id : ((j : Int) != (nd : Int)) = true := by rw [bne_iff_ne]; omega
        have hxy : y = x := HO ha hb hc hd
        subst hxy
        clear HO
        go_wp2_with fail
        clear c1 x1 x2
        refine wp_region_class (by kernel_rfl) (by kernel_rfl) ?_
        repeat (go_big_quiet_step (fail))
        refine wpQuiet_nil ?_
        intro w8 hw8
        have hs8 := HW.out hw8
        go_wp2_with fail
        exact ⟨⟨j + 1, by omega, by go_num, Below.step hbr hs8⟩, by simp [intOf]; omega⟩
      · have hI : ¬ (j : Int) < 16 := by omega
        go_wp2_with fail
        replace r0 := r0.keep hbr
        replace rs := rs.keep hbr
        replace rr := rr.keep hbr
        replace BW := Below.step BW hbr
        clear hbr c1 hj hI
        refine (drawStart_c a cap bs0 wr r0).mono ?_
        rintro e w3 ⟨p3, p4, q3, q4, key, nonce, cnt, rfl, rk, rn, hkl, hnl, hb3⟩
        replace r0 := r0.keep hb3
        replace rs := rs.keep hb3
        replace rr := rr.keep hb3
        replace BW := Below.step BW hb3
        replace B1 := B1.stay hb3
        clear hb3 hl0
        go_wp2_with fail
        refine (implSS_c p3 p4 q3 q4 key nonce cnt _ rk rn).mono ?_
        rintro e w4 ⟨u4, rfl, k4, hb4⟩
        obtain ⟨p5, q5, rfl, rS⟩ := k4.rd
        replace r0 := r0.keep hb4
        replace rs := rs.keep hb4
        replace rr := rr.keep hb4
        replace rk := rk.keep hb4
        replace rn := rn.keep hb4
        replace BW := Below.step BW hb4
        replace B1 := B1.stay hb4
        clear hb4 k4
        obtain ⟨sc, hsc⟩ : ∃ c, Hid (c = strC key nonce cnt) := ⟨_, rfl⟩
        obtain ⟨sl, hsl⟩ : ∃ c, Hid (c = ssL key nonce cnt) := ⟨_, rfl⟩
        rw [← hsc.out, ← hsl.out]
        rw [← hsl.out] at rS
        have S1 := Arr.new w4 [.int .i64 sc, .slice p5 sl.length q5] 36
        have hbS := alloc_below w4 (.cells #[.int .i64 sc, .slice p5 sl.length q5] 36)
        replace r0 := r0.keep hbS
        replace rs := rs.keep hbS
        replace rr := rr.keep hbS
        replace rk := rk.keep hbS
        replace rn := rn.keep hbS
        replace rS := rS.keep hbS
        replace BW := Below.step BW hbS
        replace B1 := B1.stay hbS
        clear hbS
        go_wp2_with fail
        refine (drawNonce_c a cap bs0 _ r0).mono ?_
        rintro e w5 ⟨p6, q6, base, seq, rfl, rb, hbl, hb5⟩
        replace rs := rs.keep hb5
        replace rr := rr.keep hb5
        replace rk := rk.keep hb5
        replace rn := rn.keep hb5
        replace rS := rS.keep hb5
        replace BW := Below.step BW hb5
        replace B1 := B1.stay hb5
        replace S1 := S1.stay hb5
        clear hb5 r0
        go_wp2_with fail
        refine (implNF_c p6 q6 base seq _ rb).mono ?_
        rintro e w6 ⟨u6, rfl, k6, hb6⟩
        obtain ⟨p7, q7, rfl, -⟩ := k6.rd
        obtain ⟨fc, hfc⟩ : ∃ c, Hid (c = nfC base seq) := ⟨_, rfl⟩
        obtain ⟨fl, hfl⟩ : ∃ c, Hid (c = nfL base seq) := ⟨_, rfl⟩
        rw [← hfc.out, ← hfl.out]
        have F1 := Arr.new w6 [.int .i64 fc, .slice p7 fl.length q7] 27
        have hb6' := Below.mk hb6 (.cells #[.int .i64 fc, .slice p7 fl.length q7] 27)
        replace rs := rs.keep hb6'
        replace rr := rr.keep hb6'
        replace rk := rk.keep hb6'
        replace rn := rn.keep hb6'
        replace rS := rS.keep hb6'
        replace rb := rb.keep hb6'
        replace BW := Below.step BW hb6'
        replace B1 := B1.stay hb6'
        replace S1 := S1.stay hb6'
        clear hb6 hb6' k6
        go_wp2_with fail
        refine (implNF_c p6 q6 base 0 _ rb).mono ?_
        rintro e w7 ⟨u7, rfl, k7, hb7⟩
        obtain ⟨p8, q8, rfl, rz⟩ := k7.rd
        replace rs := rs.keep hb7
        replace rr := rr.keep hb7
        replace rk := rk.keep hb7
        replace rn := rn.keep hb7
        replace rS := rS.keep hb7
        replace rb := rb.keep hb7
        replace BW := Below.step BW hb7
        replace B1 := B1.stay hb7
        replace S1 := S1.stay hb7
        replace F1 := F1.stay hb7
        clear hb7 k7
        have Z1 := Arr.new w7 [.int .i64 (nfC base 0), .slice p8 (nfL base 0).length q8] 27
        have hbZ := alloc_below w7 (.cells #[.int .i64 (nfC base 0), .slice p8 (nfL base 0).length q8] 27)
        replace rs := rs.keep hbZ
        replace rr := rr.keep hbZ
        replace rk := rk.keep hbZ
        replace rn := rn.keep hbZ
        replace rS := rS.keep hbZ
        replace rb := rb.keep hbZ
        replace rz := rz.keep hbZ
        replace BW := Below.step BW hbZ
        replace B1 := B1.stay hbZ
        replace S1 := S1.stay hbZ
        replace F1 := F1.stay hbZ
        clear hbZ
        have HSS : Hid (∀ w, Rd w p3 q3 key → Rd w p4 q4 nonce → Calls Try.prog 24 #[.slice p3 key.length q3, .slice p4 nonce.length q4, .int .i64 cnt] w fun e w' => ∃ u, e = .returned (.agg #[.int .i64 sc, u]) ∧ OwnI w' w.heap.size u sl ∧ Below w.heap.size w w') := fun w h h' => by rw [hsc.out, hsl.out]; exact specSS_c p3 p4 q3 q4 key nonce cnt w h h'
        have HNF : Hid (∀ w, Rd w p6 q6 base → Calls Try.prog 25 #[.slice p6 base.length q6, .int .i64 seq] w fun e w' => ∃ u, e = .returned (.agg #[.int .i64 fc, u]) ∧ Own w' w.heap.size u fl ∧ Below w.heap.size w w') := fun w h => by rw [hfc.out, hfl.out]; exact specNF_c p6 q6 base seq w h
        obtain ⟨b2', o2', e2, h2⟩ := rr.2.2.2 (by rw [HQL.out]; decide)
        simp at e2
        obtain ⟨rfl, rfl⟩ := e2
        have xR := h2 na (by rw [HQL.out]; exact ba)
        rw [HQA.out na ba] at xR
        go_wp2_with fail
        simp only [List.append_eq, List.cons_append, List.nil_append]
        generalize w7.alloc (Obj.cells #[Value.int IntKind.i64 (nfC base 0), Value.slice p8 (nfL base 0).length q8] 27) = W7 at *
        have c1 := B1.cell 1
        have c2 := S1.cell 0
        have c3 := S1.cell 1
        have c4 := F1.cell 0
        have c5 := F1.cell 1
        have c6 := Z1.cell 1
        simp at c1 c2 c3 c4 c5 c6
        have g1 := HW.at c1
        have g2 := HW.at c2
        have g3 := HW.at c3
        have g4 := HW.at c4
        have g5 := HW.at c5
        have g6 := HW.at c6
        have gR := HW.at xR
        have hne := HW.some W7
        have hnaI : (na : Int) < 16 := by omega
        clear c1 c2 c3 c4 c5 c6 B1 S1 F1 Z1 h2 rr xR HOT H1 H2 HAT HA1
        by_cases hs0 : strC key nonce cnt = 0
        · obtain ⟨-, -, hci⟩ := strC_zero hs0
          obtain ⟨cn, rfl, hcn⟩ := nat32 hci
          have hslE : sl = (startS key nonce cn).map Int.ofNat := by rw [hsl.out]; simp [ssL, hs0]
          have hsl16 : sl.length = 16 := by rw [hslE, List.length_map, startS_len]
          have HS16 : Hid (sl.length = 16) := hsl16
          obtain ⟨b5, o5, e5, h5⟩ := rS.2.2.2 (by rw [hsl16]; decide)
          subst e5
          have xL := h5 12 (by rw [hsl16]; decide)
          have h12 : atI sl 12 = (cn : Int) := by
            rw [hslE]
            have := startS_12 key nonce cn
            unfold atI
            rw [List.getD_eq_getElem?_getD] at this ⊢
            rw [List.getElem?_map]
            have hl : 12 < (startS key nonce cn).length := by rw [startS_len]; decide
            simp [hl] at this ⊢
            omega
          rw [h12] at xL
          have gL := HW.at xL
          have g2' : ∀ s : HW W7, s.w.cell? ⟨w4.heap.size, 0, none⟩ = some (.int .i64 0) := fun s => by rw [g2 s, hsc.out, hs0]
          have g3' : ∀ s : HW W7, s.w.cell? ⟨w4.heap.size, 1, none⟩ = some (.slice (some ⟨b5, o5, none⟩) 16 q5) := fun s => by rw [g3 s, HS16.out]
          have HSS' : Hid (∀ w, Rd w p3 q3 key → Rd w p4 q4 nonce → Calls Try.prog 24 #[.slice p3 key.length q3, .slice p4 nonce.length q4, .int .i64 (cn : Int)] w fun e w' => ∃ u, e = .returned (.agg #[.int .i64 0, u]) ∧ OwnI w' w.heap.size u sl ∧ Below w.heap.size w w') := fun w h h' => by have g := HSS.out w h h'; rw [hsc.out, hs0] at g; exact g
          rw [hsl16]
          clear g2 g3 HSS hsl16 hslE h12 xL h5 hs0 hci hsc hsl rS
          have g2 := g2'
          have g3 := g3'
          have HSS := HSS'
          clear g2' g3' HSS'
          by_cases hf0 : nfC base seq = 0
          · have hb12 : Hid (base.length = 12) := nfC_base hf0
            have hz0 : nfL base 0 = base := nfL_zero hb12.out
            rw [hz0] at rz
            have g6' : ∀ s : HW W7, s.w.cell? ⟨w7.heap.size, 1, none⟩ = some (.slice p8 12 q8) := fun s => by rw [g6 s, hz0, hb12.out]
            have g5' : ∀ s : HW W7, s.w.cell? ⟨w6.heap.size, 1, none⟩ = some (.slice p7 12 q7) := fun s => by rw [g5 s, hfl.out, nfL_len12 hf0]
            have g4' : ∀ s : HW W7, s.w.cell? ⟨w6.heap.size, 0, none⟩ = some (.int .i64 0) := fun s => by rw [g4 s, hfc.out, hf0]
            have HNF' : Hid (∀ w, Rd w p6 q6 base → Calls Try.prog 25 #[.slice p6 12 q6, .int .i64 seq] w fun e w' => ∃ u, e = .returned (.agg #[.int .i64 0, u]) ∧ Own w' w.heap.size u fl ∧ Below w.heap.size w w') := fun w h => by have g := HNF.out w h; rw [hb12.out, hfc.out, hf0] at g; exact g
            rw [hb12.out, hz0, hb12.out]
            clear g4 g5 g6 HNF hf0 hz0 hfc hfl hbl
            have g4 := g4'
            have g5 := g5'
            have g6 := g6'
            have HNF := HNF'
            clear g4' g5' g6' HNF'
            refine wp_region_odd_seg 15 63 rfl (by kernel_rfl) (by kernel_rfl) (by kernel_rfl) (by kernel_rfl) ?_
            simp only [List.take_succ_cons, List.take_zero]
            repeat (go_big_quiet_step (fail))
            refine wpQuiet_nil ?_
            rw [upX_nil]
            refine wpG_early (x := 17) rfl (by kernel_rfl) (by kernel_rfl) (by kernel_rfl) rfl ?_
            go_simp
            repeat (go_big_quiet_step (fail))
            refine wpQuiet_nil ?_
            refine wpG_callX (k := 15) rfl (by kernel_rfl) (by kernel_rfl) (by go_simp) 19 _ #[.slice (some ⟨b1, o1, none⟩) l.length q1, .int .i64 na, .int .i64 nb, .int .i64 nc, .int .i64 nd] (fun w => by go_simp) rfl ?_
            rintro _ ⟨sg0, rfl⟩
            refine (HS.out _ (rs.keep sg0.h)).mono ?_
            rintro e wg0 ⟨ug, rfl, kg, hbx⟩
            obtain ⟨p9, q9, rfl, r9⟩ := kg.rd
            rw [HQL.out]
            obtain ⟨b9, o9, e9, h9⟩ := r9.2.2.2 (by rw [HQL.out]; decide)
            subst e9
            have z9 := h9 na (by rw [HQL.out]; exact ba)
            rw [HQA.out na ba] at z9
            have g9 := HW.at z9
            clear z9 h9
            have hbg := Below.step sg0.h hbx
            refine ⟨_, rfl, ⟨⟨wg0, hbx⟩, rfl⟩, ?_⟩
            replace g2 := HW.down g2 hbg
            replace g3 := HW.down g3 hbg
            replace g4 := HW.down g4 hbg
            replace g5 := HW.down g5 hbg
            replace g6 := HW.down g6 hbg
            replace gR := HW.down gR hbg
            replace gL := HW.down gL hbg
            replace rk := rk.keep hbg
            replace rn := rn.keep hbg
            replace rb := rb.keep hbg
            replace rz := rz.keep hbg
            replace BW := Below.step BW hbg
            replace hne := HW.some wg0
            clear hbg kg r9 hbx rs g1
            refine wpG_oneX (k := 16) rfl (by kernel_rfl) (by kernel_rfl) (by kernel_rfl) rfl ?_
            go_simp
            repeat (go_big_quiet_step (fail))
            refine wpQuiet_nil ?_
            rw [upX_join]
            refine wpG_next 18 10 50 (by decide) (by kernel_rfl) (by kernel_rfl) (by kernel_rfl) ?_
            simp only [List.drop_succ_cons, List.drop_zero, List.take_succ_cons, List.take_zero]
            go_simp
            repeat (go_big_quiet_step (fail))
            refine wpQuiet_nil ?_
            refine wpG_call (k := 28) rfl (by kernel_rfl) (by kernel_rfl) (by go_simp) 24 _ #[.slice p3 key.length q3, .slice p4 nonce.length q4, .int .i64 (cn : Int)] (fun w => by go_simp) rfl ?_
            rintro _ ⟨sg1, rfl⟩
            refine (HSS.out _ (rk.keep sg1.h) (rn.keep sg1.h)).mono ?_
            rintro e wg1 ⟨ug, rfl, kg, hbx⟩
            obtain ⟨p10, q10, rfl, r10⟩ := kg.rd
            have hbg := Below.step sg1.h hbx
            refine ⟨_, rfl, ⟨⟨wg1, hbx⟩, rfl⟩, ?_⟩
            replace g2 := HW.down g2 hbg
            replace g3 := HW.down g3 hbg
            replace g4 := HW.down g4 hbg
            replace g5 := HW.down g5 hbg
            replace g6 := HW.down g6 hbg
            replace gL := HW.down gL hbg
            replace rb := rb.keep hbg
            replace rz := rz.keep hbg
            replace BW := Below.step BW hbg
            replace hne := HW.some wg1
            clear hbg kg r10 hbx rk rn gR
            refine wpG_next 29 27 22 (by decide) (by kernel_rfl) (by kernel_rfl) (by kernel_rfl) ?_
            simp only [List.drop_succ_cons, List.drop_zero, List.take_succ_cons, List.take_zero]
            go_simp
            repeat (go_big_quiet_step (fail))
            refine wpQuiet_nil ?_
            refine wpG_call (k := 56) rfl (by kernel_rfl) (by kernel_rfl) (by go_simp) 25 _ #[.slice p6 12 q6, .int .i64 seq] (fun w => by go_simp) rfl ?_
            rintro _ ⟨sg2, rfl⟩
            refine (HNF.out _ (rb.keep sg2.h)).mono ?_
            rintro e wg2 ⟨ug, rfl, kg, hbx⟩
            obtain ⟨p11, q11, rfl, r11⟩ := kg.rd
            have hbg := Below.step sg2.h hbx
            refine ⟨_, rfl, ⟨⟨wg2, hbx⟩, rfl⟩, ?_⟩
            replace g4 := HW.down g4 hbg
            replace g5 := HW.down g5 hbg
            replace g6 := HW.down g6 hbg
            replace gL := HW.down gL hbg
            replace rb := rb.keep hbg
            replace rz := rz.keep hbg
            replace BW := Below.step BW hbg
            replace hne := HW.some wg2
            clear hbg kg r11 hbx g2 g3
            refine wpG_next 57 11 10 (by decide) (by kernel_rfl) (by kernel_rfl) (by kernel_rfl) ?_
            simp only [List.drop_succ_cons, List.drop_zero, List.take_succ_cons, List.take_zero]
            go_simp
            repeat (go_big_quiet_step (fail))
            refine wpQuiet_nil ?_
            refine wpG_call (k := 68) rfl (by kernel_rfl) (by kernel_rfl) (by go_simp) 15 _ #[.slice p8 12 q8, .slice p6 12 q6] (fun w => by go_simp) rfl ?_
            rintro _ ⟨sg3, rfl⟩
            refine (lwSame_yes p8 p6 q8 q6 12 12 base _ hb12.out hb12.out (rz.keep sg3.h) (rb.keep sg3.h)).mono ?_
            rintro e wg3 ⟨rfl, hwg⟩
            subst hwg
            refine ⟨_, rfl, ⟨⟨sg3.w, Below.refl _ _⟩, rfl⟩, ?_⟩
            have hbg : Below _ _ sg3.w := sg3.h
            replace g5 := HW.down g5 hbg
            replace gL := HW.down gL hbg
            replace BW := Below.step BW hbg
            replace hne := HW.some sg3.w
            clear hbg g6 rb rz g4
            generalize sg3.w = wg3 at *
            clear sg3
            refine wpG_next 69 9 0 (by decide) (by kernel_rfl) (by kernel_rfl) (by kernel_rfl) ?_
            simp only [List.drop_succ_cons, List.drop_zero, List.take_succ_cons, List.take_zero]
            go_simp
            repeat (go_big_quiet_step (fail))
            refine wpQuiet_nil ?_
            refine wpG_end rfl ?_
            rintro _ ⟨sgz, rfl⟩
            go_wp2
            go_ret
            exact ⟨rfl, Below.step BW sgz.h⟩
          · have hfb : (fc != 0) = true := by rw [bne_iff_ne, hfc.out]; exact hf0
            clear hf0 hfc hfl hbl rz
            refine wp_region_odd_seg 15 63 rfl (by kernel_rfl) (by kernel_rfl) (by kernel_rfl) (by kernel_rfl) ?_
            simp only [List.take_succ_cons, List.take_zero]
            repeat (go_big_quiet_step (fail))
            refine wpQuiet_nil ?_
            rw [upX_nil]
            refine wpG_early (x := 17) rfl (by kernel_rfl) (by kernel_rfl) (by kernel_rfl) rfl ?_
            go_simp
            repeat (go_big_quiet_step (fail))
            refine wpQuiet_nil ?_
            refine wpG_callX (k := 15) rfl (by kernel_rfl) (by kernel_rfl) (by go_simp) 19 _ #[.slice (some ⟨b1, o1, none⟩) l.length q1, .int .i64 na, .int .i64 nb, .int .i64 nc, .int .i64 nd] (fun w => by go_simp) rfl ?_
            rintro _ ⟨sg0, rfl⟩
            refine (HS.out _ (rs.keep sg0.h)).mono ?_
            rintro e wg0 ⟨ug, rfl, kg, hbx⟩
            obtain ⟨p9, q9, rfl, r9⟩ := kg.rd
            rw [HQL.out]
            obtain ⟨b9, o9, e9, h9⟩ := r9.2.2.2 (by rw [HQL.out]; decide)
            subst e9
            have z9 := h9 na (by rw [HQL.out]; exact ba)
            rw [HQA.out na ba] at z9
            have g9 := HW.at z9
            clear z9 h9
            have hbg := Below.step sg0.h hbx
            refine ⟨_, rfl, ⟨⟨wg0, hbx⟩, rfl⟩, ?_⟩
            replace g2 := HW.down g2 hbg
            replace g3 := HW.down g3 hbg
            replace g4 := HW.down g4 hbg
            replace g5 := HW.down g5 hbg
            replace g6 := HW.down g6 hbg
            replace gR := HW.down gR hbg
            replace gL := HW.down gL hbg
            replace rk := rk.keep hbg
            replace rn := rn.keep hbg
            replace rb := rb.keep hbg
            replace BW := Below.step BW hbg
            replace hne := HW.some wg0
            clear hbg kg r9 hbx rs g1
            refine wpG_oneX (k := 16) rfl (by kernel_rfl) (by kernel_rfl) (by kernel_rfl) rfl ?_
            go_simp
            repeat (go_big_quiet_step (fail))
            refine wpQuiet_nil ?_
            rw [upX_join]
            refine wpG_next 18 10 50 (by decide) (by kernel_rfl) (by kernel_rfl) (by kernel_rfl) ?_
            simp only [List.drop_succ_cons, List.drop_zero, List.take_succ_cons, List.take_zero]
            go_simp
            repeat (go_big_quiet_step (fail))
            refine wpQuiet_nil ?_
            refine wpG_call (k := 28) rfl (by kernel_rfl) (by kernel_rfl) (by go_simp) 24 _ #[.slice p3 key.length q3, .slice p4 nonce.length q4, .int .i64 (cn : Int)] (fun w => by go_simp) rfl ?_
            rintro _ ⟨sg1, rfl⟩
            refine (HSS.out _ (rk.keep sg1.h) (rn.keep sg1.h)).mono ?_
            rintro e wg1 ⟨ug, rfl, kg, hbx⟩
            obtain ⟨p10, q10, rfl, r10⟩ := kg.rd
            have hbg := Below.step sg1.h hbx
            refine ⟨_, rfl, ⟨⟨wg1, hbx⟩, rfl⟩, ?_⟩
            replace g2 := HW.down g2 hbg
            replace g3 := HW.down g3 hbg
            replace g4 := HW.down g4 hbg
            replace g5 := HW.down g5 hbg
            replace g6 := HW.down g6 hbg
            replace gL := HW.down gL hbg
            replace rb := rb.keep hbg
            replace BW := Below.step BW hbg
            replace hne := HW.some wg1
            clear hbg kg r10 hbx rk rn gR
            refine wpG_next 29 27 22 (by decide) (by kernel_rfl) (by kernel_rfl) (by kernel_rfl) ?_
            simp only [List.drop_succ_cons, List.drop_zero, List.take_succ_cons, List.take_zero]
            go_simp
            repeat (go_big_quiet_step (fail))
            refine wpQuiet_nil ?_
            refine wpG_call (k := 56) rfl (by kernel_rfl) (by kernel_rfl) (by go_simp) 25 _ #[.slice p6 base.length q6, .int .i64 seq] (fun w => by go_simp) rfl ?_
            rintro _ ⟨sg2, rfl⟩
            refine (HNF.out _ (rb.keep sg2.h)).mono ?_
            rintro e wg2 ⟨ug, rfl, kg, hbx⟩
            obtain ⟨p11, q11, rfl, r11⟩ := kg.rd
            have hbg := Below.step sg2.h hbx
            refine ⟨_, rfl, ⟨⟨wg2, hbx⟩, rfl⟩, ?_⟩
            replace g4 := HW.down g4 hbg
            replace g5 := HW.down g5 hbg
            replace gL := HW.down gL hbg
            replace BW := Below.step BW hbg
            replace hne := HW.some wg2
            clear hbg kg r11 hbx g2 g3 rb g6
            refine wpG_next 57 11 10 (by decide) (by kernel_rfl) (by kernel_rfl) (by kernel_rfl) ?_
            simp only [List.drop_succ_cons, List.drop_zero, List.take_succ_cons, List.take_zero]
            go_simp
            repeat (go_big_quiet_step (fail))
            refine wpQuiet_nil ?_
            refine wpG_skip (k := 68) rfl (by kernel_rfl) (by kernel_rfl) (by go_simp) ?_
            refine wpG_next 69 9 0 (by decide) (by kernel_rfl) (by kernel_rfl) (by kernel_rfl) ?_
            simp only [List.drop_succ_cons, List.drop_zero, List.take_succ_cons, List.take_zero]
            go_simp
            repeat (go_big_quiet_step (fail))
            refine wpQuiet_nil ?_
            refine wpG_end rfl ?_
            rintro _ ⟨sgz, rfl⟩
            go_wp2
            go_ret
            exact ⟨rfl, Below.step BW sgz.h⟩
        · have hsb : (sc != 0) = true := by rw [bne_iff_ne, hsc.out]; exact hs0
          clear hs0 hsc hsl rS
          by_cases hf0 : nfC base seq = 0
          · have hb12 : Hid (base.length = 12) := nfC_base hf0
            have hz0 : nfL base 0 = base := nfL_zero hb12.out
            rw [hz0] at rz
            have g6' : ∀ s : HW W7, s.w.cell? ⟨w7.heap.size, 1, none⟩ = some (.slice p8 12 q8) := fun s => by rw [g6 s, hz0, hb12.out]
            have g5' : ∀ s : HW W7, s.w.cell? ⟨w6.heap.size, 1, none⟩ = some (.slice p7 12 q7) := fun s => by rw [g5 s, hfl.out, nfL_len12 hf0]
            have g4' : ∀ s : HW W7, s.w.cell? ⟨w6.heap.size, 0, none⟩ = some (.int .i64 0) := fun s => by rw [g4 s, hfc.out, hf0]
            have HNF' : Hid (∀ w, Rd w p6 q6 base → Calls Try.prog 25 #[.slice p6 12 q6, .int .i64 seq] w fun e w' => ∃ u, e = .returned (.agg #[.int .i64 0, u]) ∧ Own w' w.heap.size u fl ∧ Below w.heap.size w w') := fun w h => by have g := HNF.out w h; rw [hb12.out, hfc.out, hf0] at g; exact g
            rw [hb12.out, hz0, hb12.out]
            clear g4 g5 g6 HNF hf0 hz0 hfc hfl hbl
            have g4 := g4'
            have g5 := g5'
            have g6 := g6'
            have HNF := HNF'
            clear g4' g5' g6' HNF'
            refine wp_region_odd_seg 15 63 rfl (by kernel_rfl) (by kernel_rfl) (by kernel_rfl) (by kernel_rfl) ?_
            simp only [List.take_succ_cons, List.take_zero]
            repeat (go_big_quiet_step (fail))
            refine wpQuiet_nil ?_
            rw [upX_nil]
            refine wpG_early (x := 17) rfl (by kernel_rfl) (by kernel_rfl) (by kernel_rfl) rfl ?_
            go_simp
            repeat (go_big_quiet_step (fail))
            refine wpQuiet_nil ?_
            refine wpG_callX (k := 15) rfl (by kernel_rfl) (by kernel_rfl) (by go_simp) 19 _ #[.slice (some ⟨b1, o1, none⟩) l.length q1, .int .i64 na, .int .i64 nb, .int .i64 nc, .int .i64 nd] (fun w => by go_simp) rfl ?_
            rintro _ ⟨sg0, rfl⟩
            refine (HS.out _ (rs.keep sg0.h)).mono ?_
            rintro e wg0 ⟨ug, rfl, kg, hbx⟩
            obtain ⟨p9, q9, rfl, r9⟩ := kg.rd
            rw [HQL.out]
            obtain ⟨b9, o9, e9, h9⟩ := r9.2.2.2 (by rw [HQL.out]; decide)
            subst e9
            have z9 := h9 na (by rw [HQL.out]; exact ba)
            rw [HQA.out na ba] at z9
            have g9 := HW.at z9
            clear z9 h9
            have hbg := Below.step sg0.h hbx
            refine ⟨_, rfl, ⟨⟨wg0, hbx⟩, rfl⟩, ?_⟩
            replace g2 := HW.down g2 hbg
            replace g3 := HW.down g3 hbg
            replace g4 := HW.down g4 hbg
            replace g5 := HW.down g5 hbg
            replace g6 := HW.down g6 hbg
            replace gR := HW.down gR hbg
            replace rk := rk.keep hbg
            replace rn := rn.keep hbg
            replace rb := rb.keep hbg
            replace rz := rz.keep hbg
            replace BW := Below.step BW hbg
            replace hne := HW.some wg0
            clear hbg kg r9 hbx rs g1
            refine wpG_oneX (k := 16) rfl (by kernel_rfl) (by kernel_rfl) (by kernel_rfl) rfl ?_
            go_simp
            repeat (go_big_quiet_step (fail))
            refine wpQuiet_nil ?_
            rw [upX_join]
            refine wpG_next 18 10 50 (by decide) (by kernel_rfl) (by kernel_rfl) (by kernel_rfl) ?_
            simp only [List.drop_succ_cons, List.drop_zero, List.take_succ_cons, List.take_zero]
            go_simp
            repeat (go_big_quiet_step (fail))
            refine wpQuiet_nil ?_
            refine wpG_call (k := 28) rfl (by kernel_rfl) (by kernel_rfl) (by go_simp) 24 _ #[.slice p3 key.length q3, .slice p4 nonce.length q4, .int .i64 cnt] (fun w => by go_simp) rfl ?_
            rintro _ ⟨sg1, rfl⟩
            refine (HSS.out _ (rk.keep sg1.h) (rn.keep sg1.h)).mono ?_
            rintro e wg1 ⟨ug, rfl, kg, hbx⟩
            obtain ⟨p10, q10, rfl, r10⟩ := kg.rd
            have hbg := Below.step sg1.h hbx
            refine ⟨_, rfl, ⟨⟨wg1, hbx⟩, rfl⟩, ?_⟩
            replace g2 := HW.down g2 hbg
            replace g3 := HW.down g3 hbg
            replace g4 := HW.down g4 hbg
            replace g5 := HW.down g5 hbg
            replace g6 := HW.down g6 hbg
            replace rb := rb.keep hbg
            replace rz := rz.keep hbg
            replace BW := Below.step BW hbg
            replace hne := HW.some wg1
            clear hbg kg r10 hbx rk rn gR
            refine wpG_next 29 27 22 (by decide) (by kernel_rfl) (by kernel_rfl) (by kernel_rfl) ?_
            simp only [List.drop_succ_cons, List.drop_zero, List.take_succ_cons, List.take_zero]
            go_simp
            repeat (go_big_quiet_step (fail))
            refine wpQuiet_nil ?_
            refine wpG_call (k := 56) rfl (by kernel_rfl) (by kernel_rfl) (by go_simp) 25 _ #[.slice p6 12 q6, .int .i64 seq] (fun w => by go_simp) rfl ?_
            rintro _ ⟨sg2, rfl⟩
            refine (HNF.out _ (rb.keep sg2.h)).mono ?_
            rintro e wg2 ⟨ug, rfl, kg, hbx⟩
            obtain ⟨p11, q11, rfl, r11⟩ := kg.rd
            have hbg := Below.step sg2.h hbx
            refine ⟨_, rfl, ⟨⟨wg2, hbx⟩, rfl⟩, ?_⟩
            replace g4 := HW.down g4 hbg
            replace g5 := HW.down g5 hbg
            replace g6 := HW.down g6 hbg
            replace rb := rb.keep hbg
            replace rz := rz.keep hbg
            replace BW := Below.step BW hbg
            replace hne := HW.some wg2
            clear hbg kg r11 hbx g2 g3
            refine wpG_next 57 11 10 (by decide) (by kernel_rfl) (by kernel_rfl) (by kernel_rfl) ?_
            simp only [List.drop_succ_cons, List.drop_zero, List.take_succ_cons, List.take_zero]
            go_simp
            repeat (go_big_quiet_step (fail))
            refine wpQuiet_nil ?_
            refine wpG_call (k := 68) rfl (by kernel_rfl) (by kernel_rfl) (by go_simp) 15 _ #[.slice p8 12 q8, .slice p6 12 q6] (fun w => by go_simp) rfl ?_
            rintro _ ⟨sg3, rfl⟩
            refine (lwSame_yes p8 p6 q8 q6 12 12 base _ hb12.out hb12.out (rz.keep sg3.h) (rb.keep sg3.h)).mono ?_
            rintro e wg3 ⟨rfl, hwg⟩
            subst hwg
            refine ⟨_, rfl, ⟨⟨sg3.w, Below.refl _ _⟩, rfl⟩, ?_⟩
            have hbg : Below _ _ sg3.w := sg3.h
            replace g5 := HW.down g5 hbg
            replace BW := Below.step BW hbg
            replace hne := HW.some sg3.w
            clear hbg g6 rb rz g4
            generalize sg3.w = wg3 at *
            clear sg3
            refine wpG_next 69 9 0 (by decide) (by kernel_rfl) (by kernel_rfl) (by kernel_rfl) ?_
            simp only [List.drop_succ_cons, List.drop_zero, List.take_succ_cons, List.take_zero]
            go_simp
            repeat (go_big_quiet_step (fail))
            refine wpQuiet_nil ?_
            refine wpG_end rfl ?_
            rintro _ ⟨sgz, rfl⟩
            go_wp2
            go_ret
            exact ⟨rfl, Below.step BW sgz.h⟩
          · have hfb : (fc != 0) = true := by rw [bne_iff_ne, hfc.out]; exact hf0
            clear hf0 hfc hfl hbl rz
            refine wp_region_odd_seg 15 63 rfl (by kernel_rfl) (by kernel_rfl) (by kernel_rfl) (by kernel_rfl) ?_
            simp only [List.take_succ_cons, List.take_zero]
            repeat (go_big_quiet_step (fail))
            refine wpQuiet_nil ?_
            rw [upX_nil]
            refine wpG_early (x := 17) rfl (by kernel_rfl) (by kernel_rfl) (by kernel_rfl) rfl ?_
            go_simp
            repeat (go_big_quiet_step (fail))
            refine wpQuiet_nil ?_
            refine wpG_callX (k := 15) rfl (by kernel_rfl) (by kernel_rfl) (by go_simp) 19 _ #[.slice (some ⟨b1, o1, none⟩) l.length q1, .int .i64 na, .int .i64 nb, .int .i64 nc, .int .i64 nd] (fun w => by go_simp) rfl ?_
            rintro _ ⟨sg0, rfl⟩
            refine (HS.out _ (rs.keep sg0.h)).mono ?_
            rintro e wg0 ⟨ug, rfl, kg, hbx⟩
            obtain ⟨p9, q9, rfl, r9⟩ := kg.rd
            rw [HQL.out]
            obtain ⟨b9, o9, e9, h9⟩ := r9.2.2.2 (by rw [HQL.out]; decide)
            subst e9
            have z9 := h9 na (by rw [HQL.out]; exact ba)
            rw [HQA.out na ba] at z9
            have g9 := HW.at z9
            clear z9 h9
            have hbg := Below.step sg0.h hbx
            refine ⟨_, rfl, ⟨⟨wg0, hbx⟩, rfl⟩, ?_⟩
            replace g2 := HW.down g2 hbg
            replace g3 := HW.down g3 hbg
            replace g4 := HW.down g4 hbg
            replace g5 := HW.down g5 hbg
            replace g6 := HW.down g6 hbg
            replace gR := HW.down gR hbg
            replace rk := rk.keep hbg
            replace rn := rn.keep hbg
            replace rb := rb.keep hbg
            replace BW := Below.step BW hbg
            replace hne := HW.some wg0
            clear hbg kg r9 hbx rs g1
            refine wpG_oneX (k := 16) rfl (by kernel_rfl) (by kernel_rfl) (by kernel_rfl) rfl ?_
            go_simp
            repeat (go_big_quiet_step (fail))
            refine wpQuiet_nil ?_
            rw [upX_join]
            refine wpG_next 18 10 50 (by decide) (by kernel_rfl) (by kernel_rfl) (by kernel_rfl) ?_
            simp only [List.drop_succ_cons, List.drop_zero, List.take_succ_cons, List.take_zero]
            go_simp
            repeat (go_big_quiet_step (fail))
            refine wpQuiet_nil ?_
            refine wpG_call (k := 28) rfl (by kernel_rfl) (by kernel_rfl) (by go_simp) 24 _ #[.slice p3 key.length q3, .slice p4 nonce.length q4, .int .i64 cnt] (fun w => by go_simp) rfl ?_
            rintro _ ⟨sg1, rfl⟩
            refine (HSS.out _ (rk.keep sg1.h) (rn.keep sg1.h)).mono ?_
            rintro e wg1 ⟨ug, rfl, kg, hbx⟩
            obtain ⟨p10, q10, rfl, r10⟩ := kg.rd
            have hbg := Below.step sg1.h hbx
            refine ⟨_, rfl, ⟨⟨wg1, hbx⟩, rfl⟩, ?_⟩
            replace g2 := HW.down g2 hbg
            replace g3 := HW.down g3 hbg
            replace g4 := HW.down g4 hbg
            replace g5 := HW.down g5 hbg
            replace g6 := HW.down g6 hbg
            replace rb := rb.keep hbg
            replace BW := Below.step BW hbg
            replace hne := HW.some wg1
            clear hbg kg r10 hbx rk rn gR
            refine wpG_next 29 27 22 (by decide) (by kernel_rfl) (by kernel_rfl) (by kernel_rfl) ?_
            simp only [List.drop_succ_cons, List.drop_zero, List.take_succ_cons, List.take_zero]
            go_simp
            repeat (go_big_quiet_step (fail))
            refine wpQuiet_nil ?_
            refine wpG_call (k := 56) rfl (by kernel_rfl) (by kernel_rfl) (by go_simp) 25 _ #[.slice p6 base.length q6, .int .i64 seq] (fun w => by go_simp) rfl ?_
            rintro _ ⟨sg2, rfl⟩
            refine (HNF.out _ (rb.keep sg2.h)).mono ?_
            rintro e wg2 ⟨ug, rfl, kg, hbx⟩
            obtain ⟨p11, q11, rfl, r11⟩ := kg.rd
            have hbg := Below.step sg2.h hbx
            refine ⟨_, rfl, ⟨⟨wg2, hbx⟩, rfl⟩, ?_⟩
            replace g4 := HW.down g4 hbg
            replace g5 := HW.down g5 hbg
            replace BW := Below.step BW hbg
            replace hne := HW.some wg2
            clear hbg kg r11 hbx g2 g3 rb g6
            refine wpG_next 57 11 10 (by decide) (by kernel_rfl) (by kernel_rfl) (by kernel_rfl) ?_
            simp only [List.drop_succ_cons, List.drop_zero, List.take_succ_cons, List.take_zero]
            go_simp
            repeat (go_big_quiet_step (fail))
            refine wpQuiet_nil ?_
            refine wpG_skip (k := 68) rfl (by kernel_rfl) (by kernel_rfl) (by go_simp) ?_
            refine wpG_next 69 9 0 (by decide) (by kernel_rfl) (by kernel_rfl) (by kernel_rfl) ?_
            simp only [List.drop_succ_cons, List.drop_zero, List.take_succ_cons, List.take_zero]
            go_simp
            repeat (go_big_quiet_step (fail))
            refine wpQuiet_nil ?_
            refine wpG_end rfl ?_
            rintro _ ⟨sgz, rfl⟩
            go_wp2
            go_ret
            exact ⟨rfl, Below.step BW sgz.h⟩
    --@loopend
  · have hc1 : Hid (qrC l xa xb xc xd ≠ 0) := hok
    have HB : Hid (∀ w', RdI w' p1 q1 l → Calls Try.prog 19 #[.slice p1 l.length q1, .int .i64 xa, .int .i64 xb, .int .i64 xc, .int .i64 xd] w' fun e w'' => e = .returned (.agg #[.int .i64 (qrC l xa xb xc xd), .slice none 0 0]) ∧ Below w'.heap.size w' w'') :=
      fun w' h => (specQR_s p1 q1 l xa xb xc xd w' h).mono fun _ _ ⟨u, h1, h2, h3, h4⟩ => ⟨by rw [h1, h4 hc1.out], h3⟩
    generalize qrC l xa xb xc xd = cc at *
    have cz1 : (cc != 0) = true := by rw [bne_iff_ne]; exact hc1.out
    generalize (qrL l xa xb xc xd).length = ln at *
    have L1 := alloc_below w2 (Obj.cells #[Value.int IntKind.i64 cc, Value.slice p2 ln q2] 36)
    clear rr hok r0 hl0
    go_wp2
    have d0 : (w2.alloc (Obj.cells #[Value.int IntKind.i64 cc, Value.slice p2 ln q2] 36)).cell? ⟨w2.heap.size, 0, none⟩ = some (.int .i64 cc) := World.cell?_alloc_new _ _ _ _
    replace BW := Below.step BW L1
    replace rs := rs.keep L1
    clear L1
    generalize w2.alloc (Obj.cells #[Value.int IntKind.i64 cc, Value.slice p2 ln q2] 36) = W at *
    have g0 := HW.at d0
    have hne := HW.some W
    refine wp_region_class (by kernel_rfl) (by kernel_rfl) ?_
    clear d0
    repeat (go_big_quiet_step ((go_at_call 19; exact Calls.stay (HB.out _ (rs.keep (HW.h _))))))
    refine wpQuiet_nil ?_
    intro w5 hw5
    have hs5 := HW.out hw5
    go_wp2
    go_ret
    exact ⟨by simp, Below.step BW hs5⟩
end Go.Proofs.Ytohcohinggjdpaa
