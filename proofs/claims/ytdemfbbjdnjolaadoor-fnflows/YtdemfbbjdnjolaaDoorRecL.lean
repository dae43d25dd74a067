/- The functions of chapter 9 in the program that move a stream on: keyAndNonce, sealNext, at every argument that they are called at (Tabs). A stream that is pointed at lies in a block of its own: that block alone is written. -/
import Derived.Test.YtdemfbbjdnjolaaDoorJoint15
import Derived.Test.YtdemfbbjdnjolaaDoorSealI
namespace Go.Proofs.YtdemfbbjdnjolaaDoor
open Go.ChangeShapes Go.WideShapes Go.ChangeAt Go.RowKit

theorem grown_set (W : World) (b o : Nat) (v : Value) : W.grownBy (W.setCell ⟨b, o, none⟩ v) (some b) :=
  ⟨rfl, rfl, rfl, by rw [World.size_setCell]; exact Nat.le_refl _, fun k _ hk => Below.heap_setCell _ _ _ k (fun e => hk (by rw [e]))⟩
theorem head_vals (n : Nat) (h : n ≤ 220) : [Value.int .u8 23, .int .u8 3, .int .u8 3, .int .u8 (((n : Int) + 16) / 256), .int .u8 ((n : Int) + 16)] = (headN n).map u8v := by
  have e : putB (n + 16) 2 = [UInt8.ofNat ((n + 16) / 256 ^ 1 % 256), UInt8.ofNat ((n + 16) / 256 ^ 0 % 256)] := rfl
  unfold headN
  rw [e]
  simp only [List.cons_append, List.nil_append, List.map_cons, List.map_nil, u8v, UInt8.toNat_ofNat', Nat.pow_one, Nat.pow_zero, Nat.div_one]
  have e1 : (((n : Int) + 16) / 256) = (((n + 16) / 256 % 256 % 2 ^ 8 : Nat) : Int) := by omega
  have e2 : ((n : Int) + 16) = (((n + 16) % 256 % 2 ^ 8 : Nat) : Int) := by omega
  rw [e1, e2]
  rfl
set_option maxRecDepth 4000 in
set_option maxHeartbeats 1000000 in
theorem keyAndNonce_c (x : StreamD) (p : Option Addr) (q b : Nat) (w : World) (A : Arr w b 25 [.slice p x.1.length q, .int .i64 x.2.1, .int .i64 x.2.2]) (hr : Rd w p q x.1) (h1 : is32 x.1 = true) (h0 : 0 ≤ x.2.1) (h2 : x.2.1 ≤ 200) (hT : Tabs w) :
    Calls Tryd.prog 58 #[.pointer (some ⟨b, 0, none⟩)] w fun e w' => ∃ u v, e = .returned (.tuple #[u, v]) ∧ Own w' w.heap.size u (keyN x.1) ∧ Own w' w.heap.size v (nonceS x) ∧ Below w.heap.size w w' := by
  have HR : Hid (Rd w p q x.1) := hr
  have HT : Hid (Tabs w) := hT
  have KK : Hid (Calls Tryd.prog 15 #[.slice p x.1.length q] w fun e w' => ∃ u v m, e = .returned (.agg #[.int .i64 0, u, v]) ∧ Own w' w.heap.size u (keyN x.1) ∧ Own w' w.heap.size v (baseN x.1) ∧ (∀ k, u.ownBlock = some k → k < m) ∧ (∀ k, v.ownBlock = some k → m ≤ k) ∧ Below w.heap.size w w') := keysOf_c x.1 p q w hr h1 hT
  have KN : Hid (∀ (w : World) (pb : Option Addr) (qb : Nat), Rd w pb qb (baseN x.1) → Calls Tryd.prog 68 #[.slice pb 12 qb, .int .i64 x.2.1] w fun e w' => ∃ u, e = .returned (.agg #[.int .i64 0, u]) ∧ Own w' w.heap.size u (nonceS x) ∧ Below w.heap.size w w') := fun w pb qb h => by
    have hh := implNF_c pb qb (baseN x.1) x.2.1 w h
    have hi : inB x.2.1 0 2147483648 = true := by simp [inB]; omega
    rw [show nfC (baseN x.1) x.2.1 = 0 by rw [nfC, if_pos (baseN_len _), if_pos hi], show nfL (baseN x.1) x.2.1 = nonceS x by rw [nfL, if_pos ⟨baseN_len _, hi⟩]; rfl, baseN_len] at hh
    exact hh
  have f1 := bytes_f1 0
  have c0 := (A.cell 0).trans (show _ = some _ from rfl)
  clear hr hT
  go_enter Tryd.func58, Tryd.ntmps58
  go_wp2_with fail
  refine KK.out.mono ?_
  rintro e w1 ⟨u, v, m, rfl, k1, k2, -, -, hb1⟩
  obtain ⟨a1, cc1, rfl, -⟩ := k1.rd
  obtain ⟨a2, cc2, rfl, -⟩ := k2.rd
  rw [keyN_len, baseN_len] at *
  replace A := A.stay hb1
  clear c0
  go_wp2_with fail
  have L := Arr.new w1 [.int .i64 0, .slice a1 32 cc1, .slice a2 12 cc2] 35
  have hbl := alloc_below w1 (.cells #[.int .i64 0, .slice a1 32 cc1, .slice a2 12 cc2] 35)
  replace A := A.stay hbl
  replace k1 := k1.stay hbl
  replace k2 := k2.stay hbl
  have BW := Below.step hb1 hbl
  clear hb1 hbl
  generalize w1.heap.size = H at *
  generalize w1.alloc (.cells #[.int .i64 0, .slice a1 32 cc1, .slice a2 12 cc2] 35) = w2 at *
  have g1 := HW.at ((L.cell 1).trans (show _ = some _ from rfl))
  have g2 := HW.at ((L.cell 2).trans (show _ = some _ from rfl))
  have g3 := HW.at ((A.cell 1).trans (show _ = some _ from rfl))
  have hne := HW.some w2
  refine wp_region_pick [0, 1, 2, 3, 4, 5, 6, 7] 11 3 1 rfl rfl rfl (by kernel_rfl) (by kernel_rfl) (by kernel_rfl) (by kernel_rfl) ?_
  simp only [opsAt, List.getElem?_toArray, List.getElem?_cons_zero, List.getElem?_cons_succ]
  repeat (go_big_quiet_step (fail))
  refine wpQuiet_nil ?_
  refine wpM_only (i := 8) (by kernel_rfl) ?_
  refine mOp_call rfl (by go_simp) 68 _ #[.slice a2 12 cc2, .int .i64 x.2.1] (fun w => by go_simp) rfl ?_
  rintro _ ⟨s1, rfl⟩
  refine (KN.out _ a2 cc2 (Rd.own (k2.stay s1.h))).mono ?_
  rintro e w3 ⟨u3, rfl, k3, hb3⟩
  obtain ⟨a3, cc3, rfl, -⟩ := k3.rd
  rw [nonceS_len] at k3 ⊢
  refine ⟨_, rfl, ⟨⟨_, hb3⟩, rfl⟩, ?_⟩
  have hz3 : Hid (w.heap.size ≤ s1.w.heap.size) := Nat.le_trans BW.size s1.h.size
  have hbg := Below.step s1.h hb3
  replace k1 := k1.stay hbg
  replace BW := Below.step BW hbg
  replace k3 := k3.lower hz3.out
  clear hbg hb3 g1 g2 g3 hne
  have hne := HW.some w3
  refine wpM_more [9, 10] 2 0 rfl (by kernel_rfl) (by kernel_rfl) (by kernel_rfl) (by kernel_rfl) ?_
  simp only [opsAt, List.getElem?_toArray, List.getElem?_cons_zero, List.getElem?_cons_succ]
  go_simp
  repeat (go_big_quiet_step (fail))
  refine wpQuiet_nil ?_
  refine wpM_end (by kernel_rfl) rfl (by kernel_rfl) (by decide) ?_
  rintro _ ⟨sz, rfl⟩
  simp only [List.drop_succ_cons, List.drop_zero]
  replace k1 := k1.stay sz.h
  replace k3 := k3.stay sz.h
  replace BW := Below.step BW sz.h
  go_wp2_with fail
  go_ret2
  exact ⟨_, _, rfl, k1, k3, BW⟩
set_option maxRecDepth 4000 in
set_option maxHeartbeats 2000000 in
theorem sealNext_c (x : StreamD) (p p2 : Option Addr) (q q2 b : Nat) (inner : List UInt8) (w : World) (A : Arr w b 25 [.slice p x.1.length q, .int .i64 x.2.1, .int .i64 x.2.2]) (hr : Rd w p q x.1) (hr2 : Rd w p2 q2 inner) (hi : inner.length ≤ 220) (h1 : is32 x.1 = true) (h0 : 0 ≤ x.2.1) (h2 : x.2.1 ≤ 200) (hT : Tabs w) :
    Calls Tryd.prog 31 #[.pointer (some ⟨b, 0, none⟩), .slice p2 inner.length q2] w fun e w' => ∃ u, e = .returned u ∧ Own w' w.heap.size u (recN x inner) ∧ Arr w' b 25 [.slice p x.1.length q, .int .i64 (x.2.1 + 1), .int .i64 x.2.2] ∧ w.grownBy w' (some b) := by
  have HAb : Hid (b < w.heap.size) := A.lt
  have HR2 : Hid (Rd w p2 q2 inner) := hr2
  have HT : Hid (Tabs w) := hT
  have hq1 : inner.length ≤ q2 := hr2.1
  have hq2 : q2 ≤ 2 ^ 63 - 1 := hr2.2.1
  have KK : Hid (Calls Tryd.prog 58 #[.pointer (some ⟨b, 0, none⟩)] w fun e w' => ∃ u v, e = .returned (.tuple #[u, v]) ∧ Own w' w.heap.size u (keyN x.1) ∧ Own w' w.heap.size v (nonceS x) ∧ Below w.heap.size w w') := keyAndNonce_c x p q b w A hr h1 h0 h2 hT
  clear hr hr2 hT
  go_enter Tryd.func31, Tryd.ntmps31
  go_wp2_with fail
  refine KK.out.mono ?_
  rintro e w1 ⟨u, v, rfl, k1, k2, hb1⟩
  obtain ⟨a1, cc1, rfl, -⟩ := k1.rd
  obtain ⟨a2, cc2, rfl, -⟩ := k2.rd
  rw [keyN_len, nonceS_len] at *
  replace A := A.stay hb1
  have HV : Hid (#[.int .u8 23, .int .u8 3, .int .u8 3, .int .u8 (((inner.length : Int) + 16) / 256), .int .u8 ((inner.length : Int) + 16)].toList = (headN inner.length).map u8v) := head_vals _ hi
  have HO : Hid (Own (w1.alloc (.cells #[.int .u8 23, .int .u8 3, .int .u8 3, .int .u8 (((inner.length : Int) + 16) / 256), .int .u8 ((inner.length : Int) + 16)] 5)) w1.heap.size (.slice (some ⟨w1.heap.size, 0, none⟩) 5 5) (headN inner.length)) := by
    have h := lit_own w1 (headN inner.length) w1.heap.size (Nat.le_refl _) (by rw [headN_len]; decide)
    rw [← HV.out, headN_len] at h
    exact h
  have hbl := alloc_below w1 (.cells #[.int .u8 23, .int .u8 3, .int .u8 3, .int .u8 (((inner.length : Int) + 16) / 256), .int .u8 ((inner.length : Int) + 16)] 5)
  have KS : Hid (∀ (w : World) (pk pn ph : Option Addr) (qk qn qh : Nat), Rd w pk qk (keyN x.1) → Rd w pn qn (nonceS x) → Rd w ph qh (headN inner.length) → Rd w p2 q2 inner → Tabs w → Calls Tryd.prog 59 #[.slice pk 32 qk, .slice pn 12 qn, .slice ph 5 qh, .slice p2 inner.length q2] w fun e w' => ∃ u, e = .returned (.agg #[.int .i64 0, u]) ∧ Own w' w.heap.size u (sealN (keyN x.1) (nonceS x) (headN inner.length) inner) ∧ Below w.heap.size w w') := fun w pk pn ph qk qn qh h1 h2 h3 h4 t => by
    have h := implSl_c pk pn ph p2 qk qn qh q2 (keyN x.1) (nonceS x) (headN inner.length) inner w h1 h2 h3 h4 t
    have hk : kn (keyN x.1) (nonceS x) = true := by simp [kn, keyN_len, nonceS_len]
    have hs : sealC (keyN x.1) (nonceS x) (headN inner.length) = 0 := by rw [sealC_kn, if_pos hk, if_pos (by rw [headN_len]; decide)]
    have ht : tgC (keyN x.1) (nonceS x) (headN inner.length) inner = 0 := by rw [tgC, if_pos hs, if_pos hi]
    rw [ht, show slL (keyN x.1) (nonceS x) (headN inner.length) inner = sealN (keyN x.1) (nonceS x) (headN inner.length) inner by rw [slL, if_pos ht], keyN_len, nonceS_len, headN_len] at h
    exact h
  have BW := Below.step hb1 hbl
  have hz1 : Hid (w.heap.size ≤ w1.heap.size) := hb1.size
  have hbb : Hid (b < w.heap.size) := HAb.out
  replace k1 := k1.stay hbl
  replace k2 := k2.stay hbl
  replace A := A.stay hbl
  clear hb1 hbl
  go_wp2_with fail
  generalize w1.alloc (.cells #[.int .u8 23, .int .u8 3, .int .u8 3, .int .u8 (((inner.length : Int) + 16) / 256), .int .u8 ((inner.length : Int) + 16)] 5) = w2 at *
  refine (KS.out _ a1 a2 _ cc1 cc2 5 (Rd.own k1) (Rd.own k2) (Rd.own HO.out) (HR2.out.keep BW) (HT.out.keep BW)).mono ?_
  rintro e w3 ⟨u3, rfl, k3, hb3⟩
  obtain ⟨a3, cc3, rfl, -⟩ := k3.rd
  have hz2 : Hid (w1.heap.size ≤ w2.heap.size) := by have h := HO.out.lt w1.heap.size rfl; exact Nat.le_of_lt h
  have Z3 : Hid (w2.heap.size ≤ w3.heap.size) := hb3.size
  replace k3 := k3.lower hz2.out
  have HO3 := HO.out.stay hb3
  replace A := A.stay hb3
  replace BW := Below.step BW hb3
  have hsl : Hid ((sealN (keyN x.1) (nonceS x) (headN inner.length) inner).length = inner.length + 16) := sealN_len _ _ _ _
  generalize HSd : sealN (keyN x.1) (nonceS x) (headN inner.length) inner = sd at *
  have HRN : Hid (headN inner.length ++ sd = recN x inner) := by show _ = _; rw [← HSd]; rfl
  clear HSd hb3
  have hl3 := alloc_below w3 (.cells #[.int .i64 0, .slice a3 sd.length cc3] 55)
  have L := Arr.new w3 [.int .i64 0, .slice a3 sd.length cc3] 55
  replace A := A.stay hl3
  replace HO3 := HO3.stay hl3
  replace k3 := k3.stay hl3
  replace BW := Below.step BW hl3
  have hz3 : Hid (w.heap.size ≤ w3.heap.size) := Nat.le_trans hz1.out (Nat.le_trans hz2.out Z3.out)
  clear hl3 KS KK HO k1 k2
  have hb4 : Hid (b < w3.heap.size) := Nat.lt_of_lt_of_le hbb.out hz3.out
  have hw13 : Hid (w1.heap.size ≤ w3.heap.size) := Nat.le_trans hz2.out Z3.out
  have hbw1 : Hid (b < w1.heap.size) := Nat.lt_of_lt_of_le hbb.out hz1.out
  have hH : Hid (w3.heap.size ≤ (w3.alloc (.cells #[.int .i64 0, .slice a3 sd.length cc3] 55)).heap.size) := by rw [size_alloc]; exact Nat.le_succ _
  generalize w1.heap.size = H1 at *
  generalize e4 : w3.alloc (.cells #[.int .i64 0, .slice a3 sd.length cc3] 55) = w4 at *
  have hn1 : ¬ b = w3.heap.size := by have := hb4.out; omega
  have hn2 : ¬ w3.heap.size = b := by have := hb4.out; omega
  have c1 := (A.cell 1).trans (show _ = some _ from rfl)
  have fz := A.frozen 1
  have d1 := (L.cell 1).trans (show _ = some _ from rfl)
  have A5 := A.set 1 (.int .i64 (x.2.1 + 1))
  have O5 := HO3.set (a := ⟨b, 1, none⟩) hbw1.out (.int .i64 (x.2.1 + 1))
  have k5 := k3.set (a := ⟨b, 1, none⟩) hbw1.out (.int .i64 (x.2.1 + 1))
  have G5 : Hid (w.grownBy (w4.setCell ⟨b, 1, none⟩ (.int .i64 (x.2.1 + 1))) (some b)) := grownBy_trans (below_grown BW _) (grown_set _ _ _ _)
  have hs5 : Hid ((w4.setCell ⟨b, 1, none⟩ (.int .i64 (x.2.1 + 1))).heap.size = w4.heap.size) := World.size_setCell _ _ _
  clear A L HO3 k3 BW
  go_wp2_with fail
  generalize w4.setCell ⟨b, 1, none⟩ (.int .i64 (x.2.1 + 1)) = w5 at *
  have P6 : Pcs (w5.alloc (.cells #[.slice (some ⟨H1, 0, none⟩) 5 5, .slice a3 sd.length cc3] 22)) w5.heap.size 0 [⟨some ⟨H1, 0, none⟩, 5, headN inner.length⟩, ⟨a3, cc3, sd⟩] := by
    have h := pcs_two w5 ⟨some ⟨H1, 0, none⟩, 5, headN inner.length⟩ ⟨a3, cc3, sd⟩ 22 (Rd.own O5) (Rd.own k5)
    simp only [Pc.val, headN_len] at h
    exact h
  rw [hs5.out] at P6
  refine (joined_c _ w4.heap.size 0 2 _ P6 (by rw [flat_two]; simp only [List.length_append, headN_len]; have := hsl.out; omega) (by simp)).mono ?_
  rintro e w6 ⟨u6, rfl, k6, hb6⟩
  rw [flat_two] at k6
  have A6 := (A5.old _ (.cells #[.slice (some ⟨H1, 0, none⟩) 5 5, .slice a3 sd.length cc3] 22)).stay hb6
  have G6 := grownBy_trans G5.out (grownBy_trans (World.grownBy_alloc w5 (.cells #[.slice (some ⟨H1, 0, none⟩) 5 5, .slice a3 sd.length cc3] 22) (some b)) (below_grown hb6 _))
  have hz7 : w.heap.size ≤ (w5.alloc (.cells #[.slice (some ⟨H1, 0, none⟩) 5 5, .slice a3 sd.length cc3] 22)).heap.size := by rw [size_alloc]; exact Nat.le_succ_of_le G5.out.size
  go_wp2_with fail
  go_ret
  exact ⟨_, rfl, by rw [← HRN.out]; exact k6.lower hz7, A6, G6⟩
end Go.Proofs.YtdemfbbjdnjolaaDoor

