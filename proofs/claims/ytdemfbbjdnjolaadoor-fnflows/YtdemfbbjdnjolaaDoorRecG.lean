/- openNext and readContent of the program, at every argument that they are called at, where the two tables hold what the program's text lays (Tabs) and the library's variable holds its handle (Hnd). What was there stays. -/
import Derived.Test.YtdemfbbjdnjolaaDoorRecL
import Derived.Test.YtdemfbbjdnjolaaDoorOpenI
import Derived.Test.YtdemfbbjdnjolaaDoorJoint16
namespace Go.Proofs.YtdemfbbjdnjolaaDoor
open Go.ChangeShapes Go.WideShapes Go.ChangeAt Go.RowKit

theorem grown_high {w W : World} {row : Option Nat} (h : w.grownBy W row) {b o : Nat} (hb : w.heap.size ≤ b) (v : Value) : w.grownBy (W.setCell ⟨b, o, none⟩ v) row :=
  ⟨h.os, h.tape, h.output, by rw [World.size_setCell]; exact h.size, fun k hk hne => (Below.heap_setCell _ _ _ k (fun e => by have e2 : k = b := e; omega)).trans (h.block k hk hne)⟩
set_option maxRecDepth 4000 in
set_option maxHeartbeats 2000000 in
theorem openNext_c (x : StreamD) (p p2 : Option Addr) (q q2 b : Nat) (r : List UInt8) (w : World) (A : Arr w b 25 [.slice p x.1.length q, .int .i64 x.2.1, .int .i64 x.2.2]) (hr : Rd w p q x.1) (hr2 : Rd w p2 q2 r) (h5 : 5 ≤ r.length) (hl : r.length ≤ 1048576) (h1 : is32 x.1 = true) (h0 : 0 ≤ x.2.1) (h2 : x.2.1 ≤ 200) (hT : Tabs w) (hH : Hnd w) :
    Calls Tryd.prog 35 #[.pointer (some ⟨b, 0, none⟩), .slice p2 r.length q2] w fun e w' => ∃ u, e = .returned (.agg #[.int .i64 (oC x r), u]) ∧ Own w' w.heap.size u (oL x r) ∧ Arr w' b 25 [.slice p x.1.length q, .int .i64 (if oC x r = 0 then x.2.1 + 1 else x.2.1), .int .i64 x.2.2] ∧ w.grownBy w' (some b) := by
  have HAb : Hid (b < w.heap.size) := A.lt
  have HT : Hid (Tabs w) := hT
  have HH : Hid (Hnd w) := hH
  have hq1 : r.length ≤ q2 := hr2.1
  have hq2 : q2 ≤ 2 ^ 63 - 1 := hr2.2.1
  obtain ⟨b2, o2, rfl, -⟩ := hr2.2.2.2 (by omega)
  have HR5 : Hid (Rd w (some ⟨b2, o2, none⟩) q2 (r.take 5)) := hr2.take 5
  have HRD : Hid (∀ pp, (¬ q2 = 5 → pp = some ⟨b2, o2 + 5, none⟩) → (pp = none → q2 - 5 = 0) → Rd w pp (q2 - 5) (r.drop 5)) := fun pp hp hn => by
    obtain ⟨-, qq2, -, cs⟩ := hr2
    refine ⟨by rw [List.length_drop]; omega, by omega, hn, fun hpos2 => ?_⟩
    rw [List.length_drop] at hpos2
    obtain ⟨b3, o3, e3, hcs⟩ := cs (by omega)
    cases e3
    refine ⟨b2, o2 + 5, hp (by omega), fun i hi => ?_⟩
    rw [List.length_drop] at hi
    rw [Nat.add_assoc, hcs (5 + i) (by omega), at8_get (by omega), at8_get (by rw [List.length_drop]; omega)]
    congr 3
    rw [List.getElem_drop]
  have KK : Hid (∀ W, Below w.heap.size w W → Calls Tryd.prog 58 #[.pointer (some ⟨b, 0, none⟩)] W fun e w' => ∃ u v, e = .returned (.tuple #[u, v]) ∧ Own w' W.heap.size u (keyN x.1) ∧ Own w' W.heap.size v (nonceS x) ∧ Below W.heap.size W w') := fun W hW => keyAndNonce_c x p q b W (A.stay hW) (hr.keep hW) h1 h0 h2 (hT.keep hW)
  have KO : Hid (∀ (w : World) (pk pn ph pd : Option Addr) (qk qn qh qd : Nat), Rd w pk qk (keyN x.1) → Rd w pn qn (nonceS x) → Rd w ph qh (r.take 5) → Rd w pd qd (r.drop 5) → Tabs w → Hnd w → Calls Tryd.prog 61 #[.slice pk 32 qk, .slice pn 12 qn, .slice ph 5 qh, .slice pd (r.length - 5) qd] w fun e w' => ∃ u, e = .returned (.agg #[.int .i64 (oC x r), u]) ∧ Own w' w.heap.size u (oL x r) ∧ Below w.heap.size w w') := fun w pk pn ph pd qk qn qh qd h1 h2 h3 h4 t t2 => by
    have h := implOp_c pk pn ph pd qk qn qh qd (keyN x.1) (nonceS x) (r.take 5) (r.drop 5) w h1 h2 h3 h4 (by rw [List.length_drop]; omega) t t2
    have hk : kn (keyN x.1) (nonceS x) = true := by simp [kn, keyN_len, nonceS_len]
    have hs : sealC (keyN x.1) (nonceS x) (r.take 5) = 0 := by rw [sealC_kn, if_pos hk, if_pos (by rw [List.length_take]; omega)]
    have ho : opC (keyN x.1) (nonceS x) (r.take 5) (r.drop 5) = oC x r := by rw [opC, if_pos hs]; rfl
    have hL : opL (keyN x.1) (nonceS x) (r.take 5) (r.drop 5) = oL x r := by
      rw [opL, ho]
      split
      · rfl
      · rename_i hn
        exact (if_neg hn).symm
    rw [ho, hL, keyN_len, nonceS_len, List.length_take, List.length_drop, Nat.min_eq_left h5] at h
    exact h
  have B0 := alloc_below w (.cells #[.int .i64 0, .slice none 0 0] 55)
  clear hr hr2 hT hH
  go_enter Tryd.func35, Tryd.ntmps35
  go_wp2_with fail
  refine (KK.out _ B0).mono ?_
  rintro e w1 ⟨u, v, rfl, k1, k2, hb1⟩
  obtain ⟨a1, cc1, rfl, -⟩ := k1.rd
  obtain ⟨a2, cc2, rfl, -⟩ := k2.rd
  rw [keyN_len, nonceS_len] at *
  have R := (Arr.new w [.int .i64 0, .slice none 0 0] 55).stay hb1
  replace A := (A.stay B0).stay hb1
  have BW := Below.step B0 hb1
  have HZ1 : Hid (w.heap.size + 1 ≤ w1.heap.size) := by have h := hb1.size; rw [size_alloc] at h; exact h
  clear B0 hb1 KK
  have hz5 : (5 : Int) ≤ (r.length : Int) := by omega
  have hz6 : (5 : Int) ≤ (q2 : Int) := by omega
  go_wp2_with fail
  apply share
  case h =>
    intro JN
    have hne := HW.some w1
    refine wp_region_pick [0, 1, 2, 3, 4, 5] 8 2 1 rfl rfl rfl (by kernel_rfl) (by kernel_rfl) (by kernel_rfl) (by kernel_rfl) ?_
    simp only [opsAt, List.getElem?_toArray, List.getElem?_cons_zero, List.getElem?_cons_succ]
    repeat (go_big_quiet_step (fail))
    refine wpQuiet_nil ?_
    refine wpM_two (i := 6) (j := 7) (by kernel_rfl) ?_ ?_
    · refine mOp_call rfl (by go_simp) 61 _ #[.slice a1 32 cc1, .slice a2 12 cc2, .slice (some ⟨b2, o2, none⟩) 5 q2, .slice (if q2 = 5 then some ⟨b2, o2, none⟩ else some ⟨b2, o2 + 5, none⟩) (r.length - 5) (q2 - 5)] (fun w => by go_simp) rfl ?_
      rintro _ ⟨sc, rfl⟩
      refine (KO.out _ a1 a2 _ _ cc1 cc2 _ _ (Rd.own (k1.stay sc.h)) (Rd.own (k2.stay sc.h)) (HR5.out.keep (Below.step BW sc.h)) ((HRD.out _ (fun h => if_neg h) (fun h => by split at h <;> cases h)).keep (Below.step BW sc.h)) (HT.out.keep (Below.step BW sc.h)) (HH.out.keep (Below.step BW sc.h))).mono ?_
      rintro e w3 ⟨u3, rfl, k3, hb3⟩
      obtain ⟨a3, cc3, rfl, -⟩ := k3.rd
      refine ⟨_, rfl, ⟨⟨_, hb3⟩, rfl⟩, ?_⟩
      have hbc := Below.step sc.h hb3
      have hne2 := HW.some w3
      refine wpM_only (i := 7) (by kernel_rfl) ?_
      refine mOp_make rfl (by go_simp) ?_
      rintro _ ⟨sa, rfl⟩
      refine ⟨.pointer (some ⟨sa.w.heap.size, 0, none⟩), sa.w.alloc (.cells #[.int .i64 0, .slice none 0 0] 55), by go_simp, ⟨⟨_, alloc_below _ _⟩, rfl⟩, ?_⟩
      have AA := Arr.new sa.w [.int .i64 0, .slice none 0 0] 55
      have hba := Below.step sa.h (alloc_below sa.w (.cells #[.int .i64 0, .slice none 0 0] 55))
      have NE : ∀ k, (Value.slice a3 (oL x r).length cc3).ownBlock = some k → k ≠ sa.w.heap.size := fun k hk e => by have h := k3.lt k hk; have h2 := sa.h.size; omega
      have GG : w1.heap.size ≤ sa.w.heap.size := Nat.le_trans hbc.size sa.h.size
      have BB := Below.step hbc hba
      replace k3 := (k3.lower (show w1.heap.size ≤ sc.w.heap.size from sc.h.size)).stay hba
      generalize sa.w.heap.size = gg at *
      generalize sa.w.alloc (.cells #[.int .i64 0, .slice none 0 0] 55) = wa at *
      clear hba hbc hb3 hne hne2
      refine wpM_end (by kernel_rfl) rfl (by kernel_rfl) (by decide) ?_
      rintro _ ⟨sz, rfl⟩
      simp only [List.drop_succ_cons, List.drop_zero]
      go_simp
      replace AA := AA.stay sz.h
      replace k3 := k3.stay sz.h
      replace BB := Below.step BB sz.h
      generalize sz.w = W at *
      revert NE
      revert k3
      revert GG
      revert AA
      revert BB
      revert cc3
      revert a3
      revert gg
      revert W
      exact JN.out
    · refine mOp_make rfl (by go_simp) ?_
      rintro _ ⟨sa, rfl⟩
      refine ⟨.pointer (some ⟨sa.w.heap.size, 0, none⟩), sa.w.alloc (.cells #[.int .i64 0, .slice none 0 0] 55), by go_simp, ⟨⟨_, alloc_below _ _⟩, rfl⟩, ?_⟩
      have AA := Arr.new sa.w [.int .i64 0, .slice none 0 0] 55
      have hba := Below.step sa.h (alloc_below sa.w (.cells #[.int .i64 0, .slice none 0 0] 55))
      have GG : w1.heap.size ≤ sa.w.heap.size := sa.h.size
      generalize sa.w.heap.size = gg at *
      generalize sa.w.alloc (.cells #[.int .i64 0, .slice none 0 0] 55) = wa at *
      have hne2 := HW.some wa
      refine wpM_only (i := 6) (by kernel_rfl) ?_
      refine mOp_call rfl (by go_simp) 61 _ #[.slice a1 32 cc1, .slice a2 12 cc2, .slice (some ⟨b2, o2, none⟩) 5 q2, .slice (if q2 = 5 then some ⟨b2, o2, none⟩ else some ⟨b2, o2 + 5, none⟩) (r.length - 5) (q2 - 5)] (fun w => by go_simp) rfl ?_
      rintro _ ⟨sc, rfl⟩
      refine (KO.out _ a1 a2 _ _ cc1 cc2 _ _ (Rd.own (k1.stay (Below.step hba sc.h))) (Rd.own (k2.stay (Below.step hba sc.h))) (HR5.out.keep (Below.step BW (Below.step hba sc.h))) ((HRD.out _ (fun h => if_neg h) (fun h => by split at h <;> cases h)).keep (Below.step BW (Below.step hba sc.h))) (HT.out.keep (Below.step BW (Below.step hba sc.h))) (HH.out.keep (Below.step BW (Below.step hba sc.h)))).mono ?_
      rintro e w3 ⟨u3, rfl, k3, hb3⟩
      obtain ⟨a3, cc3, rfl, -⟩ := k3.rd
      refine ⟨_, rfl, ⟨⟨_, hb3⟩, rfl⟩, ?_⟩
      have hbc := Below.step sc.h hb3
      have NE : ∀ k, (Value.slice a3 (oL x r).length cc3).ownBlock = some k → k ≠ gg := fun k hk e => by have h := k3.ge k hk; have h2 := sc.h.size; have h3 := AA.lt; omega
      replace AA := AA.stay hbc
      have BB := Below.step hba hbc
      replace k3 := k3.lower (show w1.heap.size ≤ sc.w.heap.size from Nat.le_trans hba.size sc.h.size)
      clear hba hbc hb3 hne hne2
      refine wpM_end (by kernel_rfl) rfl (by kernel_rfl) (by decide) ?_
      rintro _ ⟨sz, rfl⟩
      simp only [List.drop_succ_cons, List.drop_zero]
      go_simp
      replace AA := AA.stay sz.h
      replace k3 := k3.stay sz.h
      replace BB := Below.step BB sz.h
      generalize sz.w = W at *
      revert NE
      revert k3
      revert GG
      revert AA
      revert BB
      revert cc3
      revert a3
      revert gg
      revert W
      exact JN.out
  intro W gg a3 cc3 BB AA GG k3 NE
  generalize (if q2 = 5 then some (⟨b2, o2, none⟩ : Addr) else some ⟨b2, o2 + 5, none⟩) = pp at *
  have HBW : Hid (Below w.heap.size w W) := Below.step BW BB
  replace A := A.stay BB
  replace R := R.stay BB
  have hHb : Hid (w.heap.size < gg) := by have := HZ1.out; show _ < _; omega
  have L2 := (AA.set 0 (.int .i64 (oC x r))).set 1 (.slice a3 (oL x r).length cc3)
  have A2 := (A.setOther (a := ⟨gg, 0, none⟩) (by have := HAb.out; have := hHb.out; show b ≠ gg; omega) (.int .i64 (oC x r))).setOther (a := ⟨gg, 1, none⟩) (by have := HAb.out; have := hHb.out; show b ≠ gg; omega) (.slice a3 (oL x r).length cc3)
  have R2 := (R.setOther (a := ⟨gg, 0, none⟩) (by have := hHb.out; show w.heap.size ≠ gg; omega) (.int .i64 (oC x r))).setOther (a := ⟨gg, 1, none⟩) (by have := hHb.out; show w.heap.size ≠ gg; omega) (.slice a3 (oL x r).length cc3)
  have k22 : Own ((W.setCell ⟨gg, 0, none⟩ (.int .i64 (oC x r))).setCell ⟨gg, 1, none⟩ (.slice a3 (oL x r).length cc3)) w1.heap.size (.slice a3 (oL x r).length cc3) (oL x r) := (k3.other (grown_set W gg 0 (.int .i64 (oC x r))) (fun k hk e => by cases e; exact NE _ hk rfl)).other (grown_set _ gg 1 (.slice a3 (oL x r).length cc3)) (fun k hk e => by cases e; exact NE _ hk rfl)
  have BW2 := (HBW.out.setCell (p := ⟨gg, 0, none⟩) (by have := hHb.out; show w.heap.size ≤ gg; omega) (.int .i64 (oC x r))).setCell (p := ⟨gg, 1, none⟩) (by have := hHb.out; show w.heap.size ≤ gg; omega) (.slice a3 (oL x r).length cc3)
  have a0 := (AA.cell 0).trans (show _ = some _ from rfl)
  have a1' := (AA.cell 1).trans (show _ = some _ from rfl)
  have fa := AA.frozen
  clear AA A R BB k3 NE GG BW k1 k2
  generalize e2 : (W.setCell ⟨gg, 0, none⟩ (.int .i64 (oC x r))).setCell ⟨gg, 1, none⟩ (.slice a3 (oL x r).length cc3) = W2 at *
  have l0 := (L2.cell 0).trans (show _ = some _ from rfl)
  have l1 := (L2.cell 1).trans (show _ = some _ from rfl)
  have r0 := (R2.cell 0).trans (show _ = some _ from rfl)
  have r1 := (R2.cell 1).trans (show _ = some _ from rfl)
  have fr := R2.frozen
  have s1 := (A2.cell 1).trans (show _ = some _ from rfl)
  have fs := A2.frozen
  have n1 : ¬ gg = b := by have := HAb.out; have := hHb.out; omega
  have n2 : ¬ b = gg := by have := HAb.out; have := hHb.out; omega
  have n3 : ¬ gg = w.heap.size := by have := hHb.out; omega
  have n4 : ¬ w.heap.size = gg := by have := hHb.out; omega
  have n5 : ¬ b = w.heap.size := by have := HAb.out; omega
  have n6 : ¬ w.heap.size = b := by have := HAb.out; omega
  have HA : Hid (Arr W2 b 25 [.slice p x.1.length q, .int .i64 x.2.1, .int .i64 x.2.2]) := A2
  have HK : Hid (Own W2 w1.heap.size (.slice a3 (oL x r).length cc3) (oL x r)) := k22
  have HB2 : Hid (Below w.heap.size w W2) := BW2
  clear A2 k22 BW2 L2 KO HR5 HRD HT HH HBW
  have HR2 : Hid (Arr W2 w.heap.size 55 [.int .i64 0, .slice none 0 0]) := R2
  clear R2
  have hb1 : Hid (b < w1.heap.size) := by have := HAb.out; have := HZ1.out; show _ < _; omega
  have hh1 : Hid (w.heap.size < w1.heap.size) := by have := HZ1.out; show _ < _; omega
  have HZ1' : Hid (w.heap.size ≤ w1.heap.size) := by have := HZ1.out; show _ ≤ _; omega
  by_cases hc : oC x r = 0
  · have HC : Hid (oC x r = 0) := hc
    have d0 : (oC x r == 0) = true := by rw [beq_iff_eq]; exact hc
    clear hc
    go_wp2_with fail
    have F1 := ((HA.out.set 1 (.int .i64 (x.2.1 + 1))).setOther (a := ⟨w.heap.size, 0, none⟩) n5 (.int .i64 0)).setOther (a := ⟨w.heap.size, 1, none⟩) n5 (.slice a3 (oL x r).length cc3)
    have F2 := ((HK.out.set (a := ⟨b, 1, none⟩) hb1.out (.int .i64 (x.2.1 + 1))).set (a := ⟨w.heap.size, 0, none⟩) hh1.out (.int .i64 0)).set (a := ⟨w.heap.size, 1, none⟩) hh1.out (.slice a3 (oL x r).length cc3)
    have F3 := grown_high (o := 1) (grown_high (o := 0) (grownBy_trans (below_grown HB2.out (some b)) (grown_set W2 b 1 (.int .i64 (x.2.1 + 1)))) (Nat.le_refl _) (.int .i64 0)) (Nat.le_refl _) (.slice a3 (oL x r).length cc3)
    have R3 := ((HR2.out.setOther (a := ⟨b, 1, none⟩) n6 (.int .i64 (x.2.1 + 1))).set 0 (.int .i64 0)).set 1 (.slice a3 (oL x r).length cc3)
    have t0 := (R3.cell 0).trans (show _ = some (.int .i64 0) from rfl)
    have t1 := (R3.cell 1).trans (show _ = some (.slice a3 (oL x r).length cc3) from rfl)
    exact bodyPost_ret (v := .agg #[.int .i64 0, .slice a3 (oL x r).length cc3]) (by simp only [results, Tryd.results35]; simp [go_sem, t0, t1]) rfl ⟨_, rfl, F2.lower HZ1'.out, F1, F3⟩
  · have HC : Hid (¬ oC x r = 0) := hc
    have d0 : (oC x r == 0) = false := by rw [beq_eq_false_iff_ne]; exact hc
    clear hc
    go_wp2_with fail
    have F1 := (HA.out.setOther (a := ⟨w.heap.size, 0, none⟩) n5 (.int .i64 (oC x r))).setOther (a := ⟨w.heap.size, 1, none⟩) n5 (.slice a3 (oL x r).length cc3)
    have F2 := (HK.out.set (a := ⟨w.heap.size, 0, none⟩) hh1.out (.int .i64 (oC x r))).set (a := ⟨w.heap.size, 1, none⟩) hh1.out (.slice a3 (oL x r).length cc3)
    have F3 := grown_high (o := 1) (grown_high (o := 0) (below_grown HB2.out (some b)) (Nat.le_refl _) (.int .i64 (oC x r))) (Nat.le_refl _) (.slice a3 (oL x r).length cc3)
    have R3 := (HR2.out.set 0 (.int .i64 (oC x r))).set 1 (.slice a3 (oL x r).length cc3)
    have t0 := (R3.cell 0).trans (show _ = some (.int .i64 (oC x r)) from rfl)
    have t1 := (R3.cell 1).trans (show _ = some (.slice a3 (oL x r).length cc3) from rfl)
    exact bodyPost_ret (v := .agg #[.int .i64 (oC x r), .slice a3 (oL x r).length cc3]) (by simp only [results, Tryd.results35]; simp [go_sem, t0, t1]) rfl ⟨_, rfl, F2.lower HZ1'.out, F1, F3⟩
def inK (l : List UInt8) : Int := if inC l = 0 then ((l.getD (nzN l - 1) 0).toNat : Int) else 0
def inL (l : List UInt8) : List UInt8 := if inC l = 0 then l.take (nzN l - 1) else []
set_option maxRecDepth 4000 in
set_option maxHeartbeats 2000000 in
theorem readContent_c (p : Option Addr) (q : Nat) (l : List UInt8) (w : World) (hr : Rd w p q l) (hl : l.length ≤ 1000) :
    Calls Tryd.prog 36 #[.slice p l.length q] w fun e w' => ∃ u, e = .returned (.agg #[.int .i64 (inC l), .int .i64 (inK l), u, .slice none 0 0, .int .i64 0, .int .i64 0]) ∧ Own w' w.heap.size u (inL l) ∧ Below w.heap.size w w' := by
  have hq1 : l.length ≤ q := hr.1
  have hq2 : q ≤ 2 ^ 63 - 1 := hr.2.1
  have BW := alloc_below w (.cells #[.int .i64 0, .int .i64 0, .slice none 0 0, .slice none 0 0, .int .i64 0, .int .i64 0] 29)
  have R := Arr.new w [.int .i64 0, .int .i64 0, .slice none 0 0, .slice none 0 0, .int .i64 0, .int .i64 0] 29
  have r1 := hr.keep BW
  have z1 : Hid ((w.alloc (.cells #[.int .i64 0, .int .i64 0, .slice none 0 0, .slice none 0 0, .int .i64 0, .int .i64 0] 29)).heap.size = w.heap.size + 1) := size_alloc _ _
  clear hr
  suffices H : ∀ Q : Ending → World → Prop, Hid (∀ e w', (∃ u, e = .returned (.agg #[.int .i64 (inC l), .int .i64 (inK l), u, .slice none 0 0, .int .i64 0, .int .i64 0]) ∧ Own w' w.heap.size u (inL l) ∧ Below w.heap.size w w') → Q e w') → Calls Tryd.prog 36 #[.slice p l.length q] w Q from H _ (show Hid _ from fun _ _ h => h)
  intro Q HQ
  go_enter Tryd.func36, Tryd.ntmps36
  go_wp2_with fail
  generalize w.alloc (.cells #[.int .i64 0, .int .i64 0, .slice none 0 0, .slice none 0 0, .int .i64 0, .int .i64 0] 29) = w1 at *
  go_loop [3] (fun v => ∃ k : Nat, k ≤ l.length ∧ v = .int .i64 (k : Int) ∧ nzN (l.take k) = nzN l) (fun v => (intOf v).toNat)
  case atStart => exact ⟨l.length, Nat.le_refl _, rfl, by rw [List.take_length]⟩
  case round =>
    obtain ⟨k, hk, rfl, hnz⟩ := hrel
    have HNZ : Hid (nzN (l.take k) = nzN l) := hnz
    clear hnz
    have c0 := (R.cell 0).trans (show _ = some _ from rfl)
    have c1 := (R.cell 1).trans (show _ = some _ from rfl)
    have c2 := (R.cell 2).trans (show _ = some _ from rfl)
    have c3 := (R.cell 3).trans (show _ = some _ from rfl)
    have c4 := (R.cell 4).trans (show _ = some _ from rfl)
    have c5 := (R.cell 5).trans (show _ = some _ from rfl)
    have fz := R.frozen
    by_cases h0 : k = 0
    · subst h0
      have HI : Hid (inC l = 1) := by show _ = _; unfold inC; rw [← HNZ.out, List.take_zero, nzN_nil, if_pos rfl]
      go_wp2_with fail
      exact bodyPost_ret (v := .agg #[.int .i64 1, .int .i64 0, .slice none 0 0, .slice none 0 0, .int .i64 0, .int .i64 0]) (by simp [results, Tryd.results36, go_sem, c0, c1, c2, c3, c4, c5]) rfl (HQ.out _ _ ⟨_, by rw [HI.out, show inK l = 0 by rw [inK, HI.out]; rfl], by rw [show inL l = [] by rw [inL, HI.out]; rfl]; exact Own_nil _ _, ((((((BW.setCell (Nat.le_refl _) _).setCell (Nat.le_refl _) _).setCell (Nat.le_refl _) _).setCell (Nat.le_refl _) _).setCell (Nat.le_refl _) _).setCell (Nat.le_refl _) _)⟩)
    · obtain ⟨j, rfl⟩ : ∃ j, k = j + 1 := ⟨k - 1, by omega⟩
      have hpos : (0 : Int) < ((j + 1 : Nat) : Int) := by omega
      have HR1 : Hid (Rd w1 p q l) := r1
      obtain ⟨b, o, rfl, hc⟩ := r1.2.2.2 (by omega)
      have cj := hc j (by omega)
      have hjl : (j : Int) < (l.length : Int) := by omega
      have HA8 : Hid (at8 l j = ((l.getD j 0).toNat : Int)) := rfl
      have la := at8_lo l j
      have ua := at8_hi l j
      clear hc r1
      by_cases hz : at8 l j = 0
      · have hz1 : (at8 l j == 0) = true := by rw [beq_iff_eq]; exact hz
        have HNX : Hid (nzN (l.take j) = nzN l) := by show _ = _; rw [← HNZ.out]; exact (nzN_zero (by omega) (UInt8.toNat_inj.1 (by have := HA8.out; have h0 : (0 : UInt8).toNat = 0 := rfl; omega))).symm
        clear hz
        go_wp2_with fail
        go_round
        case rel => exact ⟨j, by omega, by go_num, HNX.out⟩
        case measure => simp [intOf]
      · have hz1 : (at8 l j == 0) = false := by rw [beq_eq_false_iff_ne]; exact hz
        have HN1 : Hid (nzN l = j + 1) := by show _ = _; rw [← HNZ.out]; exact nzN_pos (by omega) (fun e => hz (by have := HA8.out; rw [e] at this; exact this))
        have HIC : Hid (inC l = if kindB (at8 l j) then (if 200 < j then 2 else 0) else 3) := by show _ = _; unfold inC; rw [HN1.out, if_neg (by omega), Nat.add_sub_cancel, ← HA8.out]
        have HIK : Hid (inC l = 0 → inK l = at8 l j ∧ inL l = l.take j) := fun h => ⟨by rw [inK, if_pos h, HN1.out, Nat.add_sub_cancel]; exact HA8.out.symm, by rw [inL, if_pos h, HN1.out, Nat.add_sub_cancel]⟩
        have hnz : (((j + 1 : Nat) : Int) == 0) = false := by rw [beq_eq_false_iff_ne]; omega
        clear hz HNZ HA8 HN1
        generalize at8 l j = a at *
        go_wp2_with fail
        refine (isRecordKind_c a _).mono ?_
        rintro e w2 ⟨rfl, hw⟩
        subst w2
        cases hk : kindB a
        · have HI : Hid (inC l = 3) := by show _ = _; rw [HIC.out, hk]; rfl
          clear hk
          go_wp2_with fail
          exact bodyPost_ret (v := .agg #[.int .i64 3, .int .i64 0, .slice none 0 0, .slice none 0 0, .int .i64 0, .int .i64 0]) (by simp [results, Tryd.results36, go_sem, c0, c1, c2, c3, c4, c5]) rfl (HQ.out _ _ ⟨_, by rw [HI.out, show inK l = 0 by rw [inK, HI.out]; rfl], by rw [show inL l = [] by rw [inL, HI.out]; rfl]; exact Own_nil _ _, ((((((BW.setCell (Nat.le_refl _) _).setCell (Nat.le_refl _) _).setCell (Nat.le_refl _) _).setCell (Nat.le_refl _) _).setCell (Nat.le_refl _) _).setCell (Nat.le_refl _) _)⟩)
        · by_cases hj : 200 < j
          · have HI : Hid (inC l = 2) := by show _ = _; rw [HIC.out, hk, if_pos rfl, if_pos hj]
            have hjI : (200 : Int) < (j : Int) := by omega
            clear hk
            go_wp2_with fail
            exact bodyPost_ret (v := .agg #[.int .i64 2, .int .i64 0, .slice none 0 0, .slice none 0 0, .int .i64 0, .int .i64 0]) (by simp [results, Tryd.results36, go_sem, c0, c1, c2, c3, c4, c5]) rfl (HQ.out _ _ ⟨_, by rw [HI.out, show inK l = 0 by rw [inK, HI.out]; rfl], by rw [show inL l = [] by rw [inL, HI.out]; rfl]; exact Own_nil _ _, ((((((BW.setCell (Nat.le_refl _) _).setCell (Nat.le_refl _) _).setCell (Nat.le_refl _) _).setCell (Nat.le_refl _) _).setCell (Nat.le_refl _) _).setCell (Nat.le_refl _) _)⟩)
          · have HI : Hid (inC l = 0) := by show _ = _; rw [HIC.out, hk, if_pos rfl, if_neg hj]
            have hjI : ¬ (200 : Int) < (j : Int) := by omega
            have hlj : Hid ((l.take j).length = j) := by show _ = _; rw [List.length_take]; omega
            have KC : Hid (Calls Tryd.prog 57 #[.slice (some ⟨b, o, none⟩) j q] w1 fun e w' => ∃ u, e = .returned u ∧ Own w' w1.heap.size u (l.take j) ∧ Below w1.heap.size w1 w') := by
              have h := bytesClone_c (some ⟨b, o, none⟩) q (l.take j) w1 (HR1.out.take j) (by rw [hlj.out]; omega)
              rw [hlj.out] at h
              exact h
            clear hk
            go_wp2_with fail
            refine KC.out.mono ?_
            rintro e w3 ⟨u3, rfl, k3, hb3⟩
            obtain ⟨a3, cc3, rfl, -⟩ := k3.rd
            rw [hlj.out] at *
            rw [z1.out] at k3
            replace R := R.stay hb3
            replace BW := Below.step BW hb3
            clear c0 c1 c2 c3 c4 c5 fz cj
            have c0 := (R.cell 0).trans (show _ = some _ from rfl)
            have c1 := (R.cell 1).trans (show _ = some _ from rfl)
            have c2 := (R.cell 2).trans (show _ = some _ from rfl)
            have c3 := (R.cell 3).trans (show _ = some _ from rfl)
            have c4 := (R.cell 4).trans (show _ = some _ from rfl)
            have c5 := (R.cell 5).trans (show _ = some _ from rfl)
            have fz := R.frozen
            clear hb3
            go_wp2_with fail
            exact bodyPost_ret (v := .agg #[.int .i64 0, .int .i64 a, .slice a3 j cc3, .slice none 0 0, .int .i64 0, .int .i64 0]) (by simp [results, Tryd.results36, go_sem, c0, c1, c2, c3, c4, c5]) rfl (HQ.out _ _ ⟨_, by rw [HI.out, (HIK.out HI.out).1], by rw [(HIK.out HI.out).2]; exact ((((((k3.set (Nat.lt_succ_self _) _).set (Nat.lt_succ_self _) _).set (Nat.lt_succ_self _) _).set (Nat.lt_succ_self _) _).set (Nat.lt_succ_self _) _).set (Nat.lt_succ_self _) _).lower (Nat.le_succ _), ((((((BW.setCell (Nat.le_refl _) _).setCell (Nat.le_refl _) _).setCell (Nat.le_refl _) _).setCell (Nat.le_refl _) _).setCell (Nat.le_refl _) _).setCell (Nat.le_refl _) _)⟩)
end Go.Proofs.YtdemfbbjdnjolaaDoor

