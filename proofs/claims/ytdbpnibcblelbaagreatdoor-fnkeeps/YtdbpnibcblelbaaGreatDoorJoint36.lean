/- openNext and readContent of the program, at every argument that they are called at, where the two tables hold what the program's text lays (Tabs) and the library's variable holds its handle (Hnd). What was there stays. -/
import Derived.Test.YtdbpnibcblelbaaGreatDoorJoint34
import Derived.Test.YtdbpnibcblelbaaGreatDoorJoint7
import Derived.Test.YtdbpnibcblelbaaGreatDoorJoint6
import Derived.Test.YtdbpnibcblelbaaGreatDoorJoint35
namespace Go.Proofs.YtdbpnibcblelbaaGreatDoor
open Go.ChangeShapes Go.WideShapes Go.ChangeAt Go.RowKit
theorem grown_high {w W : World} {row : Option Nat} (h : w.grownBy W row) {b o : Nat} (hb : w.heap.size ≤ b) (v : Value) : w.grownBy (W.setCell ⟨b, o, none⟩ v) row :=
  ⟨h.os, h.tape, h.output, by rw [World.size_setCell]; exact h.size, fun k hk hne => (Below.heap_setCell _ _ _ k (fun e => by have e2 : k = b := e; omega)).trans (h.block k hk hne)⟩
set_option maxRecDepth 4000 in
set_option maxHeartbeats 2000000 in
theorem openNext_c (x : StreamD) (p p2 : Option Addr) (q q2 b : Nat) (r : List UInt8) (w : World) (A : Arr w b 36 [.slice p x.1.length q, .int .i64 x.2.1, .int .i64 x.2.2]) (hr : Rd w p q x.1) (hr2 : Rd w p2 q2 r) (h5 : 5 ≤ r.length) (hl : r.length ≤ 1048576) (h1 : is32 x.1 = true) (h0 : 0 ≤ x.2.1) (h2 : x.2.1 ≤ 200) (hT : Tabs w) (hH : Hnd w) :
    Calls Tryz.prog 45 #[.pointer (some ⟨b, 0, none⟩), .slice p2 r.length q2] w fun e w' => ∃ u, e = .returned (.agg #[.int .i64 (oC x r), u]) ∧ Own w' w.heap.size u (oL x r) ∧ Arr w' b 36 [.slice p x.1.length q, .int .i64 (if oC x r = 0 then x.2.1 + 1 else x.2.1), .int .i64 x.2.2] ∧ w.grownBy w' (some b) := by
  have HAb : Hid (b < w.heap.size) := A.lt
  have HT : Hid (Tabs w) := hT
  have HH : Hid (Hnd w) := hH
  have hq1 : r.length ≤ q2 := hr2.1
  have hq2 : q2 ≤ 2 ^ 63 - 1 := hr2.2.1
  obtain ⟨b2, o2, rfl, -⟩ := hr2.2.2.2 (by omega)
  have HR5 : Hid (Rd w (some ⟨b2, o2, none⟩) q2 (r.take 5)) := hr2.take 5
  have HRD : Hid (∀ pp, (¬ q2 = 5 → pp = some ⟨b2, o2 + 5, none⟩) → (pp = none → q2 - 5 = 0) → Rd w pp (q2 - 5) (r.drop 5)) := fun pp hp hn => by
    obtain ⟨-, qq2, -, cs⟩ := hr2
    refine ⟨by rw [List.length_drop]; omega, by omega, hn, fun hpos2 => ?_⟩
    rw [List.length_drop] at hpos2
    obtain ⟨b3, o3, e3, hcs⟩ := cs (by omega)
    cases e3
    refine ⟨b2, o2 + 5, hp (by omega), fun i hi => ?_⟩
    rw [List.length_drop] at hi
    rw [Nat.add_assoc, hcs (5 + i) (by omega), at8_get (by omega), at8_get (by rw [List.length_drop]; omega)]
    congr 3
    rw [List.getElem_drop]
  have KK : Hid (∀ W, Below w.heap.size w W → Calls Tryz.prog 112 #[.pointer (some ⟨b, 0, none⟩)] W fun e w' => ∃ u v, e = .returned (.tuple #[u, v]) ∧ Own w' W.heap.size u (keyN x.1) ∧ Own w' W.heap.size v (nonceS x) ∧ Below W.heap.size W w') := fun W hW => keyAndNonce_c x p q b W (A.stay hW) (hr.keep hW) h1 h0 h2 (hT.keep hW)
  have KO : Hid (∀ (w : World) (pk pn ph pd : Option Addr) (qk qn qh qd : Nat), Rd w pk qk (keyN x.1) → Rd w pn qn (nonceS x) → Rd w ph qh (r.take 5) → Rd w pd qd (r.drop 5) → Tabs w → Hnd w → Calls Tryz.prog 116 #[.slice pk 32 qk, .slice pn 12 qn, .slice ph 5 qh, .slice pd (r.length - 5) qd] w fun e w' => ∃ u, e = .returned (.agg #[.int .i64 (oC x r), u]) ∧ Own w' w.heap.size u (oL x r) ∧ Below w.heap.size w w') := fun w pk pn ph pd qk qn qh qd h1 h2 h3 h4 t t2 => by
    have h := implOp_c pk pn ph pd qk qn qh qd (keyN x.1) (nonceS x) (r.take 5) (r.drop 5) w h1 h2 h3 h4 (by rw [List.length_drop]; omega) t t2
    have hk : kn (keyN x.1) (nonceS x) = true := by simp [kn, keyN_len, nonceS_len]
    have hs : sealC (keyN x.1) (nonceS x) (r.take 5) = 0 := by rw [sealC_kn, if_pos hk, if_pos (by rw [List.length_take]; omega)]
    have ho : opC (keyN x.1) (nonceS x) (r.take 5) (r.drop 5) = oC x r := by rw [opC, if_pos hs]; rfl
    have hL : opL (keyN x.1) (nonceS x) (r.take 5) (r.drop 5) = oL x r := by
      rw [opL, ho]
      split
      · rfl
      · rename_i hn
        exact (if_neg hn).symm
    rw [ho, hL, keyN_len, nonceS_len, List.length_take, List.length_drop, Nat.min_eq_left h5] at h
    exact h
  have B0 := alloc_below w (.cells #[.int .i64 0, .slice none 0 0] 43)
  clear hr hr2 hT hH
  go_enter Tryz.func45, Tryz.ntmps45
  go_wp2_with fail
  refine (KK.out _ B0).mono ?_
  rintro e w1 ⟨u, v, rfl, k1, k2, hb1⟩
  obtain ⟨a1, cc1, rfl, -⟩ := k1.rd
  obtain ⟨a2, cc2, rfl, -⟩ := k2.rd
  rw [keyN_len, nonceS_len] at *
  have R := (Arr.new w [.int .i64 0, .slice none 0 0] 43).stay hb1
  replace A := (A.stay B0).stay hb1
  have BW := Below.step B0 hb1
  have HZ1 : Hid (w.heap.size + 1 ≤ w1.heap.size) := by have h := hb1.size; rw [size_alloc] at h; exact h
  clear B0 hb1 KK
  have hz5 : (5 : Int) ≤ (r.length : Int) := by omega
  have hz6 : (5 : Int) ≤ (q2 : Int) := by omega
  go_wp2_with fail
  apply share
  case h =>
    intro JN
    have hne := HW.some w1
    refine wp_region_pick [0, 1, 2, 3, 4, 5] 8 2 1 rfl rfl rfl (by kernel_rfl) (by kernel_rfl) (by kernel_rfl) (by kernel_rfl) ?_
    simp only [opsAt, List.getElem?_toArray, List.getElem?_cons_zero, List.getElem?_cons_succ]
    repeat (go_big_quiet_step (fail))
    refine wpQuiet_nil ?_
    refine wpM_two (i := 6) (j := 7) (by kernel_rfl) ?_ ?_
    · refine mOp_call rfl (by go_simp) 116 _ #[.slice a1 32 cc1, .slice a2 12 cc2, .slice (some ⟨b2, o2, none⟩) 5 q2, .slice (if q2 = 5 then some ⟨b2, o2, none⟩ else some ⟨b2, o2 + 5, none⟩) (r.length - 5) (q2 - 5)] (fun w => by go_simp) rfl ?_
      rintro _ ⟨sc, rfl⟩
      refine (KO.out _ a1 a2 _ _ cc1 cc2 _ _ (Rd.own (k1.stay sc.h)) (Rd.own (k2.stay sc.h)) (HR5.out.keep (Below.step BW sc.h)) ((HRD.out _ (fun h => if_neg h) (fun h => by split at h <;> cases h)).keep (Below.step BW sc.h)) (HT.out.keep (Below.step BW sc.h)) (HH.out.keep (Below.step BW sc.h))).mono ?_
      rintro e w3 ⟨u3, rfl, k3, hb3⟩
      obtain ⟨a3, cc3, rfl, -⟩ := k3.rd
      refine ⟨_, rfl, ⟨⟨_, hb3⟩, rfl⟩, ?_⟩
      have hbc := Below.step sc.h hb3
      have hne2 := HW.some w3
      refine wpM_only (i := 7) (by kernel_rfl) ?_
      refine mOp_make rfl (by go_simp) ?_
      rintro _ ⟨sa, rfl⟩
      refine ⟨.pointer (some ⟨sa.w.heap.size, 0, none⟩), sa.w.alloc (.cells #[.int .i64 0, .slice none 0 0] 43), by go_simp, ⟨⟨_, alloc_below _ _⟩, rfl⟩, ?_⟩
      have AA := Arr.new sa.w [.int .i64 0, .slice none 0 0] 43
      have hba := Below.step sa.h (alloc_below sa.w (.cells #[.int .i64 0, .slice none 0 0] 43))
      have NE : ∀ k, (Value.slice a3 (oL x r).length cc3).ownBlock = some k → k ≠ sa.w.heap.size := fun k hk e => by have h := k3.lt k hk; have h2 := sa.h.size; omega
      have GG : w1.heap.size ≤ sa.w.heap.size := Nat.le_trans hbc.size sa.h.size
      have BB := Below.step hbc hba
      replace k3 := (k3.lower (show w1.heap.size ≤ sc.w.heap.size from sc.h.size)).stay hba
      generalize sa.w.heap.size = gg at *
      generalize sa.w.alloc (.cells #[.int .i64 0, .slice none 0 0] 43) = wa at *
      clear hba hbc hb3 hne hne2
      refine wpM_end (by kernel_rfl) rfl (by kernel_rfl) (by decide) ?_
      rintro _ ⟨sz, rfl⟩
      simp only [List.drop_succ_cons, List.drop_zero]
      go_simp
      replace AA := AA.stay sz.h
      replace k3 := k3.stay sz.h
      replace BB := Below.step BB sz.h
      generalize sz.w = W at *
      revert NE
      revert k3
      revert GG
      revert AA
      revert BB
      revert cc3
      revert a3
      revert gg
      revert W
      exact JN.out
    · refine mOp_make rfl (by go_simp) ?_
      rintro _ ⟨sa, rfl⟩
      refine ⟨.pointer (some ⟨sa.w.heap.size, 0, none⟩), sa.w.alloc (.cells #[.int .i64 0, .slice none 0 0] 43), by go_simp, ⟨⟨_, alloc_below _ _⟩, rfl⟩, ?_⟩
      have AA := Arr.new sa.w [.int .i64 0, .slice none 0 0] 43
      have hba := Below.step sa.h (alloc_below sa.w (.cells #[.int .i64 0, .slice none 0 0] 43))
      have GG : w1.heap.size ≤ sa.w.heap.size := sa.h.size
      generalize sa.w.heap.size = gg at *
      generalize sa.w.alloc (.cells #[.int .i64 0, .slice none 0 0] 43) = wa at *
      have hne2 := HW.some wa
      refine wpM_only (i := 6) (by kernel_rfl) ?_
      refine mOp_call rfl (by go_simp) 116 _ #[.slice a1 32 cc1, .slice a2 12 cc2, .slice (some ⟨b2, o2, none⟩) 5 q2, .slice (if q2 = 5 then some ⟨b2, o2, none⟩ else some ⟨b2, o2 + 5, none⟩) (r.length - 5) (q2 - 5)] (fun w => by go_simp) rfl ?_
      rintro _ ⟨sc, rfl⟩
      refine (KO.out _ a1 a2 _ _ cc1 cc2 _ _ (Rd.own (k1.stay (Below.step hba sc.h))) (Rd.own (k2.stay (Below.step hba sc.h))) (HR5.out.keep (Below.step BW (Below.step hba sc.h))) ((HRD.out _ (fun h => if_neg h) (fun h => by split at h <;> cases h)).keep (Below.step BW (Below.step hba sc.h))) (HT.out.keep (Below.step BW (Below.step hba sc.h))) (HH.out.keep (Below.step BW (Below.step hba sc.h)))).mono ?_
      rintro e w3 ⟨u3, rfl, k3, hb3⟩
      obtain ⟨a3, cc3, rfl, -⟩ := k3.rd
      refine ⟨_, rfl, ⟨⟨_, hb3⟩, rfl⟩, ?_⟩
      have hbc := Below.step sc.h hb3
      have NE : ∀ k, (Value.slice a3 (oL x r).length cc3).ownBlock = some k → k ≠ gg := fun k hk e => by have h := k3.ge k hk; have h2 := sc.h.size; have h3 := AA.lt; omega
      replace AA := AA.stay hbc
      have BB := Below.step hba hbc
      replace k3 := k3.lower (show w1.heap.size ≤ sc.w.heap.size from Nat.le_trans hba.size sc.h.size)
      clear hba hbc hb3 hne hne2
      refine wpM_end (by kernel_rfl) rfl (by kernel_rfl) (by decide) ?_
      rintro _ ⟨sz, rfl⟩
      simp only [List.drop_succ_cons, List.drop_zero]
      go_simp
      replace AA := AA.stay sz.h
      replace k3 := k3.stay sz.h
      replace BB := Below.step BB sz.h
      generalize sz.w = W at *
      revert NE
      revert k3
      revert GG
      revert AA
      revert BB
      revert cc3
      revert a3
      revert gg
      revert W
      exact JN.out
  intro W gg a3 cc3 BB AA GG k3 NE
  generalize (if q2 = 5 then some (⟨b2, o2, none⟩ : Addr) else some ⟨b2, o2 + 5, none⟩) = pp at *
  have HBW : Hid (Below w.heap.size w W) := Below.step BW BB
  replace A := A.stay BB
  replace R := R.stay BB
  have hHb : Hid (w.heap.size < gg) := by have := HZ1.out; show _ < _; omega
  have L2 := (AA.set 0 (.int .i64 (oC x r))).set 1 (.slice a3 (oL x r).length cc3)
  have A2 := (A.setOther (a := ⟨gg, 0, none⟩) (by have := HAb.out; have := hHb.out; show b ≠ gg; omega) (.int .i64 (oC x r))).setOther (a := ⟨gg, 1, none⟩) (by have := HAb.out; have := hHb.out; show b ≠ gg; omega) (.slice a3 (oL x r).length cc3)
  have R2 := (R.setOther (a := ⟨gg, 0, none⟩) (by have := hHb.out; show w.heap.size ≠ gg; omega) (.int .i64 (oC x r))).setOther (a := ⟨gg, 1, none⟩) (by have := hHb.out; show w.heap.size ≠ gg; omega) (.slice a3 (oL x r).length cc3)
  have k22 : Own ((W.setCell ⟨gg, 0, none⟩ (.int .i64 (oC x r))).setCell ⟨gg, 1, none⟩ (.slice a3 (oL x r).length cc3)) w1.heap.size (.slice a3 (oL x r).length cc3) (oL x r) := (k3.other (grown_set W gg 0 (.int .i64 (oC x r))) (fun k hk e => by cases e; exact NE _ hk rfl)).other (grown_set _ gg 1 (.slice a3 (oL x r).length cc3)) (fun k hk e => by cases e; exact NE _ hk rfl)
  have BW2 := (HBW.out.setCell (p := ⟨gg, 0, none⟩) (by have := hHb.out; show w.heap.size ≤ gg; omega) (.int .i64 (oC x r))).setCell (p := ⟨gg, 1, none⟩) (by have := hHb.out; show w.heap.size ≤ gg; omega) (.slice a3 (oL x r).length cc3)
  have a0 := (AA.cell 0).trans (show _ = some _ from rfl)
  have a1' := (AA.cell 1).trans (show _ = some _ from rfl)
  have fa := AA.frozen
  clear AA A R BB k3 NE GG BW k1 k2
  generalize e2 : (W.setCell ⟨gg, 0, none⟩ (.int .i64 (oC x r))).setCell ⟨gg, 1, none⟩ (.slice a3 (oL x r).length cc3) = W2 at *
  have l0 := (L2.cell 0).trans (show _ = some _ from rfl)
  have l1 := (L2.cell 1).trans (show _ = some _ from rfl)
  have r0 := (R2.cell 0).trans (show _ = some _ from rfl)
  have r1 := (R2.cell 1).trans (show _ = some _ from rfl)
  have fr := R2.frozen
  have s1 := (A2.cell 1).trans (show _ = some _ from rfl)
  have fs := A2.frozen
  have n1 : ¬ gg = b := by have := HAb.out; have := hHb.out; omega
  have n2 : ¬ b = gg := by have := HAb.out; have := hHb.out; omega
  have n3 : ¬ gg = w.heap.size := by have := hHb.out; omega
  have n4 : ¬ w.heap.size = gg := by have := hHb.out; omega
  have n5 : ¬ b = w.heap.size := by have := HAb.out; omega
  have n6 : ¬ w.heap.size = b := by have := HAb.out; omega
  have HA : Hid (Arr W2 b 36 [.slice p x.1.length q, .int .i64 x.2.1, .int .i64 x.2.2]) := A2
  have HK : Hid (Own W2 w1.heap.size (.slice a3 (oL x r).length cc3) (oL x r)) := k22
  have HB2 : Hid (Below w.heap.size w W2) := BW2
  clear A2 k22 BW2 L2 KO HR5 HRD HT HH HBW
  have HR2 : Hid (Arr W2 w.heap.size 43 [.int .i64 0, .slice none 0 0]) := R2
  clear R2
  have hb1 : Hid (b < w1.heap.size) := by have := HAb.out; have := HZ1.out; show _ < _; omega
  have hh1 : Hid (w.heap.size < w1.heap.size) := by have := HZ1.out; show _ < _; omega
  have HZ1' : Hid (w.heap.size ≤ w1.heap.size) := by have := HZ1.out; show _ ≤ _; omega
  by_cases hc : oC x r = 0
  · have HC : Hid (oC x r = 0) := hc
    have d0 : (oC x r == 0) = true := by rw [beq_iff_eq]; exact hc
    clear hc
    go_wp2_with fail
    have F1 := ((HA.out.set 1 (.int .i64 (x.2.1 + 1))).setOther (a := ⟨w.heap.size, 0, none⟩) n5 (.int .i64 0)).setOther (a := ⟨w.heap.size, 1, none⟩) n5 (.slice a3 (oL x r).length cc3)
    have F2 := ((HK.out.set (a := ⟨b, 1, none⟩) hb1.out (.int .i64 (x.2.1 + 1))).set (a := ⟨w.heap.size, 0, none⟩) hh1.out (.int .i64 0)).set (a := ⟨w.heap.size, 1, none⟩) hh1.out (.slice a3 (oL x r).length cc3)
    have F3 := grown_high (o := 1) (grown_high (o := 0) (grownBy_trans (below_grown HB2.out (some b)) (grown_set W2 b 1 (.int .i64 (x.2.1 + 1)))) (Nat.le_refl _) (.int .i64 0)) (Nat.le_refl _) (.slice a3 (oL x r).length cc3)
    have R3 := ((HR2.out.setOther (a := ⟨b, 1, none⟩) n6 (.int .i64 (x.2.1 + 1))).set 0 (.int .i64 0)).set 1 (.slice a3 (oL x r).length cc3)
    have t0 := (R3.cell 0).trans (show _ = some (.int .i64 0) from rfl)
    have t1 := (R3.cell 1).trans (show _ = some (.slice a3 (oL x r).length cc3) from rfl)
    exact bodyPost_ret (v := .agg #[.int .i64 0, .slice a3 (oL x r).length cc3]) (by simp only [results, Tryz.results45]; simp [go_sem, t0, t1]) rfl ⟨_, rfl, F2.lower HZ1'.out, F1, F3⟩
  · have HC : Hid (¬ oC x r = 0) := hc
    have d0 : (oC x r == 0) = false := by rw [beq_eq_false_iff_ne]; exact hc
    clear hc
    go_wp2_with fail
    have F1 := (HA.out.setOther (a := ⟨w.heap.size, 0, none⟩) n5 (.int .i64 (oC x r))).setOther (a := ⟨w.heap.size, 1, none⟩) n5 (.slice a3 (oL x r).length cc3)
    have F2 := (HK.out.set (a := ⟨w.heap.size, 0, none⟩) hh1.out (.int .i64 (oC x r))).set (a := ⟨w.heap.size, 1, none⟩) hh1.out (.slice a3 (oL x r).length cc3)
    have F3 := grown_high (o := 1) (grown_high (o := 0) (below_grown HB2.out (some b)) (Nat.le_refl _) (.int .i64 (oC x r))) (Nat.le_refl _) (.slice a3 (oL x r).length cc3)
    have R3 := (HR2.out.set 0 (.int .i64 (oC x r))).set 1 (.slice a3 (oL x r).length cc3)
    have t0 := (R3.cell 0).trans (show _ = some (.int .i64 (oC x r)) from rfl)
    have t1 := (R3.cell 1).trans (show _ = some (.slice a3 (oL x r).length cc3) from rfl)
    exact bodyPost_ret (v := .agg #[.int .i64 (oC x r), .slice a3 (oL x r).length cc3]) (by simp only [results, Tryz.results45]; simp [go_sem, t0, t1]) rfl ⟨_, rfl, F2.lower HZ1'.out, F1, F3⟩
def inK (l : List UInt8) : Int := if inC l = 0 then ((l.getD (nzN l - 1) 0).toNat : Int) else 0
def inL (l : List UInt8) : List UInt8 := if inC l = 0 then l.take (nzN l - 1) else []
set_option maxRecDepth 4000 in
set_option maxHeartbeats 2000000 in
theorem readContent_c (p : Option Addr) (q : Nat) (l : List UInt8) (w : World) (hr : Rd w p q l) (hl : l.length ≤ 1000) :
    Calls Tryz.prog 46 #[.slice p l.length q] w fun e w' => ∃ u, e = .returned (.agg #[.int .i64 (inC l), .int .i64 (inK l), u, .slice none 0 0, .int .i64 0, .int .i64 0]) ∧ Own w' w.heap.size u (inL l) ∧ Below w.heap.size w w' := by
  have hq1 : l.length ≤ q := hr.1
  have hq2 : q ≤ 2 ^ 63 - 1 := hr.2.1
  have BW := alloc_below w (.cells #[.int .i64 0, .int .i64 0, .slice none 0 0, .slice none 0 0, .int .i64 0, .int .i64 0] 38)
  have R := Arr.new w [.int .i64 0, .int .i64 0, .slice none 0 0, .slice none 0 0, .int .i64 0, .int .i64 0] 38
  have r1 := hr.keep BW
  have z1 : Hid ((w.alloc (.cells #[.int .i64 0, .int .i64 0, .slice none 0 0, .slice none 0 0, .int .i64 0, .int .i64 0] 38)).heap.size = w.heap.size + 1) := size_alloc _ _
  clear hr
  suffices H : ∀ Q : Ending → World → Prop, Hid (∀ e w', (∃ u, e = .returned (.agg #[.int .i64 (inC l), .int .i64 (inK l), u, .slice none 0 0, .int .i64 0, .int .i64 0]) ∧ Own w' w.heap.size u (inL l) ∧ Below w.heap.size w w') → Q e w') → Calls Tryz.prog 46 #[.slice p l.length q] w Q from H _ (show Hid _ from fun _ _ h => h)
  intro Q HQ
  go_enter Tryz.func46, Tryz.ntmps46
  go_wp2_with fail
  generalize w.alloc (.cells #[.int .i64 0, .int .i64 0, .slice none 0 0, .slice none 0 0, .int .i64 0, .int .i64 0] 38) = w1 at *
  go_loop [3] (fun v => ∃ k : Nat, k ≤ l.length ∧ v = .int .i64 (k : Int) ∧ nzN (l.take k) = nzN l) (fun v => (intOf v).toNat)
  case atStart => exact ⟨l.length, Nat.le_refl _, rfl, by rw [List.take_length]⟩
  case round =>
    obtain ⟨k, hk, rfl, hnz⟩ := hrel
    have HNZ : Hid (nzN (l.take k) = nzN l) := hnz
    clear hnz
    have c0 := (R.cell 0).trans (show _ = some _ from rfl)
    have c1 := (R.cell 1).trans (show _ = some _ from rfl)
    have c2 := (R.cell 2).trans (show _ = some _ from rfl)
    have c3 := (R.cell 3).trans (show _ = some _ from rfl)
    have c4 := (R.cell 4).trans (show _ = some _ from rfl)
    have c5 := (R.cell 5).trans (show _ = some _ from rfl)
    have fz := R.frozen
    by_cases h0 : k = 0
    · subst h0
      have HI : Hid (inC l = 1) := by show _ = _; unfold inC; rw [← HNZ.out, List.take_zero, nzN_nil, if_pos rfl]
      go_wp2_with fail
      exact bodyPost_ret (v := .agg #[.int .i64 1, .int .i64 0, .slice none 0 0, .slice none 0 0, .int .i64 0, .int .i64 0]) (by simp [results, Tryz.results46, go_sem, c0, c1, c2, c3, c4, c5]) rfl (HQ.out _ _ ⟨_, by rw [HI.out, show inK l = 0 by rw [inK, HI.out]; rfl], by rw [show inL l = [] by rw [inL, HI.out]; rfl]; exact Own_nil _ _, ((((((BW.setCell (Nat.le_refl _) _).setCell (Nat.le_refl _) _).setCell (Nat.le_refl _) _).setCell (Nat.le_refl _) _).setCell (Nat.le_refl _) _).setCell (Nat.le_refl _) _)⟩)
    · obtain ⟨j, rfl⟩ : ∃ j, k = j + 1 := ⟨k - 1, by omega⟩
      have hpos : (0 : Int) < ((j + 1 : Nat) : Int) := by omega
      have HR1 : Hid (Rd w1 p q l) := r1
      obtain ⟨b, o, rfl, hc⟩ := r1.2.2.2 (by omega)
      have cj := hc j (by omega)
      have hjl : (j : Int) < (l.length : Int) := by omega
      have HA8 : Hid (at8 l j = ((l.getD j 0).toNat : Int)) := rfl
      have la := at8_lo l j
      have ua := at8_hi l j
      clear hc r1
      by_cases hz : at8 l j = 0
      · have hz1 : (at8 l j == 0) = true := by rw [beq_iff_eq]; exact hz
        have HNX : Hid (nzN (l.take j) = nzN l) := by show _ = _; rw [← HNZ.out]; exact (nzN_zero (by omega) (UInt8.toNat_inj.1 (by have := HA8.out; have h0 : (0 : UInt8).toNat = 0 := rfl; omega))).symm
        clear hz
        go_wp2_with fail
        go_round
        case rel => exact ⟨j, by omega, by go_num, HNX.out⟩
        case measure => simp [intOf]
      · have hz1 : (at8 l j == 0) = false := by rw [beq_eq_false_iff_ne]; exact hz
        have HN1 : Hid (nzN l = j + 1) := by show _ = _; rw [← HNZ.out]; exact nzN_pos (by omega) (fun e => hz (by have := HA8.out; rw [e] at this; exact this))
        have HIC : Hid (inC l = if kindB (at8 l j) then (if 200 < j then 2 else 0) else 3) := by show _ = _; unfold inC; rw [HN1.out, if_neg (by omega), Nat.add_sub_cancel, ← HA8.out]
        have HIK : Hid (inC l = 0 → inK l = at8 l j ∧ inL l = l.take j) := fun h => ⟨by rw [inK, if_pos h, HN1.out, Nat.add_sub_cancel]; exact HA8.out.symm, by rw [inL, if_pos h, HN1.out, Nat.add_sub_cancel]⟩
        have hnz : (((j + 1 : Nat) : Int) == 0) = false := by rw [beq_eq_false_iff_ne]; omega
        clear hz HNZ HA8 HN1
        generalize at8 l j = a at *
        go_wp2_with fail
        refine (isRecordKind_c a _).mono ?_
        rintro e w2 ⟨rfl, hw⟩
        subst w2
        cases hk : kindB a
        · have HI : Hid (inC l = 3) := by show _ = _; rw [HIC.out, hk]; rfl
          clear hk
          go_wp2_with fail
          exact bodyPost_ret (v := .agg #[.int .i64 3, .int .i64 0, .slice none 0 0, .slice none 0 0, .int .i64 0, .int .i64 0]) (by simp [results, Tryz.results46, go_sem, c0, c1, c2, c3, c4, c5]) rfl (HQ.out _ _ ⟨_, by rw [HI.out, show inK l = 0 by rw [inK, HI.out]; rfl], by rw [show inL l = [] by rw [inL, HI.out]; rfl]; exact Own_nil _ _, ((((((BW.setCell (Nat.le_refl _) _).setCell (Nat.le_refl _) _).setCell (Nat.le_refl _) _).setCell (Nat.le_refl _) _).setCell (Nat.le_refl _) _).setCell (Nat.le_refl _) _)⟩)
        · by_cases hj : 200 < j
          · have HI : Hid (inC l = 2) := by show _ = _; rw [HIC.out, hk, if_pos rfl, if_pos hj]
            have hjI : (200 : Int) < (j : Int) := by omega
            clear hk
            go_wp2_with fail
            exact bodyPost_ret (v := .agg #[.int .i64 2, .int .i64 0, .slice none 0 0, .slice none 0 0, .int .i64 0, .int .i64 0]) (by simp [results, Tryz.results46, go_sem, c0, c1, c2, c3, c4, c5]) rfl (HQ.out _ _ ⟨_, by rw [HI.out, show inK l = 0 by rw [inK, HI.out]; rfl], by rw [show inL l = [] by rw [inL, HI.out]; rfl]; exact Own_nil _ _, ((((((BW.setCell (Nat.le_refl _) _).setCell (Nat.le_refl _) _).setCell (Nat.le_refl _) _).setCell (Nat.le_refl _) _).setCell (Nat.le_refl _) _).setCell (Nat.le_refl _) _)⟩)
          · have HI : Hid (inC l = 0) := by show _ = _; rw [HIC.out, hk, if_pos rfl, if_neg hj]
            have hjI : ¬ (200 : Int) < (j : Int) := by omega
            have hlj : Hid ((l.take j).length = j) := by show _ = _; rw [List.length_take]; omega
            have KC : Hid (Calls Tryz.prog 111 #[.slice (some ⟨b, o, none⟩) j q] w1 fun e w' => ∃ u, e = .returned u ∧ Own w' w1.heap.size u (l.take j) ∧ Below w1.heap.size w1 w') := by
              have h := bytesClone_c (some ⟨b, o, none⟩) q (l.take j) w1 (HR1.out.take j) (by rw [hlj.out]; omega)
              rw [hlj.out] at h
              exact h
            clear hk
            go_wp2_with fail
            refine KC.out.mono ?_
            rintro e w3 ⟨u3, rfl, k3, hb3⟩
            obtain ⟨a3, cc3, rfl, -⟩ := k3.rd
            rw [hlj.out] at *
            rw [z1.out] at k3
            replace R := R.stay hb3
            replace BW := Below.step BW hb3
            clear c0 c1 c2 c3 c4 c5 fz cj
            have c0 := (R.cell 0).trans (show _ = some _ from rfl)
            have c1 := (R.cell 1).trans (show _ = some _ from rfl)
            have c2 := (R.cell 2).trans (show _ = some _ from rfl)
            have c3 := (R.cell 3).trans (show _ = some _ from rfl)
            have c4 := (R.cell 4).trans (show _ = some _ from rfl)
            have c5 := (R.cell 5).trans (show _ = some _ from rfl)
            have fz := R.frozen
            clear hb3
            go_wp2_with fail
            exact bodyPost_ret (v := .agg #[.int .i64 0, .int .i64 a, .slice a3 j cc3, .slice none 0 0, .int .i64 0, .int .i64 0]) (by simp [results, Tryz.results46, go_sem, c0, c1, c2, c3, c4, c5]) rfl (HQ.out _ _ ⟨_, by rw [HI.out, (HIK.out HI.out).1], by rw [(HIK.out HI.out).2]; exact ((((((k3.set (Nat.lt_succ_self _) _).set (Nat.lt_succ_self _) _).set (Nat.lt_succ_self _) _).set (Nat.lt_succ_self _) _).set (Nat.lt_succ_self _) _).set (Nat.lt_succ_self _) _).lower (Nat.le_succ _), ((((((BW.setCell (Nat.le_refl _) _).setCell (Nat.le_refl _) _).setCell (Nat.le_refl _) _).setCell (Nat.le_refl _) _).setCell (Nat.le_refl _) _).setCell (Nat.le_refl _) _)⟩)
end Go.Proofs.YtdbpnibcblelbaaGreatDoor
/- HearRecord of the program, at every argument, where the two tables hold what the program's text lays (Tabs) and the library's variable holds its handle (Hnd). What was there stays. -/
namespace Go.Proofs.YtdbpnibcblelbaaGreatDoor
open Go.ChangeShapes Go.WideShapes Go.ChangeAt Go.RowKit
theorem oL_len (x : StreamD) (r : List UInt8) : (oL x r).length ≤ 220 := by
  unfold oL openL
  split
  · rename_i h
    unfold openC at h
    split at h
    · exact absurd h (by decide)
    · split at h
      · exact absurd h (by decide)
      · unfold hideN
        simp
        simp only [List.length_drop] at *
        omega
  · simp
theorem bodyOk_len {r : List UInt8} (h : bodyOk r = true) : 5 ≤ r.length := by
  unfold bodyOk at h
  simp at h
  exact h.1.1.1.1
theorem own_apartH {α β : Type} {c : Cod α} {d : Cod β} {w : World} {B : Nat} {a : α × β} {us ts : List Value} {f g : List Nat} (h1 : c.own w B a.1 us f) (h2 : d.own w B a.2 ts g) (hd : ∀ k, k ∈ f → k ∉ g) : (prodC c d).own w B a (us ++ ts) (f ++ g) :=
  ⟨us, ts, f, g, rfl, rfl, List.nodup_append.2 ⟨c.nd h1, d.nd h2, fun _ ha _ hb e => hd _ ha (e ▸ hb)⟩, h1, h2⟩
theorem record_apartH {w : World} {B : Nat} {c k : Int} {bs : List UInt8} {s : StreamD} {u v : Value} (h1 : Own w B u bs) (h2 : Own w B v s.1) (hd : ∀ k, u.ownBlock = some k → v.ownBlock ≠ some k) :
    recordResultC.own w B (c, k, bs, s) [.int .i64 c, .int .i64 k, u, v, .int .i64 s.2.1, .int .i64 s.2.2] ([] ++ ([] ++ (u.ownBlock.toList ++ (v.ownBlock.toList ++ ([] ++ []))))) :=
  own_apartH (a := (c, k, bs, s)) (us := [.int .i64 c]) own_int (own_apartH (a := (k, bs, s)) (us := [.int .i64 k]) own_int (own_apartH (a := (bs, s)) (us := [u]) (byt_own h1) (own_apartH (a := s) (us := [v]) (byt_own h2) (own_apartH (a := s.2) (us := [.int .i64 s.2.1]) own_int own_int (fun _ h => by cases h)) (fun _ _ h => by simp at h)) (fun j hj h => by
    have h1 := mem_opt.1 hj
    simp at h
    exact hd j h1 h)) (fun _ h => by cases h)) (fun _ h => by cases h)
set_option maxRecDepth 4000 in
set_option maxHeartbeats 4000000 in
theorem implHr_k (x : StreamD) (us : List Value) (r : List UInt8) (v : Value) (w : World) (h : streamC.rep w x us) (h2 : bytC.rep w r [v]) (hl : r.length ≤ 1048576) (hT : Tabs w) (hH : Hnd w) :
    Calls Tryz.prog 11 #[.agg us.toArray, v] w fun e w' => ∃ us fp, e = .returned (.agg us.toArray) ∧ recordResultC.own w' w.heap.size (hrD x r) us fp ∧ Below w.heap.size w w' := by
  obtain ⟨p2, q2, e2, r2⟩ := h2
  simp only [List.cons.injEq, and_true] at e2
  subst e2
  have HR2 : Hid (Rd w p2 q2 r) := r2
  have HT : Hid (Tabs w) := hT
  have HH : Hid (Hnd w) := hH
  have hq1 : r.length ≤ q2 := r2.1
  have hq2 : q2 ≤ 2 ^ 63 - 1 := r2.2.1
  clear r2 hT hH
  obtain ⟨p, q, rfl, rr⟩ := stream_rep h
  have BW := Below.mk (alloc_below w (.cells #[.slice p x.1.length q, .int .i64 x.2.1, .int .i64 x.2.2] 36)) (.cells #[.int .i64 0, .int .i64 0, .slice none 0 0, .slice none 0 0, .int .i64 0, .int .i64 0] 38)
  have A := (Arr.new w [.slice p x.1.length q, .int .i64 x.2.1, .int .i64 x.2.2] 36).old _ (.cells #[.int .i64 0, .int .i64 0, .slice none 0 0, .slice none 0 0, .int .i64 0, .int .i64 0] 38)
  have R := Arr.new (w.alloc (.cells #[.slice p x.1.length q, .int .i64 x.2.1, .int .i64 x.2.2] 36)) [.int .i64 0, .int .i64 0, .slice none 0 0, .slice none 0 0, .int .i64 0, .int .i64 0] 38
  rw [size_alloc] at R
  have HR : Hid (Rd w p q x.1) := rr
  have KF : Hid (∀ w, Calls Tryz.prog 43 #[.agg #[.slice p x.1.length q, .int .i64 x.2.1, .int .i64 x.2.2]] w fun e w' => e = .returned (.int .i64 (askC x)) ∧ Below w.heap.size w w') := fun w => roomFault_c x p q w
  clear h rr
  by_cases ha : askC x = 0
  · rw [ha] at KF
    cases hb : bodyOk r
    · have HE : Hid (hrD x r = badR 5) := by show _ = _; unfold hrD hrC; simp [ha, hb]
      clear ha
      go_enter Tryz.func11, Tryz.ntmps11
      go_wp2_with fail
      refine (KF.out _).mono ?_
      rintro e w1 ⟨rfl, hb1⟩
      replace BW := Below.step BW hb1
      replace R := R.stay hb1
      replace A := A.stay hb1
      clear hb1
      go_wp2_with fail
      refine (isRecord_c p2 q2 r _ (HR2.out.keep BW)).mono ?_
      rintro e w2 ⟨rfl, hb2⟩
      rw [hb]
      replace BW := Below.step BW hb2
      replace R := R.stay hb2
      replace A := A.stay hb2
      clear hb2
      have c0 := (R.cell 0).trans (show _ = some _ from rfl)
      have c1 := (R.cell 1).trans (show _ = some _ from rfl)
      have c2 := (R.cell 2).trans (show _ = some _ from rfl)
      have c3 := (R.cell 3).trans (show _ = some _ from rfl)
      have c4 := (R.cell 4).trans (show _ = some _ from rfl)
      have c5 := (R.cell 5).trans (show _ = some _ from rfl)
      have fc := R.frozen
      clear R A
      go_wp2_with fail
      exact bodyPost_ret (v := .agg #[.int .i64 5, .int .i64 0, .slice none 0 0, .slice none 0 0, .int .i64 0, .int .i64 0]) (by simp [results, Tryz.results11, go_sem, c0, c1, c2, c3, c4, c5]) rfl ⟨[.int .i64 5, .int .i64 0, .slice none 0 0, .slice none 0 0, .int .i64 0, .int .i64 0], [], rfl, by rw [HE.out]; exact badR_own _ _ _, ((((((BW.setCell (Nat.le_succ _) _).setCell (Nat.le_succ _) _).setCell (Nat.le_succ _) _).setCell (Nat.le_succ _) _).setCell (Nat.le_succ _) _).setCell (Nat.le_succ _) _)⟩
    · have h5 := bodyOk_len hb
      obtain ⟨-, hx32, hs0, hs1, -, -⟩ := ask_parts ha
      have HX : Hid (x.1.length = 32) := hx32
      have HI32 : Hid (is32 x.1 = true) := by show _ = _; simp [is32, hx32]
      have HOL : Hid ((oL x r).length ≤ 220) := oL_len x r
      have HE3 : Hid (¬ oC x r = 0 → hrD x r = badR (oC x r)) := fun h => by unfold hrD hrC; simp [ha, hb, h]
      have HE4 : Hid (oC x r = 0 → ¬ inC (oL x r) = 0 → hrD x r = badR (inC (oL x r))) := fun h1 h2 => by unfold hrD hrC; simp [ha, hb, h1, h2]
      have HE5 : Hid (oC x r = 0 → inC (oL x r) = 0 → hrD x r = (0, inK (oL x r), inL (oL x r), nextS x)) := fun h1 h2 => by unfold hrD hrC inK inL; simp [ha, hb, h1, h2]
      clear ha hx32
      go_enter Tryz.func11, Tryz.ntmps11
      go_wp2_with fail
      refine (KF.out _).mono ?_
      rintro e w1 ⟨rfl, hb1⟩
      replace BW := Below.step BW hb1
      replace R := R.stay hb1
      replace A := A.stay hb1
      clear hb1
      go_wp2_with fail
      refine (isRecord_c p2 q2 r _ (HR2.out.keep BW)).mono ?_
      rintro e w2 ⟨rfl, hb2⟩
      rw [hb]
      replace BW := Below.step BW hb2
      replace R := R.stay hb2
      replace A := A.stay hb2
      clear hb2
      have a0 := (A.cell 0).trans (show _ = some _ from rfl)
      have a1 := (A.cell 1).trans (show _ = some _ from rfl)
      have a2 := (A.cell 2).trans (show _ = some _ from rfl)
      go_wp2_with fail
      refine (ownStream_c x p q _ (HR.out.keep BW) (by have := HX.out; omega)).mono ?_
      rintro e w3 ⟨u3, b, rfl, k3, N, hbg, hub, hb3⟩
      obtain ⟨a3, cc3, rfl, -⟩ := k3.rd
      have hz1 : Hid (w.heap.size + 2 ≤ w2.heap.size) := R.lt
      replace BW := Below.step BW hb3
      replace R := R.stay hb3
      have HZ3 : Hid (w2.heap.size ≤ w3.heap.size) := hb3.size
      have HBG : Hid (w2.heap.size < b) := hbg
      have HUB : Hid (∀ k, (Value.slice a3 x.1.length cc3).ownBlock = some k → k < b) := hub
      clear A a0 a1 a2 hb3 hbg hub
      go_wp2_with fail
      refine (openNext_c x a3 p2 cc3 q2 b r w3 N (Rd.own k3) (HR2.out.keep BW) h5 hl HI32.out hs0 (by omega) (HT.out.keep BW) (HH.out.keep BW)).mono ?_
      rintro e w4 ⟨u4, rfl, k4, N4, hg4⟩
      obtain ⟨a4, cc4, rfl, -⟩ := k4.rd
      have hbb : Hid (w.heap.size + 2 < b) := by have := hz1.out; have := HBG.out; show _ < _; omega
      have HBL : Hid (b < w3.heap.size) := N.lt
      replace R := R.other hg4 (fun e => by cases e; have := hbb.out; omega)
      replace k3 := k3.other hg4 (fun k hk e => by have h := HUB.out k hk; cases e; omega)
      replace BW := BW.grown hg4 BW.size (fun k e => by cases e; have := hbb.out; omega)
      have HZ4 : Hid (w3.heap.size ≤ w4.heap.size) := hg4.size
      clear N hg4
      have hl5 := alloc_below w4 (.cells #[.int .i64 (oC x r), .slice a4 (oL x r).length cc4] 43)
      have L5 := Arr.new w4 [.int .i64 (oC x r), .slice a4 (oL x r).length cc4] 43
      replace R := R.stay hl5
      replace k3 := k3.stay hl5
      replace k4 := k4.stay hl5
      replace N4 := N4.stay hl5
      replace BW := Below.step BW hl5
      have HZ5 : Hid (w4.heap.size + 1 ≤ (w4.alloc (.cells #[.int .i64 (oC x r), .slice a4 (oL x r).length cc4] 43)).heap.size) := by rw [size_alloc]; exact Nat.le_refl _
      clear hl5
      generalize e5 : w4.alloc (.cells #[.int .i64 (oC x r), .slice a4 (oL x r).length cc4] 43) = w5 at *
      have l0 := (L5.cell 0).trans (show _ = some _ from rfl)
      have l1 := (L5.cell 1).trans (show _ = some _ from rfl)
      by_cases hc : oC x r = 0
      · rw [if_pos hc] at N4
        have HC : Hid (oC x r = 0) := hc
        have d0 : (oC x r != 0) = false := by rw [bne_eq_false_iff_eq]; exact hc
        clear hc HE3
        go_wp2_with fail
        refine (readContent_c a4 cc4 (oL x r) w5 (Rd.own k4) (by have := HOL.out; omega)).mono ?_
        rintro e w6 ⟨u6, rfl, k6, hb6⟩
        obtain ⟨a6, cc6, rfl, -⟩ := k6.rd
        have HK6 : Hid (∀ k, (Value.slice a6 (inL (oL x r)).length cc6).ownBlock = some k → k ≠ w6.heap.size) := fun k hk e => by have h := k6.lt k hk; omega
        replace R := R.stay hb6
        replace N4 := N4.stay hb6
        replace k3 := k3.stay hb6
        replace BW := Below.step BW hb6
        have HZ6 : Hid (w5.heap.size ≤ w6.heap.size) := hb6.size
        clear hb6 k4 L5 l0 l1
        have hap : Hid (∀ k, (Value.slice a6 (inL (oL x r)).length cc6).ownBlock = some k → (Value.slice a3 x.1.length cc3).ownBlock ≠ some k) := fun k hk e => by
          have h1 := k6.ge k hk
          have h2 := HUB.out k e
          have h3 := HBL.out
          have h4 := HZ4.out
          have h5 := HZ5.out
          omega
        have k66 : Own w6 (w.heap.size + 2) (.slice a6 (inL (oL x r)).length cc6) (inL (oL x r)) := k6.lower (by have := hz1.out; have := HZ3.out; have := HZ4.out; have := HZ5.out; omega)
        have k33 : Own w6 (w.heap.size + 2) (.slice a3 x.1.length cc3) x.1 := k3.lower hz1.out
        clear k3 k6 e5
        by_cases hi : inC (oL x r) = 0
        · have HE : Hid (hrD x r = (0, inK (oL x r), inL (oL x r), nextS x)) := HE5.out HC.out hi
          have HI : Hid (inC (oL x r) = 0) := hi
          have d1 : (inC (oL x r) == 0) = true := by rw [beq_iff_eq]; exact hi
          clear hi HE4 HE5
          have hA := alloc_below w6 (.cells #[.int .i64 (inC (oL x r)), .int .i64 (inK (oL x r)), .slice a6 (inL (oL x r)).length cc6, .slice none 0 0, .int .i64 0, .int .i64 0] 38)
          have hB := alloc_below w6 (.cells #[.int .i64 (inC (oL x r)), .int .i64 (inK (oL x r)), .slice a6 (inL (oL x r)).length cc6, .slice a3 x.1.length cc3, .int .i64 (x.2.1 + 1), .int .i64 x.2.2] 38)
          replace N4 := N4.stay hA
          replace R := R.stay hB
          have n0 := (N4.cell 0).trans (show _ = some _ from rfl)
          have n1 := (N4.cell 1).trans (show _ = some _ from rfl)
          have n2 := (N4.cell 2).trans (show _ = some _ from rfl)
          have c0 := (R.cell 0).trans (show _ = some _ from rfl)
          have c1 := (R.cell 1).trans (show _ = some _ from rfl)
          have c2 := (R.cell 2).trans (show _ = some _ from rfl)
          have c3 := (R.cell 3).trans (show _ = some _ from rfl)
          have c4 := (R.cell 4).trans (show _ = some _ from rfl)
          have c5 := (R.cell 5).trans (show _ = some _ from rfl)
          have fc := R.frozen
          have K6 : Hid (Own _ (w.heap.size + 2) (.slice a6 (inL (oL x r)).length cc6) (inL (oL x r))) := k66.stay hB
          have K3 : Hid (Own _ (w.heap.size + 2) (.slice a3 x.1.length cc3) x.1) := k33.stay hB
          have B8 : Hid (Below w.heap.size w _) := Below.step BW hB
          clear R N4 k66 k33 BW hA hB HX HI32 HOL HT HH HR HR2 HK6 HZ3 HZ4 HZ5 HZ6 HBG HUB HBL hbb hq1 hq2 h5 hb hl hs0 hs1 HC KF d0
          go_wp2_with fail
          refine bodyPost_ret (v := .agg #[.int .i64 (inC (oL x r)), .int .i64 (inK (oL x r)), .slice a6 (inL (oL x r)).length cc6, .slice a3 x.1.length cc3, .int .i64 (x.2.1 + 1), .int .i64 x.2.2]) (by simp [results, Tryz.results11, go_sem, c0, c1, c2, c3, c4, c5]) rfl ?_
          rw [HE.out, show ((0, inK (oL x r), inL (oL x r), nextS x) : RecordResultD) = (inC (oL x r), inK (oL x r), inL (oL x r), nextS x) by rw [HI.out]]
          exact ⟨[.int .i64 (inC (oL x r)), .int .i64 (inK (oL x r)), .slice a6 (inL (oL x r)).length cc6, .slice a3 x.1.length cc3, .int .i64 (x.2.1 + 1), .int .i64 x.2.2], _, rfl, record_apartH (s := nextS x) (((((((K6.out.set (Nat.lt_succ_self _) _).set (Nat.lt_succ_self _) _).set (Nat.lt_succ_self _) _).set (Nat.lt_succ_self _) _).set (Nat.lt_succ_self _) _).set (Nat.lt_succ_self _) _).lower (Nat.le_add_right _ 2)) (((((((K3.out.set (Nat.lt_succ_self _) _).set (Nat.lt_succ_self _) _).set (Nat.lt_succ_self _) _).set (Nat.lt_succ_self _) _).set (Nat.lt_succ_self _) _).set (Nat.lt_succ_self _) _).lower (Nat.le_add_right _ 2)) hap.out, ((((((B8.out.setCell (Nat.le_succ _) _).setCell (Nat.le_succ _) _).setCell (Nat.le_succ _) _).setCell (Nat.le_succ _) _).setCell (Nat.le_succ _) _).setCell (Nat.le_succ _) _)⟩
        · have HE : Hid (hrD x r = badR (inC (oL x r))) := HE4.out HC.out hi
          have HIL : Hid (inL (oL x r) = []) := by show _ = _; rw [inL, if_neg hi]
          have HIK : Hid (inK (oL x r) = 0) := by show _ = _; rw [inK, if_neg hi]
          have d1 : (inC (oL x r) == 0) = false := by rw [beq_eq_false_iff_ne]; exact hi
          clear hi HE4 HE5
          have hA := alloc_below w6 (.cells #[.int .i64 (inC (oL x r)), .int .i64 (inK (oL x r)), .slice a6 (inL (oL x r)).length cc6, .slice none 0 0, .int .i64 0, .int .i64 0] 38)
          replace R := R.stay hA
          have c0 := (R.cell 0).trans (show _ = some _ from rfl)
          have c1 := (R.cell 1).trans (show _ = some _ from rfl)
          have c2 := (R.cell 2).trans (show _ = some _ from rfl)
          have c3 := (R.cell 3).trans (show _ = some _ from rfl)
          have c4 := (R.cell 4).trans (show _ = some _ from rfl)
          have c5 := (R.cell 5).trans (show _ = some _ from rfl)
          have fc := R.frozen
          have K6 : Hid (Own _ (w.heap.size + 2) (.slice a6 (inL (oL x r)).length cc6) (inL (oL x r))) := k66.stay hA
          have B8 : Hid (Below w.heap.size w _) := Below.step BW hA
          clear R N4 k66 k33 BW hA HX HI32 HOL HT HH HR HR2 HK6 HZ3 HZ4 HZ5 HZ6 HBG HUB HBL hbb hq1 hq2 h5 hb hl hs0 hs1 HC KF d0
          go_wp2_with fail
          refine bodyPost_ret (v := .agg #[.int .i64 (inC (oL x r)), .int .i64 (inK (oL x r)), .slice a6 (inL (oL x r)).length cc6, .slice none 0 0, .int .i64 0, .int .i64 0]) (by simp [results, Tryz.results11, go_sem, c0, c1, c2, c3, c4, c5]) rfl ?_
          rw [HE.out, show badR (inC (oL x r)) = (inC (oL x r), inK (oL x r), inL (oL x r), zeroSt) by rw [HIK.out, HIL.out]; rfl]
          exact ⟨[.int .i64 (inC (oL x r)), .int .i64 (inK (oL x r)), .slice a6 (inL (oL x r)).length cc6, .slice none 0 0, .int .i64 0, .int .i64 0], _, rfl, record_apartH (s := zeroSt) (((((((K6.out.set (Nat.lt_succ_self _) _).set (Nat.lt_succ_self _) _).set (Nat.lt_succ_self _) _).set (Nat.lt_succ_self _) _).set (Nat.lt_succ_self _) _).set (Nat.lt_succ_self _) _).lower (Nat.le_add_right _ 2)) (Own_nil _ _) (fun k _ e => by simp [Value.ownBlock] at e), ((((((B8.out.setCell (Nat.le_succ _) _).setCell (Nat.le_succ _) _).setCell (Nat.le_succ _) _).setCell (Nat.le_succ _) _).setCell (Nat.le_succ _) _).setCell (Nat.le_succ _) _)⟩
      · have HE : Hid (hrD x r = badR (oC x r)) := HE3.out hc
        have d0 : (oC x r != 0) = true := by rw [bne_iff_ne]; exact hc
        clear hc HE3 HE4 HE5
        have c0 := (R.cell 0).trans (show _ = some _ from rfl)
        have c1 := (R.cell 1).trans (show _ = some _ from rfl)
        have c2 := (R.cell 2).trans (show _ = some _ from rfl)
        have c3 := (R.cell 3).trans (show _ = some _ from rfl)
        have c4 := (R.cell 4).trans (show _ = some _ from rfl)
        have c5 := (R.cell 5).trans (show _ = some _ from rfl)
        have fc := R.frozen
        clear R N4 k3 k4 L5
        go_wp2_with fail
        exact bodyPost_ret (v := .agg #[.int .i64 (oC x r), .int .i64 0, .slice none 0 0, .slice none 0 0, .int .i64 0, .int .i64 0]) (by simp [results, Tryz.results11, go_sem, c0, c1, c2, c3, c4, c5]) rfl ⟨[.int .i64 (oC x r), .int .i64 0, .slice none 0 0, .slice none 0 0, .int .i64 0, .int .i64 0], [], rfl, by rw [HE.out]; exact badR_own _ _ _, ((((((BW.setCell (Nat.le_succ _) _).setCell (Nat.le_succ _) _).setCell (Nat.le_succ _) _).setCell (Nat.le_succ _) _).setCell (Nat.le_succ _) _).setCell (Nat.le_succ _) _)⟩
  · have HE : Hid (hrD x r = badR (askC x)) := by show _ = _; unfold hrD hrC; rw [if_neg ha, if_neg ha]
    have hne : (askC x != 0) = true := by rw [bne_iff_ne]; exact ha
    clear ha
    generalize askC x = ac at *
    go_enter Tryz.func11, Tryz.ntmps11
    go_wp2_with fail
    refine (KF.out _).mono ?_
    rintro e w1 ⟨rfl, hb1⟩
    replace BW := Below.step BW hb1
    replace R := R.stay hb1
    replace A := A.stay hb1
    clear hb1
    have c0 := (R.cell 0).trans (show _ = some _ from rfl)
    have c1 := (R.cell 1).trans (show _ = some _ from rfl)
    have c2 := (R.cell 2).trans (show _ = some _ from rfl)
    have c3 := (R.cell 3).trans (show _ = some _ from rfl)
    have c4 := (R.cell 4).trans (show _ = some _ from rfl)
    have c5 := (R.cell 5).trans (show _ = some _ from rfl)
    have fc := R.frozen
    clear R A
    go_wp2_with fail
    exact bodyPost_ret (v := .agg #[.int .i64 ac, .int .i64 0, .slice none 0 0, .slice none 0 0, .int .i64 0, .int .i64 0]) (by simp [results, Tryz.results11, go_sem, c0, c1, c2, c3, c4, c5]) rfl ⟨[.int .i64 ac, .int .i64 0, .slice none 0 0, .slice none 0 0, .int .i64 0, .int .i64 0], [], rfl, by rw [HE.out]; exact badR_own _ _ _, ((((((BW.setCell (Nat.le_succ _) _).setCell (Nat.le_succ _) _).setCell (Nat.le_succ _) _).setCell (Nat.le_succ _) _).setCell (Nat.le_succ _) _).setCell (Nat.le_succ _) _)⟩
end Go.Proofs.YtdbpnibcblelbaaGreatDoor
