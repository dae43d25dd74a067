/- Whether a context is on a list, the faults of contexts and of a session, where a certificate is held, in the specification, at every argument. What was there stays. -/
import Derived.Test.YthiabbgkfmopiaaGreatSes
import Derived.Test.YthiabbgkfmopiaaGreatJoint17
import Derived.Test.YthiabbgkfmopiaaGreatJoint4
import Derived.Test.YthiabbgkfmopiaaGreatPickG
import Derived.Test.YthiabbgkfmopiaaGreatJoint12
import Derived.Test.YthiabbgkfmopiaaGreatJoint7
import Derived.BigQuiet
namespace Go.Proofs.YthiabbgkfmopiaaGreat
open Go.ChangeShapes Go.WideShapes Go.ChangeAt Go.RowKit

theorem RdL.takeS {α : Type} {c : Cod α} {w : World} {p : Option Addr} {q : Nat} {l : List α} (h : RdL c w p q l) (n : Nat) : RdL c w p q (l.take n) := by
  obtain ⟨h1, h2, h3, h4⟩ := h
  refine ⟨by rw [List.length_take]; omega, h2, h3, fun hp => ?_⟩
  obtain ⟨b, o, rfl, hc⟩ := h4 (by rw [List.length_take] at hp; omega)
  refine ⟨b, o, rfl, fun i a hi => hc i a ?_⟩
  have hlt := (List.getElem?_eq_some_iff.1 hi).1
  rw [List.length_take] at hlt
  rw [List.getElem?_take_of_lt (by omega)] at hi
  exact hi
set_option maxRecDepth 4000 in
set_option maxHeartbeats 1000000 in
theorem l14Has_c (l : List (List UInt8)) (c : List UInt8) (p pc : Option Addr) (q qc : Nat) (w : World) (hr : RdL bytC w p q l) (hc : Rd w pc qc c) :
    Calls Tryz.prog 98 #[.slice p l.length q, .slice pc c.length qc] w fun e w' => e = .returned (.bool (hsB l c)) ∧ Below w.heap.size w w' := by
  have HR : Hid (RdL bytC w p q l) := hr
  have HC : Hid (Rd w pc qc c) := hc
  have hq1 : l.length ≤ q := hr.1
  have hq2 : q ≤ 2 ^ 63 - 1 := hr.2.1
  clear hr hc
  go_enter Tryz.func98, Tryz.ntmps98
  go_wp2_with fail
  go_loopw [5] (fun i wr => ∃ k : Nat, k ≤ l.length ∧ i = .int .i64 k ∧ hsB (l.take k) c = false ∧ Below w.heap.size w wr)
    (fun i _ => l.length - (intOf i).toNat)
  case atStart => exact ⟨0, Nat.zero_le _, rfl, by simp [hsB], Below.refl _ _⟩
  case round =>
    obtain ⟨k, hk, rfl, hn, BW⟩ := hrel
    by_cases hlt : k < l.length
    · have hI : (k : Int) < (l.length : Int) := by omega
      obtain ⟨b, o, e1, hcc⟩ := (HR.out.keep BW).2.2.2 (by omega)
      subst e1
      obtain ⟨a, ha⟩ : ∃ a, l[k]? = some a := ⟨l[k], by simp [hlt]⟩
      obtain ⟨us, hrep, hcell⟩ := hcc k a ha
      obtain ⟨pa, qa, rfl, ra⟩ := blk_rep hrep
      have c0 := hcell 0 _ rfl
      rw [show bytC.n = 1 from rfl, Nat.mul_one, Nat.add_zero] at c0
      have KS := l1Same_c pa pc qa qc a c wr ra (HC.out.keep BW)
      have H0 : Hid (sameB a c = true → hsB l c = true) := fun h => hsB_iff.2 (sameB_eq.1 h ▸ List.mem_of_getElem? ha)
      have H1 : Hid (sameB a c = false → hsB (l.take (k + 1)) c = false) := fun h => by rw [hsB_take ha, hn, h]; rfl
      clear hcc hcell hrep ra hn
      go_wp2_with fail
      refine KS.mono ?_
      rintro e w2 ⟨rfl, hw⟩
      subst w2
      cases hs : sameB a c
      · have h1 := H1.out hs
        clear KS c0 H0 H1 hs
        go_wp2_with fail
        go_roundw
        case rel => exact ⟨k + 1, by omega, by go_num, h1, BW⟩
        case measure => simp [intOf]; omega
      · have h1 : Hid (hsB l c = true) := H0.out hs
        clear KS c0 H0 H1
        go_wp2_with fail
        go_ret
        exact ⟨by rw [h1.out]; rfl, BW⟩
    · have e : k = l.length := by omega
      subst e
      rw [List.take_length] at hn
      have h1 : Hid (hsB l c = false) := hn
      clear hn
      go_wp2_with fail
      go_ret
      exact ⟨by rw [h1.out]; rfl, BW⟩
set_option maxRecDepth 4000 in
set_option maxHeartbeats 1000000 in
theorem l14Contexts_c (l : List (List UInt8)) (p : Option Addr) (q : Nat) (w : World) (hr : RdL bytC w p q l) :
    Calls Tryz.prog 83 #[.slice p l.length q] w fun e w' => e = .returned (.int .i64 (cxC l)) ∧ Below w.heap.size w w' := by
  have HR : Hid (RdL bytC w p q l) := hr
  have hq1 : l.length ≤ q := hr.1
  have hq2 : q ≤ 2 ^ 63 - 1 := hr.2.1
  clear hr
  go_enter Tryz.func83, Tryz.ntmps83
  go_wp2_with fail
  go_loopw [3] (fun i wr => ∃ k : Nat, k ≤ l.length ∧ i = .int .i64 k ∧ cxC l = cxG (l.take k) (l.drop k) ∧ Below w.heap.size w wr)
    (fun i _ => l.length - (intOf i).toNat)
  case atStart => exact ⟨0, Nat.zero_le _, rfl, rfl, Below.refl _ _⟩
  case round =>
    obtain ⟨k, hk, rfl, hn, BW⟩ := hrel
    by_cases hlt : k < l.length
    · have hI : (k : Int) < (l.length : Int) := by omega
      have hI2 : ¬ ((l.length : Int) < (k : Int)) := by omega
      have hkq : (k : Int) ≤ (q : Int) := by omega
      obtain ⟨b, o, e1, hcc⟩ := (HR.out.keep BW).2.2.2 (by omega)
      have HT : Hid (RdL bytC wr p q (l.take k)) := (HR.out.keep BW).takeS k
      have HTl : Hid ((l.take k).length = k) := by show _ = _; rw [List.length_take]; omega
      subst e1
      obtain ⟨a, ha⟩ : ∃ a, l[k]? = some a := ⟨l[k], by simp [hlt]⟩
      obtain ⟨us, hrep, hcell⟩ := hcc k a ha
      obtain ⟨pa, qa, rfl, ra⟩ := blk_rep hrep
      have c0 := hcell 0 _ rfl
      rw [show bytC.n = 1 from rfl, Nat.mul_one, Nat.add_zero] at c0
      have KC := l13Context_c pa qa a wr
      have KH : Hid (∀ W, Below wr.heap.size wr W → Calls Tryz.prog 98 #[.slice (some ⟨b, o, none⟩) k q, .slice pa a.length qa] W fun e w' => e = .returned (.bool (hsB (l.take k) a)) ∧ Below W.heap.size W w') := fun W hW => by
        have h := l14Has_c (l.take k) a (some ⟨b, o, none⟩) pa q qa W (HT.out.keep hW) (ra.keep hW)
        rw [HTl.out] at h
        exact h
      have H0 : Hid (ctxB a = false → cxC l = 2) := fun h => hn.trans (cxG_bad ha h)
      have H1 : Hid (ctxB a = true → hsB (l.take k) a = true → cxC l = 6) := fun h h2 => hn.trans (cxG_taken ha h h2)
      have H2 : Hid (ctxB a = true → hsB (l.take k) a = false → cxC l = cxG (l.take (k + 1)) (l.drop (k + 1))) := fun h h2 => hn.trans (cxG_step ha h h2)
      clear hcc hcell hrep hn HT HTl
      go_wp2_with fail
      refine KC.mono ?_
      rintro e w2 ⟨rfl, hw⟩
      subst w2
      cases hs : ctxB a
      · have h1 : Hid (cxC l = 2) := H0.out hs
        clear KC KH c0 H0 H1 H2 ra
        go_wp2_with fail
        go_ret
        exact ⟨by rw [h1.out]; rfl, BW⟩
      · have H3 := H1.out hs
        have H4 := H2.out hs
        clear KC H0 H1 H2 hs
        go_wp2_with fail
        replace c0 := HW.at c0
        have hne := HW.some wr
        refine wp_region_class rfl (by kernel_rfl) ?_
        repeat (go_big_quiet_step ((go_at_call 98; exact Calls.stay (KH.out _ (HW.h _)))))
        refine wpQuiet_nil ?_
        intro w' hw'
        have BW2 := Below.step BW (HW.out hw')
        cases hs : hsB (l.take k) a
        · have h1 : Hid _ := H4 hs
          clear KH c0 H3 H4 hs BW hne hw' ra
          go_wp2_with fail
          go_roundw
          case rel => exact ⟨k + 1, by omega, by go_num, h1.out, BW2⟩
          case measure => simp [intOf]; omega
        · have h1 : Hid (cxC l = 6) := H3 hs
          clear KH c0 H3 H4 hs BW hne hw' ra
          go_wp2_with fail
          go_ret
          exact ⟨by rw [h1.out]; rfl, BW2⟩
    · have e : k = l.length := by omega
      subst e
      rw [cxG_end] at hn
      have h1 : Hid (cxC l = 0) := hn
      clear hn
      go_wp2_with fail
      go_ret
      exact ⟨by rw [h1.out]; rfl, BW⟩
/-- A session that lies from cell o on. -/
structure AtSes (w : World) (b o : Nat) (p1 : Option Addr) (q1 : Nat) (p3 : Option Addr) (q3 : Nat) (p4 : Option Addr) (q4 : Nat) (p5 : Option Addr) (q5 : Nat) (x : SesD) : Prop where
  c0 : w.cell? ⟨b, o, none⟩ = some (.slice p1 x.1.length q1)
  c1 : w.cell? ⟨b, o + 1, none⟩ = some (.int .i64 x.2.1)
  c2 : w.cell? ⟨b, o + 2, none⟩ = some (.slice p3 x.2.2.1.length q3)
  c3 : w.cell? ⟨b, o + 3, none⟩ = some (.slice p4 x.2.2.2.1.length q4)
  c4 : w.cell? ⟨b, o + 4, none⟩ = some (.slice p5 x.2.2.2.2.length q5)
theorem AtSes.keep {w w' : World} {b o : Nat} {p1 p3 p4 p5 : Option Addr} {q1 q3 q4 q5 : Nat} {x : SesD} (h : AtSes w b o p1 q1 p3 q3 p4 q4 p5 q5 x) (hb : Below w.heap.size w w') : AtSes w' b o p1 q1 p3 q3 p4 q4 p5 q5 x :=
  ⟨cell_keep h.c0 hb, cell_keep h.c1 hb, cell_keep h.c2 hb, cell_keep h.c3 hb, cell_keep h.c4 hb⟩
theorem AtSes.new (w : World) {t : TypeId} {p1 p3 p4 p5 : Option Addr} {q1 q3 q4 q5 : Nat} {x : SesD} : AtSes (w.alloc (.cells #[.slice p1 x.1.length q1, .int .i64 x.2.1, .slice p3 x.2.2.1.length q3, .slice p4 x.2.2.2.1.length q4, .slice p5 x.2.2.2.2.length q5] t)) w.heap.size 0 p1 q1 p3 q3 p4 q4 p5 q5 x := by
  have R := Arr.new w [.slice p1 x.1.length q1, .int .i64 x.2.1, .slice p3 x.2.2.1.length q3, .slice p4 x.2.2.2.1.length q4, .slice p5 x.2.2.2.2.length q5] t
  exact ⟨(R.cell 0).trans rfl, (R.cell 1).trans rfl, (R.cell 2).trans rfl, (R.cell 3).trans rfl, (R.cell 4).trans rfl⟩
set_option maxRecDepth 4000 in
set_option maxHeartbeats 2000000 in
theorem l14Fault_c (b o : Nat) (p1 p3 p4 p5 : Option Addr) (q1 q3 q4 q5 : Nat) (x : SesD) (w : World) (hA : AtSes w b o p1 q1 p3 q3 p4 q4 p5 q5 x) (r3 : RdL bytC w p3 q3 x.2.2.1) (r4 : RdL bytC w p4 q4 x.2.2.2.1) (r5 : RdL holdC w p5 q5 x.2.2.2.2) :
    Calls Tryz.prog 67 #[.pointer (some ⟨b, o, none⟩)] w fun e w' => e = .returned (.int .i64 (seF hdS x)) ∧ Below w.heap.size w w' := by
  have HA : Hid (AtSes w b o p1 q1 p3 q3 p4 q4 p5 q5 x) := hA
  have c0 := hA.c0
  have c1 := hA.c1
  have HB : Hid (b < w.heap.size) := World.block_lt_of_cell? w _ c0
  have R3 : Hid (RdL bytC w p3 q3 x.2.2.1) := r3
  have R4 : Hid (RdL bytC w p4 q4 x.2.2.2.1) := r4
  have R5 : Hid (RdL holdC w p5 q5 x.2.2.2.2) := r5
  have HE : Hid (seF hdS x = if akC x.1 x.2.1 = 0 then (if lnB x then (if cxC (x.2.2.1 ++ x.2.2.2.1) = 0 then hdS x.2.2.2.2 else cxC (x.2.2.1 ++ x.2.2.2.1)) else 2) else akC x.1 x.2.1) := rfl
  have HL : Hid (lnB x = decide (x.2.2.1.length ≤ 6 ∧ x.2.2.2.1.length ≤ 40 ∧ x.2.2.2.2.length ≤ 6)) := rfl
  have KA : Hid (∀ W, Calls Tryz.prog 82 #[.slice p1 x.1.length q1, .int .i64 x.2.1] W fun e w' => e = .returned (.int .i64 (akC x.1 x.2.1)) ∧ w' = W) := fun W => l13Asked_c p1 q1 x.1 x.2.1 W
  clear hA r3 r4 r5
  go_enter Tryz.func67, Tryz.ntmps67
  go_wp2_with fail
  replace c0 := HW.at c0
  replace c1 := HW.at c1
  have hne := HW.some w
  refine wp_region_class rfl (by kernel_rfl) ?_
  repeat (go_big_quiet_step ((go_at_call 82; exact Calls.stay_same (KA.out _))))
  refine wpQuiet_nil ?_
  intro w1 hw1
  have BW := HW.out hw1
  clear hw1 hne c0 c1 KA
  by_cases hk : akC x.1 x.2.1 = 0
  case neg =>
    have dk : (akC x.1 x.2.1 != 0) = true := by rw [bne_iff_ne]; exact hk
    have hz : Hid (seF hdS x = akC x.1 x.2.1) := by show _ = _; rw [HE.out, if_neg hk]
    clear HE HL hk
    go_wp2_with fail
    go_ret
    exact ⟨by rw [hz.out]; rfl, BW⟩
  have A1 := HA.out.keep BW
  have c2 := A1.c2
  have c3 := A1.c3
  have c4 := A1.c4
  rw [hk]
  by_cases hl : lnB x = true
  case neg =>
    have hz : Hid (seF hdS x = 2) := by show _ = _; rw [HE.out, if_pos hk, if_neg hl]
    have hl2 : ¬ (x.2.2.1.length ≤ 6 ∧ x.2.2.2.1.length ≤ 40 ∧ x.2.2.2.2.length ≤ 6) := fun h => hl (by rw [HL.out]; exact decide_eq_true h)
    clear HE HL hk A1 hl
    by_cases h1 : x.2.2.1.length ≤ 6
    · have i1 : ¬ (6 < (x.2.2.1.length : Int)) := by omega
      by_cases h2 : x.2.2.2.1.length ≤ 40
      · have i2 : ¬ (40 < (x.2.2.2.1.length : Int)) := by omega
        have i3 : 6 < (x.2.2.2.2.length : Int) := by omega
        clear hl2 h1 h2
        go_wp2_with fail
        go_ret
        exact ⟨by rw [hz.out]; rfl, BW⟩
      · have i2 : 40 < (x.2.2.2.1.length : Int) := by omega
        clear hl2 h1 h2
        go_wp2_with fail
        go_ret
        exact ⟨by rw [hz.out]; rfl, BW⟩
    · have i1 : 6 < (x.2.2.1.length : Int) := by omega
      clear hl2 h1
      go_wp2_with fail
      go_ret
      exact ⟨by rw [hz.out]; rfl, BW⟩
  have hln := lnB_iff.1 hl
  have i1 : ¬ (6 < (x.2.2.1.length : Int)) := by omega
  have i2 : ¬ (40 < (x.2.2.2.1.length : Int)) := by omega
  have i3 : ¬ (6 < (x.2.2.2.2.length : Int)) := by omega
  have HN : Hid (x.2.2.1.length ≤ 6 ∧ x.2.2.2.1.length ≤ 40 ∧ x.2.2.2.2.length ≤ 6) := hln
  have HE2 : Hid (seF hdS x = if cxC (x.2.2.1 ++ x.2.2.2.1) = 0 then hdS x.2.2.2.2 else cxC (x.2.2.1 ++ x.2.2.2.1)) := by show _ = _; rw [HE.out, if_pos hk, if_pos hl]
  clear HE HL hk hl hln
  obtain ⟨xa, ra, pa⟩ := (R3.out.keep BW).raw
  obtain ⟨xu, ru, pu⟩ := (R4.out.keep BW).raw
  have RA : Hid (Raw w1 p3 q3 x.2.2.1.length 1 xa) := ra
  have RU : Hid (Raw w1 p4 q4 x.2.2.2.1.length 1 xu) := ru
  have PA : Hid (RepAll bytC w1 (x.2.2.1 ++ x.2.2.2.1) (xa ++ xu)) := pa.append pu
  have OA : Hid (∀ u ∈ xa, u.oneCell' = true) := pa.one
  have OU : Hid (∀ u ∈ xu, u.oneCell' = true) := pu.one
  clear ra ru pa pu
  go_wp2_with fail
  clear A1
  have hbl : b < w1.heap.size := Nat.lt_of_lt_of_le HB.out BW.size
  have g2 := Gen.low_cell (B := w1.heap.size) c2 hbl
  have g3 := Gen.low_cell (B := w1.heap.size) c3 hbl
  have hne := Gen.low_some w1.heap.size w1
  have HBW : Hid (Below w.heap.size w w1) := BW
  refine Gen.wp_region_pick (Gen.low_pre w1.heap.size) [1, 2, 3, 4, 6, 7, 8, 9] 12 4 1 rfl rfl rfl (by kernel_rfl) (by kernel_rfl) (by kernel_rfl) (by kernel_rfl) ?_
  simp only [opsAt, List.getElem?_toArray, List.getElem?_cons_zero, List.getElem?_cons_succ]
  repeat (go_big_quiet_step (fail))
  refine wpQuiet_nil ?_
  clear g2 g3 hne
  refine Gen.wpM_only (i := 0) (by kernel_rfl) ?_
  refine Gen.mOp_make rfl (by go_simp) ?_
  rintro _ ⟨n1, rfl⟩
  have B1 : Below w1.heap.size w1 (w1.drewN n1) := (Gen.low_pre w1.heap.size).drewN _ _
  generalize w1.drewN n1 = V1 at *
  have O1 := World.ownsRow_made (base := w1.heap.size) (e := 51) (size := 1) V1 #[] 0 B1.size (Nat.zero_le _) rfl
  refine ⟨.slice (some ⟨V1.heap.size, 0, none⟩) 0 0, V1.alloc (.cells #[] 51), by go_simp, ⟨⟨_, (Below.refl _ _).alloc B1.size _⟩, rfl⟩, ?_⟩
  replace B1 := B1.alloc B1.size (.cells #[] 51)
  generalize V1.alloc (.cells #[] 51) = V2 at *
  generalize V1.heap.size = g1 at *
  refine Gen.wpM_only (i := 5) (by kernel_rfl) ?_
  refine Gen.mOp_list rfl (by go_simp) (by kernel_rfl) ?_
  rintro _ ⟨n2, rfl⟩
  have B2 : Below w1.heap.size V2 (V2.drewN n2) := (Gen.low_pre w1.heap.size).drewN _ _
  replace O1 := ownsRow_fr (w' := V2.drewN n2) O1 (fun _ _ => rfl)
  replace B1 := B1.trans B2
  clear B2
  generalize V2.drewN n2 = V3 at *
  refine wpList_append_rawB rfl (.tmp 40) (.tmp 44) rfl w1.heap.size _ 0 [] rfl O1 p3 q3 _ xa rfl (RA.out.keep B1) OA.out (by have := HN.out; omega) B1.size ?_
  intro v4 w4 O4 hg4
  rw [Nat.zero_add, List.nil_append] at O4
  have B4 : Below w1.heap.size V3 w4 := (Below.refl w1.heap.size V3).grown hg4 B1.size (fun k hk => (World.ownsRow.lt O1 k hk).1)
  refine ⟨rfl, B4, ?_⟩
  replace B1 := B1.trans B4
  obtain ⟨p4', q4', rfl, -⟩ := ownsRow_raw O4
  clear hg4 O1 B4
  refine Gen.wpM_only (i := 10) (by kernel_rfl) ?_
  refine Gen.mOp_list rfl (by go_simp) (by kernel_rfl) ?_
  rintro _ ⟨n5, rfl⟩
  have B2 : Below w1.heap.size w4 (w4.drewN n5) := (Gen.low_pre w1.heap.size).drewN _ _
  replace O4 := ownsRow_fr (w' := w4.drewN n5) O4 (fun _ _ => rfl)
  replace B1 := B1.trans B2
  clear B2
  generalize w4.drewN n5 = V5 at *
  refine wpList_append_rawB rfl (.tmp 45) (.tmp 49) rfl w1.heap.size _ _ xa rfl O4 p4 q4 _ xu rfl (RU.out.keep B1) OU.out (by have := HN.out; omega) B1.size ?_
  intro v6 w6 O6 hg6
  have B6 : Below w1.heap.size V5 w6 := (Below.refl w1.heap.size V5).grown hg6 B1.size (fun k hk => (World.ownsRow.lt O4 k hk).1)
  refine ⟨rfl, B6, ?_⟩
  replace B1 := B1.trans B6
  obtain ⟨p7, q7, rfl, r7⟩ := ownsRow_raw O6
  clear hg6 O4 B6 O6
  refine Gen.wpM_only (i := 11) (by kernel_rfl) ?_
  refine Gen.mOp_call rfl (by go_simp) 83 _ #[.slice p7 (x.2.2.1.length + x.2.2.2.1.length) q7] (fun w => by go_simp) rfl ?_
  rintro _ ⟨n7, rfl⟩
  have B2 : Below w6.heap.size w6 (w6.drewN n7) := (Gen.low_pre w6.heap.size).drewN _ _
  replace r7 := r7.keep B2
  replace B1 := B1.trans (B2.mono B1.size)
  clear B2
  generalize w6.drewN n7 = V7 at *
  have L7 : (x.2.2.1 ++ x.2.2.2.1).length = x.2.2.1.length + x.2.2.2.1.length := List.length_append
  have RD : RdL bytC V7 p7 q7 (x.2.2.1 ++ x.2.2.2.1) := Raw.rdL (by rw [L7]; exact r7) (PA.out.sees bytC_mono (Sees.of_below B1)) (Sees.of_below (Below.refl _ _)) bytC_mono
  have KC := l14Contexts_c (x.2.2.1 ++ x.2.2.2.1) p7 q7 V7 RD
  rw [L7] at KC
  refine KC.mono ?_
  rintro e w8 ⟨rfl, hb⟩
  refine ⟨_, rfl, ⟨⟨w8, hb.mono B1.size⟩, rfl⟩, ?_⟩
  replace B1 := B1.trans (hb.mono B1.size)
  clear KC RD L7 r7 hb
  refine Gen.wpM_end (by kernel_rfl) rfl (by kernel_rfl) (by decide) ?_
  rintro _ ⟨n9, rfl⟩
  have B2 : Below w1.heap.size w8 (w8.drewN n9) := (Gen.low_pre w1.heap.size).drewN _ _
  replace B1 := B1.trans B2
  clear B2
  generalize w8.drewN n9 = W at *
  simp only [List.drop_succ_cons, List.drop_zero]
  go_simp
  have BB : Below w.heap.size w W := HBW.out.trans (B1.mono HBW.out.size)
  clear B1
  clear BW HBW hbl c2 c3 c4 PA OA OU RA RU
  by_cases hc : cxC (x.2.2.1 ++ x.2.2.2.1) = 0
  case neg =>
    have dk : (cxC (x.2.2.1 ++ x.2.2.2.1) != 0) = true := by rw [bne_iff_ne]; exact hc
    have hz : Hid (seF hdS x = cxC (x.2.2.1 ++ x.2.2.2.1)) := by show _ = _; rw [HE2.out, if_neg hc]
    clear HE2 hc
    go_wp2_with fail
    go_ret
    exact ⟨by rw [hz.out]; rfl, BB⟩
  have HZ : Hid (seF hdS x = hdG (x.2.2.2.2.take 0) (x.2.2.2.2.drop 0)) := by show _ = _; rw [HE2.out, if_pos hc]; rfl
  rw [hc]
  clear HE2 hc HN R3 R4 i1 i2
  obtain ⟨l, hl⟩ : ∃ l, l = x.2.2.2.2 := ⟨_, rfl⟩
  have HLl : Hid (l = x.2.2.2.2) := hl
  rw [← hl] at R5 HZ i3
  have hq1 : l.length ≤ q5 := R5.out.1
  have hq2 : q5 ≤ 2 ^ 63 - 1 := R5.out.2.1
  have HC4 : Hid (∀ V, Below w.heap.size w V → V.cell? ⟨b, o + 4, none⟩ = some (.slice p5 l.length q5)) := fun V hV => by rw [HLl.out]; exact (HA.out.keep hV).c4
  clear hl
  go_wp2_with fail
  go_loopw [5] (fun i wr => ∃ k : Nat, k ≤ l.length ∧ i = .int .i64 k ∧ seF hdS x = hdG (l.take k) (l.drop k) ∧ Below w.heap.size w wr)
    (fun i _ => l.length - (intOf i).toNat)
  case atStart => exact ⟨0, Nat.zero_le _, rfl, HZ.out, BB⟩
  case round =>
    clear BB HZ
    obtain ⟨k, hk, rfl, hn, BW⟩ := hrel
    have c4 := HC4.out wr BW
    by_cases hlt : k < l.length
    · have hI : (k : Int) < (l.length : Int) := by omega
      obtain ⟨b5, o5, e1, hcc⟩ := (R5.out.keep BW).2.2.2 (by omega)
      subst e1
      obtain ⟨a, ha⟩ : ∃ a, l[k]? = some a := ⟨l[k], by simp [hlt]⟩
      obtain ⟨us, hrep, hcell⟩ := hcc k a ha
      obtain rfl := hold_rep hrep
      have d0 := hcell 0 _ rfl
      have d1 := hcell 1 _ rfl
      rw [show holdC.n = 2 from rfl] at d0 d1
      rw [Nat.add_zero] at d0
      have HO : Hid (okH a = (inB a.1 1 99 && inB a.2 0 9999)) := rfl
      have H0 : Hid (okH a = false → seF hdS x = 3) := fun h => hn.trans (hdG_bad ha h)
      have H1 : Hid (okH a = true → laB (l.take k) a = false → seF hdS x = 1) := fun h h2 => hn.trans (hdG_low ha h h2)
      have H2 : Hid (okH a = true → laB (l.take k) a = true → seF hdS x = hdG (l.take (k + 1)) (l.drop (k + 1))) := fun h h2 => hn.trans (hdG_step ha h h2)
      have HCC : Hid _ := hcc
      clear hcell hrep hn hcc
      cases h1 : inB a.1 1 99
      · have hz : Hid (seF hdS x = 3) := H0.out (by rw [HO.out, h1]; rfl)
        clear H0 H1 H2 HO
        go_wp2_with fail
        refine (l1In_c _ _ _ _).mono ?_
        rintro e w2 ⟨rfl, hw⟩
        subst hw
        rw [h1]
        go_wp2_with fail
        go_ret
        exact ⟨by rw [hz.out]; rfl, BW⟩
      · cases h2 : inB a.2 0 9999
        · have hz : Hid (seF hdS x = 3) := H0.out (by rw [HO.out, h1, h2]; rfl)
          clear H0 H1 H2 HO
          go_wp2_with fail
          refine (l1In_c _ _ _ _).mono ?_
          rintro e w2 ⟨rfl, hw⟩
          subst hw
          rw [h1]
          go_wp2_with fail
          refine (l1In_c _ _ _ _).mono ?_
          rintro e w2 ⟨rfl, hw⟩
          subst hw
          rw [h2]
          go_wp2_with fail
          go_ret
          exact ⟨by rw [hz.out]; rfl, BW⟩
        · have H3 := H1.out (by rw [HO.out, h1, h2]; rfl)
          have H4 := H2.out (by rw [HO.out, h1, h2]; rfl)
          clear H0 H1 H2 HO
          go_wp2_with fail
          refine (l1In_c _ _ _ _).mono ?_
          rintro e w2 ⟨rfl, hw⟩
          rw [hw]
          clear hw w2
          rw [h1]
          go_wp2_with fail
          refine (l1In_c _ _ _ _).mono ?_
          rintro e w2 ⟨rfl, hw⟩
          rw [hw]
          clear hw w2
          rw [h2]
          go_wp2_with fail
          have F0 : Hid (∀ nq : Nat, Below w.heap.size w (wr.drewN nq)) := fun nq => BW.trans ⟨rfl, rfl, rfl, Nat.le_refl _, fun _ _ => rfl⟩
          by_cases hk0 : k = 0
          · subst hk0
            have H5 : Hid _ := H4 (laB_zero l a)
            clear H3 H4 HCC
            go_quiet (fail)
            have B2 := F0.out nq
            clear d0 d1 c4 BW
            go_wp2_with fail
            go_roundw
            case rel => exact ⟨1, by omega, by go_num, H5.out, B2⟩
            case measure => simp [intOf]; omega
          · obtain ⟨j, rfl⟩ : ∃ j, k = j + 1 := ⟨k - 1, by omega⟩
            have hI3 : (j : Int) + 1 < (l.length : Int) := by omega
            have hI2 : (j : Int) < (l.length : Int) := by omega
            have hI0 : 0 < (j : Int) + 1 := by omega
            have hW : (j : Int) + 1 - 1 = (j : Int) := by omega
            obtain ⟨a0, ha0⟩ : ∃ a, l[j]? = some a := ⟨l[j], by simp⟩
            obtain ⟨us, hrep, hcell⟩ := HCC.out j a0 ha0
            obtain rfl := hold_rep hrep
            have e0 := hcell 0 _ rfl
            rw [show holdC.n = 2 from rfl, Nat.add_zero] at e0
            rw [laB_at ha0] at H3 H4
            clear hrep hcell HCC hI hk0
            rw [show ((j + 1 : Nat) : Int) = (j : Int) + 1 from Int.natCast_succ j]
            by_cases hr : a0.1 < a.1
            · have H5 : Hid _ := H4 (decide_eq_true hr)
              have hr2 : ¬ a.1 ≤ a0.1 := by omega
              clear H3 H4
              go_quiet (fail)
              have B2 := F0.out nq
              clear d0 d1 c4 e0 BW
              go_wp2_with fail
              go_roundw
              case rel => exact ⟨j + 2, by omega, by go_num, H5.out, B2⟩
              case measure => simp [intOf]; omega
            · have H5 : Hid (seF hdS x = 1) := H3 (decide_eq_false hr)
              have hr2 : a.1 ≤ a0.1 := by omega
              clear H3 H4
              go_quiet (fail)
              have B2 := F0.out nq
              clear d0 d1 c4 e0 BW
              go_wp2_with fail
              go_ret
              exact ⟨by rw [H5.out]; rfl, B2⟩
    · have e : k = l.length := by omega
      subst e
      rw [hdG_end] at hn
      have h1 : Hid (seF hdS x = 0) := hn
      clear hn
      go_wp2_with fail
      go_ret
      exact ⟨by rw [h1.out]; rfl, BW⟩
theorem ho_same {x : SesD} {id now : Int} : hoB hdC x id now = hoB hdS x id now := by
  unfold hoB
  by_cases h : seF hdC x = 0
  · rw [if_pos h, if_pos (se_same.1 h)]
  · rw [if_neg h, if_neg (fun k => h (se_same.2 k))]
end Go.Proofs.YthiabbgkfmopiaaGreat

