/- The contracts of the wire in the specification: l6Fault, MsgFault, l6Pack, PackMsg, l6PackAll, PackMsgs: code and bytes, at every argument. What was there stays. -/
import Derived.Test.YtpbkncliepkhaaaDoorJoinI
import Derived.Test.YtpbkncliepkhaaaDoorSame
import Derived.Test.YtpbkncliepkhaaaDoorJoint4
import Derived.Test.YtpbkncliepkhaaaDoorMsgC
import Derived.Test.YtpbkncliepkhaaaDoorWire
import Derived.Test.YtpbkncliepkhaaaDoorPick
namespace Go.Proofs.YtpbkncliepkhaaaDoor
open Go.ChangeShapes Go.WideShapes Go.ChangeAt Go.RowKit
set_option maxRecDepth 4000 in
set_option maxHeartbeats 400000 in
theorem l6Fault_c (b o n q : Nat) (p : Option Addr) (k : Int) (w : World) (c0 : w.cell? ⟨b, o, none⟩ = some (.int .i64 k)) (c1 : w.cell? ⟨b, o + 1, none⟩ = some (.slice p n q)) :
    Calls Tryd.prog 33 #[.pointer (some ⟨b, o, none⟩)] w fun e w' => e = .returned (.int .i64 (faultW k n)) ∧ w' = w := by
  cases hk : inB k 0 255
  · rw [show faultW k n = 3 by simp [faultW, hk]]
    go_enter Tryd.func33, Tryd.ntmps33
    go_wp2_with fail
    refine (l1In_c _ _ _ _).mono ?_
    rintro e w' ⟨rfl, rfl⟩
    rw [hk]
    go_wp2
    go_ret
    exact ⟨rfl, rfl⟩
  · by_cases hn : n ≤ 160
    · rw [show faultW k n = 0 by simp [faultW, hk, hn]]
      have hnI : ¬ (160 < (n : Int)) := by omega
      go_enter Tryd.func33, Tryd.ntmps33
      go_wp2_with fail
      refine (l1In_c _ _ _ _).mono ?_
      rintro e w' ⟨rfl, rfl⟩
      rw [hk]
      go_wp2
      go_ret
      exact ⟨rfl, rfl⟩
    · rw [show faultW k n = 2 by simp [faultW, hk, hn]]
      have hnI : 160 < (n : Int) := by omega
      go_enter Tryd.func33, Tryd.ntmps33
      go_wp2_with fail
      refine (l1In_c _ _ _ _).mono ?_
      rintro e w' ⟨rfl, rfl⟩
      rw [hk]
      go_wp2
      go_ret
      exact ⟨rfl, rfl⟩
set_option maxRecDepth 4000 in
set_option maxHeartbeats 1000000 in
theorem l6Pack_c (b o q : Nat) (p : Option Addr) (a : MsgD) (w : World) (c0 : w.cell? ⟨b, o, none⟩ = some (.int .i64 a.1)) (c1 : w.cell? ⟨b, o + 1, none⟩ = some (.slice p a.2.length q)) (hr : Rd w p q a.2) (hl : a.2.length ≤ 10000) :
    Calls Tryd.prog 86 #[.pointer (some ⟨b, o, none⟩)] w fun e w' => ∃ u, e = .returned u ∧ Own w' w.heap.size u (packW a.1 a.2) ∧ Below w.heap.size w w' := by
  go_enter Tryd.func86, Tryd.ntmps86
  have C0 := HW.at c0
  have C1 := HW.at c1
  have hne := HW.some w
  go_wp2_with fail
  refine wp_region_pick [0, 1, 2, 3, 4, 6, 7, 8, 9, 10, 12, 13, 14, 15] 16 2 3 rfl rfl rfl (by kernel_rfl) (by kernel_rfl) (by kernel_rfl) (by kernel_rfl) ?_
  simp only [opsAt, List.getElem?_toArray, List.getElem?_cons_zero, List.getElem?_cons_succ]
  repeat (go_big_quiet_step (fail))
  refine wpQuiet_nil ?_
  have hK8 : Hid (∀ V : World, Rd (V.alloc (.cells #[.int .u8 (a.1 % 256)] 5)) (some ⟨V.heap.size, 0, none⟩) 1 [mark8 a.1]) := fun V => rd_one V (mark8 a.1) 5 _ (by rw [mark8_nat])
  refine wpM_two (i := 5) (j := 11) (by kernel_rfl) ?_ ?_
  case' refine_1 =>
    refine mOp_make rfl (by go_simp) ?_
    rintro _ ⟨s1, rfl⟩
    refine ⟨.slice (some ⟨s1.w.heap.size, 0, none⟩) 1 1, s1.w.alloc (.cells #[.int .u8 (a.1 % 256)] 5), by go_simp, ⟨⟨_, alloc_below _ _⟩, rfl⟩, ?_⟩
    refine wpM_only (i := 11) (by kernel_rfl) ?_
    refine mOp_call rfl (by go_simp) 72 _ #[.int .i64 (a.2.length : Int), .int .i64 3] (fun w => by go_simp) rfl ?_
    rintro _ ⟨s2, rfl⟩
    refine (l1Put_c a.2.length 3 _ (by omega) (by decide)).mono ?_
    rintro e w3 ⟨u3, rfl, k3, hb3⟩
    refine ⟨u3, rfl, ⟨⟨_, hb3⟩, rfl⟩, ?_⟩
    refine wpM_end (by kernel_rfl) rfl (by kernel_rfl) (by decide) ?_
    rintro _ ⟨s4, rfl⟩
    have R1 := (((hK8.out s1.w).keep s2.h).keep hb3).keep s4.h
    obtain ⟨p3, q3, rfl, r3⟩ := k3.rd
    have R2 := r3.keep s4.h
    have BW := Below.step (Below.step (Below.step (Below.step s1.h (alloc_below _ _)) s2.h) hb3) s4.h
    generalize s4.w = W at *
    generalize s1.w.heap.size = g8 at *
    clear s4 k3 r3 hb3 s2 s1 hne
  case' refine_2 =>
    refine mOp_call rfl (by go_simp) 72 _ #[.int .i64 (a.2.length : Int), .int .i64 3] (fun w => by go_simp) rfl ?_
    rintro _ ⟨s2, rfl⟩
    refine (l1Put_c a.2.length 3 _ (by omega) (by decide)).mono ?_
    rintro e w3 ⟨u3, rfl, k3, hb3⟩
    refine ⟨u3, rfl, ⟨⟨_, hb3⟩, rfl⟩, ?_⟩
    refine wpM_only (i := 5) (by kernel_rfl) ?_
    refine mOp_make rfl (by go_simp) ?_
    rintro _ ⟨s1, rfl⟩
    refine ⟨.slice (some ⟨s1.w.heap.size, 0, none⟩) 1 1, s1.w.alloc (.cells #[.int .u8 (a.1 % 256)] 5), by go_simp, ⟨⟨_, alloc_below _ _⟩, rfl⟩, ?_⟩
    refine wpM_end (by kernel_rfl) rfl (by kernel_rfl) (by decide) ?_
    rintro _ ⟨s4, rfl⟩
    have R1 := (hK8.out s1.w).keep s4.h
    obtain ⟨p3, q3, rfl, r3⟩ := k3.rd
    have R2 := ((r3.keep s1.h).keep (alloc_below _ (.cells #[.int .u8 (a.1 % 256)] 5))).keep s4.h
    have BW := Below.step (Below.step (Below.step (Below.step s2.h hb3) s1.h) (alloc_below _ (.cells #[.int .u8 (a.1 % 256)] 5))) s4.h
    generalize s4.w = W at *
    generalize s1.w.heap.size = g8 at *
    clear s4 s1 k3 r3 hb3 s2 hne
  all_goals
    simp only [List.drop_succ_cons, List.drop_zero]
    have R3 := hr.keep BW
    have KJ : Hid (Calls Tryd.prog 93 #[.slice (some ⟨W.heap.size, 0, none⟩) 3 3] (W.alloc (.cells #[.slice (some ⟨g8, 0, none⟩) 1 1, .slice p3 3 q3, .slice p a.2.length q] 22)) fun e w' => ∃ u, e = .returned u ∧ Own w' (W.heap.size + 1) u (packW a.1 a.2) ∧ Below (W.alloc (.cells #[.slice (some ⟨g8, 0, none⟩) 1 1, .slice p3 3 q3, .slice p a.2.length q] 22)).heap.size (W.alloc (.cells #[.slice (some ⟨g8, 0, none⟩) 1 1, .slice p3 3 q3, .slice p a.2.length q] 22)) w') := by
      have h := l1Join_c [⟨some ⟨g8, 0, none⟩, 1, [mark8 a.1]⟩, ⟨p3, q3, putB a.2.length 3⟩, ⟨p, q, a.2⟩] W.heap.size 0 3 _ (pcs_three W ⟨some ⟨g8, 0, none⟩, 1, [mark8 a.1]⟩ ⟨p3, q3, putB a.2.length 3⟩ ⟨p, q, a.2⟩ 22 R1 R2 R3) (by rw [flat_three]; simp [putB_len]; omega) (by simp)
      rw [flat_three, show [mark8 a.1] ++ putB a.2.length 3 ++ a.2 = packW a.1 a.2 from rfl, size_alloc] at h
      rw [size_alloc]
      exact h
    have HPL : Hid ((putB a.2.length 3).length = 3) := putB_len _ _
    rw [HPL.out]
    clear C0 C1 R1 R2 R3 c0 c1
    go_simp
    go_wp2_with fail
    refine KJ.out.mono ?_
    rintro e w9 ⟨u9, rfl, k9, hb9⟩
    have BW9 := Below.step (Below.mk BW _) hb9
    have k9' := k9.lower (B' := w.heap.size) (by have := BW.size; omega)
    go_wp2_with fail
    go_ret
    exact ⟨_, rfl, k9', BW9⟩

def pmL (a : MsgD) : List UInt8 := if faultW a.1 a.2.length = 0 then packW a.1 a.2 else []
theorem pmL_len (a : MsgD) : (pmL a).length ≤ 1048576 := by
  unfold pmL; split
  · rename_i h; have := (faultW_zero h).2; rw [packW_len]; omega
  · simp

set_option maxRecDepth 4000 in
set_option maxHeartbeats 1000000 in
theorem l6PackAll_c (l : List MsgD) (p : Option Addr) (q : Nat) (w : World) (hr : RdL msgC w p q l) (h1 : ∀ a ∈ l, a.2.length ≤ 10000) (h2 : (packAll l).length ≤ 1000000) :
    Calls Tryd.prog 66 #[.slice p l.length q] w fun e w' => ∃ u, e = .returned u ∧ Own w' w.heap.size u (packAll l) ∧ Below w.heap.size w w' := by
  have HR : Hid (RdL msgC w p q l) := hr
  have H1 : Hid (∀ a ∈ l, a.2.length ≤ 10000) := h1
  have H2 : Hid ((packAll l).length ≤ 1000000) := h2
  have hq1 : l.length ≤ q := hr.1
  have hq2 : q ≤ 2 ^ 63 - 1 := hr.2.1
  have O1 := none_own8 w w.heap.size (Nat.le_refl _)
  have BW := alloc_below w (.cells #[] 5)
  clear hr h1 h2
  go_enter Tryd.func66, Tryd.ntmps66
  go_wp2
  go_loopw [3, 4] (fun v i wr => ∃ j : Nat, j ≤ l.length ∧ i = .int .i64 j ∧ Own wr w.heap.size v (packAll (l.take j)) ∧ Below w.heap.size w wr)
    (fun _ i _ => l.length - (intOf i).toNat)
  case atStart => exact ⟨0, Nat.zero_le _, rfl, O1, BW⟩
  case round =>
    clear O1 BW
    obtain ⟨j, hj, rfl, ho, BW⟩ := hrel
    obtain ⟨po, qo, rfl, -⟩ := ho.rd
    by_cases hlt : j < l.length
    · have hI : (j : Int) < (l.length : Int) := by omega
      obtain ⟨b, o, e1, hc⟩ := (HR.out.keep BW).2.2.2 (by omega)
      subst e1
      obtain ⟨a, ha⟩ : ∃ a, l[j]? = some a := ⟨l[j], by simp [hlt]⟩
      obtain ⟨us, hrep, hcell⟩ := hc j a ha
      obtain ⟨pa, qa, rfl, ra⟩ := msg_rep hrep
      have c0 := hcell 0 _ rfl
      have c1 := hcell 1 _ rfl
      rw [show msgC.n = 2 from rfl] at c0 c1
      rw [Nat.add_zero] at c0
      have HT : Hid (packAll (l.take (j + 1)) = packAll (l.take j) ++ packW a.1 a.2) := packAll_take ha
      have HLe : Hid ((packAll (l.take j)).length + (packW a.1 a.2).length ≤ 1000000) := by have h := packAll_le l (j + 1); rw [HT.out, List.length_append] at h; have := H2.out; show _ ≤ _; omega
      have KP : Hid (Calls Tryd.prog 86 #[.pointer (some ⟨b, o + j * 2, none⟩)] wr fun e w' => ∃ u, e = .returned u ∧ Own w' wr.heap.size u (packW a.1 a.2) ∧ Below wr.heap.size wr w') := l6Pack_c b (o + j * 2) qa pa a wr c0 c1 ra (H1.out a (List.mem_of_getElem? ha))
      obtain ⟨fs, hfs⟩ : ∃ fs, Hid (fs = packAll (l.take j)) := ⟨_, rfl⟩
      rw [← hfs.out] at ho HT HLe ⊢
      obtain ⟨pw, hpw⟩ : ∃ pw, Hid (pw = packW a.1 a.2) := ⟨_, rfl⟩
      rw [← hpw.out] at KP HT HLe
      clear hc hcell hrep c0 c1
      go_wp2_with fail
      refine KP.out.mono ?_
      rintro e w2 ⟨u2, rfl, k2, hb2⟩
      have ho2 := ho.stay hb2
      have BW2 := Below.step BW hb2
      obtain ⟨p2, q2, rfl, r2⟩ := k2.rd
      clear ho hb2 BW
      go_wp2_with (at_builtin; refine wpList_append_rd rfl (.tmp 12) (.tmp 16) rfl w.heap.size _ fs rfl ho2 p2 q2 pw rfl r2 (by have := HLe.out; omega) BW2.size ?_; intro v3 w3 k3 hg3)
      have BW3 := BW2.grown hg3 BW2.size (fun k hk => ho2.ge k hk)
      rw [← HT.out] at k3
      clear ho2 hg3
      go_roundw
      case rel => exact ⟨j + 1, by omega, by go_num, k3, BW3⟩
      case measure => simp [intOf]; omega
    · have e : j = l.length := by omega
      subst e
      rw [List.take_length] at ho ⊢
      go_wp2
      go_ret
      exact ⟨_, rfl, ho, BW⟩

set_option maxRecDepth 4000 in
set_option maxHeartbeats 1000000 in
theorem specPS_c (l : List MsgD) (p : Option Addr) (q : Nat) (w : World) (hr : RdL msgC w p q l) :
    Calls Tryd.prog 42 #[.slice p l.length q] w fun e w' => ∃ u, e = .returned (.agg #[.int .i64 (psC l), u]) ∧ Own w' w.heap.size u (psL l) ∧ Below w.heap.size w w' := by
  have HR : Hid (RdL msgC w p q l) := hr
  have hq1 : l.length ≤ q := hr.1
  have hq2 : q ≤ 2 ^ 63 - 1 := hr.2.1
  have A0 := Arr.new w [.int .i64 0, .slice none 0 0] 34
  have B0 := alloc_below w (.cells #[.int .i64 0, .slice none 0 0] 34)
  have HC : Hid (psC l = if l.length ≤ 12 then (if firstF l = 0 then (if (packAll l).length ≤ 600 then 0 else 2) else firstF l) else 2) := rfl
  have HPL : Hid (psL l = if psC l = 0 then packAll l else []) := rfl
  clear hr
  by_cases hl : l.length ≤ 12
  · have hlI : ¬ (12 < (l.length : Int)) := by omega
    go_enter Tryd.func42, Tryd.ntmps42
    go_wp2_with fail
    go_loopw [3] (fun i wr => ∃ k : Nat, k ≤ l.length ∧ i = .int .i64 k ∧ (∀ (j : Nat) (b : Int × List UInt8), j < k → l[j]? = some b → faultW b.1 b.2.length = 0) ∧ Arr wr w.heap.size 34 [.int .i64 0, .slice none 0 0] ∧ Below w.heap.size w wr)
      (fun i _ => l.length - (intOf i).toNat)
    case atStart => exact ⟨0, Nat.zero_le _, rfl, fun j b hj => absurd hj (Nat.not_lt_zero _), A0, B0⟩
    case round =>
      clear A0 B0
      obtain ⟨k, hk, rfl, hall, A, BW⟩ := hrel
      by_cases hlt : k < l.length
      · have hI : (k : Int) < (l.length : Int) := by omega
        obtain ⟨b, o, e1, hc⟩ := (HR.out.keep BW).2.2.2 (by omega)
        subst e1
        obtain ⟨a, ha⟩ : ∃ a, l[k]? = some a := ⟨l[k], by simp [hlt]⟩
        obtain ⟨us, hrep, hcell⟩ := hc k a ha
        obtain ⟨pa, qa, rfl, ra⟩ := msg_rep hrep
        have c0 := hcell 0 _ rfl
        have c1 := hcell 1 _ rfl
        rw [show msgC.n = 2 from rfl] at c0 c1
        rw [Nat.add_zero] at c0
        have KF : Hid (Calls Tryd.prog 33 #[.pointer (some ⟨b, o + k * 2, none⟩)] wr fun e w' => e = .returned (.int .i64 (faultW a.1 a.2.length)) ∧ w' = wr) := l6Fault_c b (o + k * 2) a.2.length qa pa a.1 wr c0 c1
        have r0 := A.cell 0
        have r1 := A.cell 1
        have fz := A.frozen
        simp at r0 r1
        clear hc hcell hrep c0 c1
        by_cases hf : faultW a.1 a.2.length = 0
        · have hall2 : Hid (∀ (j : Nat) (b : Int × List UInt8), j < k + 1 → l[j]? = some b → faultW b.1 b.2.length = 0) := fun j b hj hb => by
            by_cases h : j < k
            · exact hall j b h hb
            · rw [show j = k by omega, ha] at hb; cases hb; exact hf
          rw [hf] at KF
          clear hf hall
          go_wp2_with fail
          refine KF.out.mono ?_
          rintro e w2 ⟨rfl, hw⟩
          subst hw
          go_wp2_with fail
          go_roundw
          case rel => exact ⟨k + 1, by omega, by go_num, hall2.out, A, BW⟩
          case measure => simp [intOf]; omega
        · have hFF : Hid (firstF l = faultW a.1 a.2.length) := firstF_at ha hall hf
          have hps : Hid (psC l = faultW a.1 a.2.length) := by show _ = _; rw [HC.out, if_pos hl, if_neg (by rw [hFF.out]; exact hf), hFF.out]
          have hpl : Hid (psL l = []) := by show _ = _; rw [HPL.out, if_neg (by rw [hps.out]; exact hf)]
          obtain ⟨fc, hfc⟩ : ∃ fc, Hid (faultW a.1 a.2.length = fc) := ⟨_, rfl⟩
          have hz : (fc != 0) = true := by rw [bne_iff_ne, ← hfc.out]; exact hf
          rw [hfc.out] at KF hps
          clear hf hall hFF
          go_wp2_with fail
          refine KF.out.mono ?_
          rintro e w2 ⟨rfl, hw⟩
          subst hw
          go_wp2_with fail
          exact bodyPost_ret (v := .agg #[.int .i64 fc, .slice none 0 0]) (by simp [results, Tryd.results42, go_sem, r0, r1]) rfl ⟨_, by rw [hps.out], by rw [hpl.out]; exact Own_nil _ _, (BW.setCell (Nat.le_refl _) _).setCell (Nat.le_refl _) _⟩
      · have e : k = l.length := by omega
        subst e
        have hF0 : Hid (firstF l = 0) := firstF_zero fun j b hb => hall j b (List.getElem?_eq_some_iff.1 hb).1 hb
        have hfa := firstF_all hF0.out
        have hle : Hid ((packAll l).length ≤ 1000000) := by
          have h1 : ∀ (m : List (Int × List UInt8)), (∀ a ∈ m, faultW a.1 a.2.length = 0) → (packAll m).length ≤ 164 * m.length := fun m => by
            induction m with
            | nil => intro _; simp [packAll]
            | cons a m ih =>
              intro h
              rw [packAll_cons, List.length_append, packW_len, List.length_cons]
              have h2 := (faultW_zero (h a List.mem_cons_self)).2
              have h3 := ih fun b hb => h b (List.mem_cons_of_mem _ hb)
              omega
          have h4 := h1 l hfa
          show _ ≤ _
          omega
        have KA : Hid (Calls Tryd.prog 66 #[.slice p l.length q] wr fun e w' => ∃ u, e = .returned u ∧ Own w' wr.heap.size u (packAll l) ∧ Below wr.heap.size wr w') := l6PackAll_c l p q wr (HR.out.keep BW) (fun a ha => by have := (faultW_zero (hfa a ha)).2; omega) hle.out
        clear hall hfa
        go_wp2_with fail
        refine KA.out.mono ?_
        rintro e w2 ⟨u2, rfl, k2, hb2⟩
        have A2 := A.stay hb2
        have BW2 := Below.step BW hb2
        have hlt2 : Hid (w.heap.size < wr.heap.size) := A.lt
        obtain ⟨p2, q2, rfl, -⟩ := k2.rd
        have r0 := A2.cell 0
        have r1 := A2.cell 1
        have fz := A2.frozen
        simp at r0 r1
        by_cases h6 : (packAll l).length ≤ 600
        · have hps : Hid (psC l = 0) := by show _ = _; rw [HC.out, if_pos hl, if_pos hF0.out, if_pos h6]
          have hpl : Hid (psL l = packAll l) := by show _ = _; rw [HPL.out, if_pos hps.out]
          generalize packAll l = pa at *
          have h6I : ¬ (600 < (pa.length : Int)) := by omega
          clear A A2 BW hb2 KA
          go_wp2_with fail
          refine bodyPost_ret (v := .agg #[.int .i64 0, .slice p2 pa.length q2]) (by simp [results, Tryd.results42, go_sem, r0, r1]) rfl ⟨_, by rw [hps.out], ?_, (BW2.setCell (Nat.le_refl _) _).setCell (Nat.le_refl _) _⟩
          rw [hpl.out]
          exact ((k2.set (a := ⟨w.heap.size, 0, none⟩) hlt2.out _).set (a := ⟨w.heap.size, 1, none⟩) hlt2.out _).lower (B' := w.heap.size) (Nat.le_of_lt hlt2.out)
        · have hps : Hid (psC l = 2) := by show _ = _; rw [HC.out, if_pos hl, if_pos hF0.out, if_neg h6]
          have hpl : Hid (psL l = []) := by show _ = _; rw [HPL.out, if_neg (by rw [hps.out]; decide)]
          generalize packAll l = pa at *
          have h6I : 600 < (pa.length : Int) := by omega
          clear A A2 BW hb2 KA
          go_wp2_with fail
          exact bodyPost_ret (v := .agg #[.int .i64 2, .slice none 0 0]) (by simp [results, Tryd.results42, go_sem, r0, r1]) rfl ⟨_, by rw [hps.out], by rw [hpl.out]; exact Own_nil _ _, (BW2.setCell (Nat.le_refl _) _).setCell (Nat.le_refl _) _⟩
  · have hlI : 12 < (l.length : Int) := by omega
    have hps : Hid (psC l = 2) := by show _ = _; rw [HC.out, if_neg hl]
    have hpl : Hid (psL l = []) := by show _ = _; rw [HPL.out, if_neg (by rw [hps.out]; decide)]
    go_enter Tryd.func42, Tryd.ntmps42
    go_wp2
    exact bodyPost_ret (v := .agg #[.int .i64 2, .slice none 0 0]) (by simp [results, Tryd.results42, go_sem]) rfl ⟨_, by rw [hps.out], by rw [hpl.out]; exact Own_nil _ _, alloc_below _ _⟩
end Go.Proofs.YtpbkncliepkhaaaDoor

