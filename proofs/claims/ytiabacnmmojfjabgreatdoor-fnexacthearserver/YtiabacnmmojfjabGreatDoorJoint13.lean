/- The contracts of SameBytes and of what it calls, in the specification and in the program: both answer whether the two slices hold the same bytes. -/
import Derived.Test.YtiabacnmmojfjabGreatDoorJoint4
import Derived.Test.YtiabacnmmojfjabGreatDoorJoint6
import Derived.Test.YtiabacnmmojfjabGreatDoorJoint11
import Derived.Test.YtiabacnmmojfjabGreatDoorMsgC
import Derived.Test.YtiabacnmmojfjabGreatDoorJoint2
import Derived.Test.YtiabacnmmojfjabGreatDoorJoint8
import Derived.Test.YtiabacnmmojfjabGreatDoorJoint10
import Derived.Test.YtiabacnmmojfjabGreatDoorJoint12
import Derived.Handy
import Derived.Deep.AppendLies
namespace Go.Proofs.YtiabacnmmojfjabGreatDoor
open Go.ChangeShapes Go.WideShapes Go.ChangeAt Go.RowKit

def sameB (a b : List UInt8) : Bool := a == b

set_option maxRecDepth 4000 in
set_option maxHeartbeats 1000000 in
theorem l1Same_c (a b : Option Addr) (ca cb : Nat) (xs bs : List UInt8) (w : World) (hra : Rd w a ca xs) (hrb : Rd w b cb bs) :
    Calls Tryz.prog 86 #[.slice a xs.length ca, .slice b bs.length cb] w fun e w' => e = .returned (.bool (sameB xs bs)) ∧ w' = w := by
  have e1 := run_str (P := Tryz.prog) hra (src := 22) (dst := 9) (e := 5) Tryz.underlying22 Tryz.underlying5 Tryz.underlying9
  have e2 := run_str (P := Tryz.prog) hrb (src := 22) (dst := 9) (e := 5) Tryz.underlying22 Tryz.underlying5 Tryz.underlying9
  go_enter Tryz.func86, Tryz.ntmps86
  go_wp2
  go_ret
  rw [strB_list, strB_list]
  exact ⟨rfl, rfl⟩

set_option maxRecDepth 4000 in
set_option maxHeartbeats 1000000 in
theorem bytesEqual_c (a b : Option Addr) (ca cb : Nat) (xs bs : List UInt8) (w : World) (hra : Rd w a ca xs) (hrb : Rd w b cb bs) :
    Calls Tryz.prog 199 #[.slice a xs.length ca, .slice b bs.length cb] w fun e w' => e = .returned (.bool (sameB xs bs)) ∧ w' = w := by
  have e1 := run_str (P := Tryz.prog) hra (src := 22) (dst := 9) (e := 5) Tryz.underlying22 Tryz.underlying5 Tryz.underlying9
  have e2 := run_str (P := Tryz.prog) hrb (src := 22) (dst := 9) (e := 5) Tryz.underlying22 Tryz.underlying5 Tryz.underlying9
  go_enter Tryz.func199, Tryz.ntmps199
  go_wp2
  go_ret
  rw [strB_list, strB_list]
  exact ⟨rfl, rfl⟩


set_option maxRecDepth 4000 in
set_option maxHeartbeats 1000000 in
theorem implSame_c (a b : Option Addr) (ca cb : Nat) (xs bs : List UInt8) (w : World) (hra : Rd w a ca xs) (hrb : Rd w b cb bs) :
    Calls Tryz.prog 180 #[.slice a xs.length ca, .slice b bs.length cb] w fun e w' => e = .returned (.bool (sameB xs bs)) ∧ Below w.heap.size w w' := by
  go_enter Tryz.func180, Tryz.ntmps180
  go_wp2_with fail
  refine (bytesEqual_c a b ca cb xs bs _ hra hrb).mono ?_
  rintro e w1 ⟨rfl, rfl⟩
  go_wp2
  go_ret
  exact ⟨rfl, Below.refl _ _⟩

end Go.Proofs.YtiabacnmmojfjabGreatDoor

/- The contracts of the wire in the specification: l6Fault, MsgFault, l6Pack, PackMsg, l6PackAll, PackMsgs: code and bytes, at every argument. What was there stays. -/
namespace Go.Proofs.YtiabacnmmojfjabGreatDoor
open Go.ChangeShapes Go.WideShapes Go.ChangeAt Go.RowKit
set_option maxRecDepth 4000 in
set_option maxHeartbeats 400000 in
theorem l6Fault_c (b o n q : Nat) (p : Option Addr) (k : Int) (w : World) (c0 : w.cell? ⟨b, o, none⟩ = some (.int .i64 k)) (c1 : w.cell? ⟨b, o + 1, none⟩ = some (.slice p n q)) :
    Calls Tryz.prog 77 #[.pointer (some ⟨b, o, none⟩)] w fun e w' => e = .returned (.int .i64 (faultW k n)) ∧ w' = w := by
  cases hk : inB k 0 255
  · rw [show faultW k n = 3 by simp [faultW, hk]]
    go_enter Tryz.func77, Tryz.ntmps77
    go_wp2_with fail
    refine (l1In_c _ _ _ _).mono ?_
    rintro e w' ⟨rfl, rfl⟩
    rw [hk]
    go_wp2
    go_ret
    exact ⟨rfl, rfl⟩
  · by_cases hn : n ≤ 160
    · rw [show faultW k n = 0 by simp [faultW, hk, hn]]
      have hnI : ¬ (160 < (n : Int)) := by omega
      go_enter Tryz.func77, Tryz.ntmps77
      go_wp2_with fail
      refine (l1In_c _ _ _ _).mono ?_
      rintro e w' ⟨rfl, rfl⟩
      rw [hk]
      go_wp2
      go_ret
      exact ⟨rfl, rfl⟩
    · rw [show faultW k n = 2 by simp [faultW, hk, hn]]
      have hnI : 160 < (n : Int) := by omega
      go_enter Tryz.func77, Tryz.ntmps77
      go_wp2_with fail
      refine (l1In_c _ _ _ _).mono ?_
      rintro e w' ⟨rfl, rfl⟩
      rw [hk]
      go_wp2
      go_ret
      exact ⟨rfl, rfl⟩
set_option maxRecDepth 4000 in
set_option maxHeartbeats 1000000 in
theorem l6Pack_c (b o q : Nat) (p : Option Addr) (a : MsgD) (w : World) (c0 : w.cell? ⟨b, o, none⟩ = some (.int .i64 a.1)) (c1 : w.cell? ⟨b, o + 1, none⟩ = some (.slice p a.2.length q)) (hr : Rd w p q a.2) (hl : a.2.length ≤ 10000) :
    Calls Tryz.prog 137 #[.pointer (some ⟨b, o, none⟩)] w fun e w' => ∃ u, e = .returned u ∧ Own w' w.heap.size u (packW a.1 a.2) ∧ Below w.heap.size w w' := by
  go_enter Tryz.func137, Tryz.ntmps137
  have C0 := HW.at c0
  have C1 := HW.at c1
  have hne := HW.some w
  go_wp2_with fail
  refine wp_region_pick [0, 1, 2, 3, 4, 6, 7, 8, 9, 10, 12, 13, 14, 15] 16 2 3 rfl rfl rfl (by kernel_rfl) (by kernel_rfl) (by kernel_rfl) (by kernel_rfl) ?_
  simp only [opsAt, List.getElem?_toArray, List.getElem?_cons_zero, List.getElem?_cons_succ]
  repeat (go_big_quiet_step (fail))
  refine wpQuiet_nil ?_
  have hK8 : Hid (∀ V : World, Rd (V.alloc (.cells #[.int .u8 (a.1 % 256)] 5)) (some ⟨V.heap.size, 0, none⟩) 1 [mark8 a.1]) := fun V => rd_one V (mark8 a.1) 5 _ (by rw [mark8_nat])
  refine wpM_two (i := 5) (j := 11) (by kernel_rfl) ?_ ?_
  case' refine_1 =>
    refine mOp_make rfl (by go_simp) ?_
    rintro _ ⟨s1, rfl⟩
    refine ⟨.slice (some ⟨s1.w.heap.size, 0, none⟩) 1 1, s1.w.alloc (.cells #[.int .u8 (a.1 % 256)] 5), by go_simp, ⟨⟨_, alloc_below _ _⟩, rfl⟩, ?_⟩
    refine wpM_only (i := 11) (by kernel_rfl) ?_
    refine mOp_call rfl (by go_simp) 83 _ #[.int .i64 (a.2.length : Int), .int .i64 3] (fun w => by go_simp) rfl ?_
    rintro _ ⟨s2, rfl⟩
    refine (l1Put_c a.2.length 3 _ (by omega) (by decide)).mono ?_
    rintro e w3 ⟨u3, rfl, k3, hb3⟩
    refine ⟨u3, rfl, ⟨⟨_, hb3⟩, rfl⟩, ?_⟩
    refine wpM_end (by kernel_rfl) rfl (by kernel_rfl) (by decide) ?_
    rintro _ ⟨s4, rfl⟩
    have R1 := (((hK8.out s1.w).keep s2.h).keep hb3).keep s4.h
    obtain ⟨p3, q3, rfl, r3⟩ := k3.rd
    have R2 := r3.keep s4.h
    have BW := Below.step (Below.step (Below.step (Below.step s1.h (alloc_below _ _)) s2.h) hb3) s4.h
    generalize s4.w = W at *
    generalize s1.w.heap.size = g8 at *
    clear s4 k3 r3 hb3 s2 s1 hne
  case' refine_2 =>
    refine mOp_call rfl (by go_simp) 83 _ #[.int .i64 (a.2.length : Int), .int .i64 3] (fun w => by go_simp) rfl ?_
    rintro _ ⟨s2, rfl⟩
    refine (l1Put_c a.2.length 3 _ (by omega) (by decide)).mono ?_
    rintro e w3 ⟨u3, rfl, k3, hb3⟩
    refine ⟨u3, rfl, ⟨⟨_, hb3⟩, rfl⟩, ?_⟩
    refine wpM_only (i := 5) (by kernel_rfl) ?_
    refine mOp_make rfl (by go_simp) ?_
    rintro _ ⟨s1, rfl⟩
    refine ⟨.slice (some ⟨s1.w.heap.size, 0, none⟩) 1 1, s1.w.alloc (.cells #[.int .u8 (a.1 % 256)] 5), by go_simp, ⟨⟨_, alloc_below _ _⟩, rfl⟩, ?_⟩
    refine wpM_end (by kernel_rfl) rfl (by kernel_rfl) (by decide) ?_
    rintro _ ⟨s4, rfl⟩
    have R1 := (hK8.out s1.w).keep s4.h
    obtain ⟨p3, q3, rfl, r3⟩ := k3.rd
    have R2 := ((r3.keep s1.h).keep (alloc_below _ (.cells #[.int .u8 (a.1 % 256)] 5))).keep s4.h
    have BW := Below.step (Below.step (Below.step (Below.step s2.h hb3) s1.h) (alloc_below _ (.cells #[.int .u8 (a.1 % 256)] 5))) s4.h
    generalize s4.w = W at *
    generalize s1.w.heap.size = g8 at *
    clear s4 s1 k3 r3 hb3 s2 hne
  all_goals
    simp only [List.drop_succ_cons, List.drop_zero]
    have R3 := hr.keep BW
    have KJ : Hid (Calls Tryz.prog 163 #[.slice (some ⟨W.heap.size, 0, none⟩) 3 3] (W.alloc (.cells #[.slice (some ⟨g8, 0, none⟩) 1 1, .slice p3 3 q3, .slice p a.2.length q] 22)) fun e w' => ∃ u, e = .returned u ∧ Own w' (W.heap.size + 1) u (packW a.1 a.2) ∧ Below (W.alloc (.cells #[.slice (some ⟨g8, 0, none⟩) 1 1, .slice p3 3 q3, .slice p a.2.length q] 22)).heap.size (W.alloc (.cells #[.slice (some ⟨g8, 0, none⟩) 1 1, .slice p3 3 q3, .slice p a.2.length q] 22)) w') := by
      have h := l1Join_c [⟨some ⟨g8, 0, none⟩, 1, [mark8 a.1]⟩, ⟨p3, q3, putB a.2.length 3⟩, ⟨p, q, a.2⟩] W.heap.size 0 3 _ (pcs_three W ⟨some ⟨g8, 0, none⟩, 1, [mark8 a.1]⟩ ⟨p3, q3, putB a.2.length 3⟩ ⟨p, q, a.2⟩ 22 R1 R2 R3) (by rw [flat_three]; simp [putB_len]; omega) (by simp)
      rw [flat_three, show [mark8 a.1] ++ putB a.2.length 3 ++ a.2 = packW a.1 a.2 from rfl, size_alloc] at h
      rw [size_alloc]
      exact h
    have HPL : Hid ((putB a.2.length 3).length = 3) := putB_len _ _
    rw [HPL.out]
    clear C0 C1 R1 R2 R3 c0 c1
    go_simp
    go_wp2_with fail
    refine KJ.out.mono ?_
    rintro e w9 ⟨u9, rfl, k9, hb9⟩
    have BW9 := Below.step (Below.mk BW _) hb9
    have k9' := k9.lower (B' := w.heap.size) (by have := BW.size; omega)
    go_wp2_with fail
    go_ret
    exact ⟨_, rfl, k9', BW9⟩

def pmL (a : MsgD) : List UInt8 := if faultW a.1 a.2.length = 0 then packW a.1 a.2 else []
theorem pmL_len (a : MsgD) : (pmL a).length ≤ 1048576 := by
  unfold pmL; split
  · rename_i h; have := (faultW_zero h).2; rw [packW_len]; omega
  · simp

set_option maxRecDepth 4000 in
set_option maxHeartbeats 1000000 in
theorem l6PackAll_c (l : List MsgD) (p : Option Addr) (q : Nat) (w : World) (hr : RdL msgC w p q l) (h1 : ∀ a ∈ l, a.2.length ≤ 10000) (h2 : (packAll l).length ≤ 1000000) :
    Calls Tryz.prog 89 #[.slice p l.length q] w fun e w' => ∃ u, e = .returned u ∧ Own w' w.heap.size u (packAll l) ∧ Below w.heap.size w w' := by
  have HR : Hid (RdL msgC w p q l) := hr
  have H1 : Hid (∀ a ∈ l, a.2.length ≤ 10000) := h1
  have H2 : Hid ((packAll l).length ≤ 1000000) := h2
  have hq1 : l.length ≤ q := hr.1
  have hq2 : q ≤ 2 ^ 63 - 1 := hr.2.1
  have O1 := none_own8 w w.heap.size (Nat.le_refl _)
  have BW := alloc_below w (.cells #[] 5)
  clear hr h1 h2
  go_enter Tryz.func89, Tryz.ntmps89
  go_wp2
  go_loopw [3, 4] (fun v i wr => ∃ j : Nat, j ≤ l.length ∧ i = .int .i64 j ∧ Own wr w.heap.size v (packAll (l.take j)) ∧ Below w.heap.size w wr)
    (fun _ i _ => l.length - (intOf i).toNat)
  case atStart => exact ⟨0, Nat.zero_le _, rfl, O1, BW⟩
  case round =>
    clear O1 BW
    obtain ⟨j, hj, rfl, ho, BW⟩ := hrel
    obtain ⟨po, qo, rfl, -⟩ := ho.rd
    by_cases hlt : j < l.length
    · have hI : (j : Int) < (l.length : Int) := by omega
      obtain ⟨b, o, e1, hc⟩ := (HR.out.keep BW).2.2.2 (by omega)
      subst e1
      obtain ⟨a, ha⟩ : ∃ a, l[j]? = some a := ⟨l[j], by simp [hlt]⟩
      obtain ⟨us, hrep, hcell⟩ := hc j a ha
      obtain ⟨pa, qa, rfl, ra⟩ := msg_rep hrep
      have c0 := hcell 0 _ rfl
      have c1 := hcell 1 _ rfl
      rw [show msgC.n = 2 from rfl] at c0 c1
      rw [Nat.add_zero] at c0
      have HT : Hid (packAll (l.take (j + 1)) = packAll (l.take j) ++ packW a.1 a.2) := packAll_take ha
      have HLe : Hid ((packAll (l.take j)).length + (packW a.1 a.2).length ≤ 1000000) := by have h := packAll_le l (j + 1); rw [HT.out, List.length_append] at h; have := H2.out; show _ ≤ _; omega
      have KP : Hid (Calls Tryz.prog 137 #[.pointer (some ⟨b, o + j * 2, none⟩)] wr fun e w' => ∃ u, e = .returned u ∧ Own w' wr.heap.size u (packW a.1 a.2) ∧ Below wr.heap.size wr w') := l6Pack_c b (o + j * 2) qa pa a wr c0 c1 ra (H1.out a (List.mem_of_getElem? ha))
      obtain ⟨fs, hfs⟩ : ∃ fs, Hid (fs = packAll (l.take j)) := ⟨_, rfl⟩
      rw [← hfs.out] at ho HT HLe ⊢
      obtain ⟨pw, hpw⟩ : ∃ pw, Hid (pw = packW a.1 a.2) := ⟨_, rfl⟩
      rw [← hpw.out] at KP HT HLe
      clear hc hcell hrep c0 c1
      go_wp2_with fail
      refine KP.out.mono ?_
      rintro e w2 ⟨u2, rfl, k2, hb2⟩
      have ho2 := ho.stay hb2
      have BW2 := Below.step BW hb2
      obtain ⟨p2, q2, rfl, r2⟩ := k2.rd
      clear ho hb2 BW
      go_wp2_with (at_builtin; refine wpList_append_rd rfl (.tmp 12) (.tmp 16) rfl w.heap.size _ fs rfl ho2 p2 q2 pw rfl r2 (by have := HLe.out; omega) BW2.size ?_; intro v3 w3 k3 hg3)
      have BW3 := BW2.grown hg3 BW2.size (fun k hk => ho2.ge k hk)
      rw [← HT.out] at k3
      clear ho2 hg3
      go_roundw
      case rel => exact ⟨j + 1, by omega, by go_num, k3, BW3⟩
      case measure => simp [intOf]; omega
    · have e : j = l.length := by omega
      subst e
      rw [List.take_length] at ho ⊢
      go_wp2
      go_ret
      exact ⟨_, rfl, ho, BW⟩

set_option maxRecDepth 4000 in
set_option maxHeartbeats 1000000 in
theorem specPS_c (l : List MsgD) (p : Option Addr) (q : Nat) (w : World) (hr : RdL msgC w p q l) :
    Calls Tryz.prog 161 #[.slice p l.length q] w fun e w' => ∃ u, e = .returned (.agg #[.int .i64 (psC l), u]) ∧ Own w' w.heap.size u (psL l) ∧ Below w.heap.size w w' := by
  have HR : Hid (RdL msgC w p q l) := hr
  have hq1 : l.length ≤ q := hr.1
  have hq2 : q ≤ 2 ^ 63 - 1 := hr.2.1
  have A0 := Arr.new w [.int .i64 0, .slice none 0 0] 130
  have B0 := alloc_below w (.cells #[.int .i64 0, .slice none 0 0] 130)
  have HC : Hid (psC l = if l.length ≤ 12 then (if firstF l = 0 then (if (packAll l).length ≤ 600 then 0 else 2) else firstF l) else 2) := rfl
  have HPL : Hid (psL l = if psC l = 0 then packAll l else []) := rfl
  clear hr
  by_cases hl : l.length ≤ 12
  · have hlI : ¬ (12 < (l.length : Int)) := by omega
    go_enter Tryz.func161, Tryz.ntmps161
    go_wp2_with fail
    go_loopw [3] (fun i wr => ∃ k : Nat, k ≤ l.length ∧ i = .int .i64 k ∧ (∀ (j : Nat) (b : Int × List UInt8), j < k → l[j]? = some b → faultW b.1 b.2.length = 0) ∧ Arr wr w.heap.size 130 [.int .i64 0, .slice none 0 0] ∧ Below w.heap.size w wr)
      (fun i _ => l.length - (intOf i).toNat)
    case atStart => exact ⟨0, Nat.zero_le _, rfl, fun j b hj => absurd hj (Nat.not_lt_zero _), A0, B0⟩
    case round =>
      clear A0 B0
      obtain ⟨k, hk, rfl, hall, A, BW⟩ := hrel
      by_cases hlt : k < l.length
      · have hI : (k : Int) < (l.length : Int) := by omega
        obtain ⟨b, o, e1, hc⟩ := (HR.out.keep BW).2.2.2 (by omega)
        subst e1
        obtain ⟨a, ha⟩ : ∃ a, l[k]? = some a := ⟨l[k], by simp [hlt]⟩
        obtain ⟨us, hrep, hcell⟩ := hc k a ha
        obtain ⟨pa, qa, rfl, ra⟩ := msg_rep hrep
        have c0 := hcell 0 _ rfl
        have c1 := hcell 1 _ rfl
        rw [show msgC.n = 2 from rfl] at c0 c1
        rw [Nat.add_zero] at c0
        have KF : Hid (Calls Tryz.prog 77 #[.pointer (some ⟨b, o + k * 2, none⟩)] wr fun e w' => e = .returned (.int .i64 (faultW a.1 a.2.length)) ∧ w' = wr) := l6Fault_c b (o + k * 2) a.2.length qa pa a.1 wr c0 c1
        have r0 := A.cell 0
        have r1 := A.cell 1
        have fz := A.frozen
        simp at r0 r1
        clear hc hcell hrep c0 c1
        by_cases hf : faultW a.1 a.2.length = 0
        · have hall2 : Hid (∀ (j : Nat) (b : Int × List UInt8), j < k + 1 → l[j]? = some b → faultW b.1 b.2.length = 0) := fun j b hj hb => by
            by_cases h : j < k
            · exact hall j b h hb
            · rw [show j = k by omega, ha] at hb; cases hb; exact hf
          rw [hf] at KF
          clear hf hall
          go_wp2_with fail
          refine KF.out.mono ?_
          rintro e w2 ⟨rfl, hw⟩
          subst hw
          go_wp2_with fail
          go_roundw
          case rel => exact ⟨k + 1, by omega, by go_num, hall2.out, A, BW⟩
          case measure => simp [intOf]; omega
        · have hFF : Hid (firstF l = faultW a.1 a.2.length) := firstF_at ha hall hf
          have hps : Hid (psC l = faultW a.1 a.2.length) := by show _ = _; rw [HC.out, if_pos hl, if_neg (by rw [hFF.out]; exact hf), hFF.out]
          have hpl : Hid (psL l = []) := by show _ = _; rw [HPL.out, if_neg (by rw [hps.out]; exact hf)]
          obtain ⟨fc, hfc⟩ : ∃ fc, Hid (faultW a.1 a.2.length = fc) := ⟨_, rfl⟩
          have hz : (fc != 0) = true := by rw [bne_iff_ne, ← hfc.out]; exact hf
          rw [hfc.out] at KF hps
          clear hf hall hFF
          go_wp2_with fail
          refine KF.out.mono ?_
          rintro e w2 ⟨rfl, hw⟩
          subst hw
          go_wp2_with fail
          exact bodyPost_ret (v := .agg #[.int .i64 fc, .slice none 0 0]) (by simp [results, Tryz.results161, go_sem, r0, r1]) rfl ⟨_, by rw [hps.out], by rw [hpl.out]; exact Own_nil _ _, (BW.setCell (Nat.le_refl _) _).setCell (Nat.le_refl _) _⟩
      · have e : k = l.length := by omega
        subst e
        have hF0 : Hid (firstF l = 0) := firstF_zero fun j b hb => hall j b (List.getElem?_eq_some_iff.1 hb).1 hb
        have hfa := firstF_all hF0.out
        have hle : Hid ((packAll l).length ≤ 1000000) := by
          have h1 : ∀ (m : List (Int × List UInt8)), (∀ a ∈ m, faultW a.1 a.2.length = 0) → (packAll m).length ≤ 164 * m.length := fun m => by
            induction m with
            | nil => intro _; simp [packAll]
            | cons a m ih =>
              intro h
              rw [packAll_cons, List.length_append, packW_len, List.length_cons]
              have h2 := (faultW_zero (h a List.mem_cons_self)).2
              have h3 := ih fun b hb => h b (List.mem_cons_of_mem _ hb)
              omega
          have h4 := h1 l hfa
          show _ ≤ _
          omega
        have KA : Hid (Calls Tryz.prog 89 #[.slice p l.length q] wr fun e w' => ∃ u, e = .returned u ∧ Own w' wr.heap.size u (packAll l) ∧ Below wr.heap.size wr w') := l6PackAll_c l p q wr (HR.out.keep BW) (fun a ha => by have := (faultW_zero (hfa a ha)).2; omega) hle.out
        clear hall hfa
        go_wp2_with fail
        refine KA.out.mono ?_
        rintro e w2 ⟨u2, rfl, k2, hb2⟩
        have A2 := A.stay hb2
        have BW2 := Below.step BW hb2
        have hlt2 : Hid (w.heap.size < wr.heap.size) := A.lt
        obtain ⟨p2, q2, rfl, -⟩ := k2.rd
        have r0 := A2.cell 0
        have r1 := A2.cell 1
        have fz := A2.frozen
        simp at r0 r1
        by_cases h6 : (packAll l).length ≤ 600
        · have hps : Hid (psC l = 0) := by show _ = _; rw [HC.out, if_pos hl, if_pos hF0.out, if_pos h6]
          have hpl : Hid (psL l = packAll l) := by show _ = _; rw [HPL.out, if_pos hps.out]
          generalize packAll l = pa at *
          have h6I : ¬ (600 < (pa.length : Int)) := by omega
          clear A A2 BW hb2 KA
          go_wp2_with fail
          refine bodyPost_ret (v := .agg #[.int .i64 0, .slice p2 pa.length q2]) (by simp [results, Tryz.results161, go_sem, r0, r1]) rfl ⟨_, by rw [hps.out], ?_, (BW2.setCell (Nat.le_refl _) _).setCell (Nat.le_refl _) _⟩
          rw [hpl.out]
          exact ((k2.set (a := ⟨w.heap.size, 0, none⟩) hlt2.out _).set (a := ⟨w.heap.size, 1, none⟩) hlt2.out _).lower (B' := w.heap.size) (Nat.le_of_lt hlt2.out)
        · have hps : Hid (psC l = 2) := by show _ = _; rw [HC.out, if_pos hl, if_pos hF0.out, if_neg h6]
          have hpl : Hid (psL l = []) := by show _ = _; rw [HPL.out, if_neg (by rw [hps.out]; decide)]
          generalize packAll l = pa at *
          have h6I : 600 < (pa.length : Int) := by omega
          clear A A2 BW hb2 KA
          go_wp2_with fail
          exact bodyPost_ret (v := .agg #[.int .i64 2, .slice none 0 0]) (by simp [results, Tryz.results161, go_sem, r0, r1]) rfl ⟨_, by rw [hps.out], by rw [hpl.out]; exact Own_nil _ _, (BW2.setCell (Nat.le_refl _) _).setCell (Nat.le_refl _) _⟩
  · have hlI : 12 < (l.length : Int) := by omega
    have hps : Hid (psC l = 2) := by show _ = _; rw [HC.out, if_neg hl]
    have hpl : Hid (psL l = []) := by show _ = _; rw [HPL.out, if_neg (by rw [hps.out]; decide)]
    go_enter Tryz.func161, Tryz.ntmps161
    go_wp2
    exact bodyPost_ret (v := .agg #[.int .i64 2, .slice none 0 0]) (by simp [results, Tryz.results161, go_sem]) rfl ⟨_, by rw [hps.out], by rw [hpl.out]; exact Own_nil _ _, alloc_below _ _⟩
end Go.Proofs.YtiabacnmmojfjabGreatDoor

/- Regions that draw their order in which an append (it may write in an old row) stands ahead of one operation that needs no world (an address): that one is taken first, the append and what waits for it come at the end, each alone. Beside Pick.lean. No program in it. -/
namespace Go.Proofs.YtiabacnmmojfjabGreatDoor
open Go Go.RowKit

section
variable {P : Program} {ops : Array Oper} {md : Region.Mode} {Q' : Exit → Act → World → Prop} {last m : Nat}

/-- These come up one behind the other, each alone, and nothing is left. -/
def okCh (md : Region.Mode) (ops : Array Oper) : Array Bool → List Nat → Bool
  | L, [] => (Region.ready md ops L).isEmpty
  | L, j :: js => (Region.ready md ops L == [j]) && ((ops[j]?).isSome && okCh md ops (L.setIfInBounds j true) js)
theorem wpAny_chainL : ∀ (js : List Nat) (L : Array Bool) (a : Act) (w : World), okCh md ops L js = true → wpList P ops Q' (opsAt ops js) a w → wpAny P md ops Q' js.length L a w
  | [], L, a, w, hB, h => ⟨by simpa [okCh] using hB, by simpa [opsAt, wpList] using h⟩
  | j :: js, L, a, w, hB, h => by
    simp only [okCh, Bool.and_eq_true, beq_iff_eq] at hB
    obtain ⟨hr, hs, hB'⟩ := hB
    obtain ⟨o, h0⟩ := Option.isSome_iff_exists.1 hs
    have ho : opsAt ops (j :: js) = o :: opsAt ops js := by simp only [opsAt, h0]
    rw [ho] at h
    refine ⟨fun e => (by rw [hr] at e; cases e), fun i hi => ?_⟩
    rw [hr] at hi
    have hij := List.mem_singleton.1 hi
    subst hij
    have hrec := fun a' w' => wpAny_chainL js (L.setIfInBounds i true) a' w' hB'
    unfold wpOp
    simp only [h0]
    unfold wpList at h
    split
    · rename_i hw
      rw [if_pos hw] at h
      rcases h with h | h
      · exact .inl (Oper.wp_mono (fun a' w' hh => hrec a' w' hh) h)
      · exact .inr h
    · rename_i hw
      rw [if_neg hw] at h
      exact hrec _ _ h
theorem wpM_endL {L : Array Bool} {a : Act} {V : World} (js : List Nat) (hm : m = js.length + 1) (hB : okCh md ops L (last :: js) = true) (h : ∀ w, (∃ s : HW V, w = s.w) → wpList P ops Q' (opsAt ops (last :: js)) a w) : wpM P md ops Q' last m 0 L a V := by
  have hr : Region.ready md ops L = [last] := by
    simp only [okCh, Bool.and_eq_true, beq_iff_eq] at hB
    exact hB.1
  refine ⟨fun i hi => by rw [hr] at hi; exact List.mem_singleton.1 hi, fun w hw => ?_⟩
  subst hm
  exact wpAny_chainL (last :: js) L a w hB (h w hw)
/-- The region: number j first (it needs no world), these quiet operations, then k more ahead of the chain of m. -/
theorem wp_region_pickW {id : Nat} {a : Act} {w : World} (j : Nat) {oj : Oper} (v : Value) (hj : ops[j]? = some oj) (is : List Nat) (last k m : Nat) (hk : last = is.length + k) (hn : ops.size = last + m + 1) (hm : P.follows .mixedOrders = true) (hs : Region.noSelect ops = true)
    (hfj : Region.free .any ops (Array.replicate ops.size false) j = true) (hrj : (Region.ready .any ops (Array.replicate ops.size false)).contains j = true) (hQ : ∀ c a w, Q' (.panic c) (a.put oj.dst v) w → Q' (.panic c) a w) (hy : Yields P ops oj v a)
    (hlast : waitsT .any ops last = true) (hB : okSeq .any ops last ((Array.replicate ops.size false).setIfInBounds j true) is = true) (hp : (opsAt ops is).all plainB = true)
    (h : wpQuiet P ops (fun w' => ∃ s : HW w, w' = s.w) (fun a' => wpM P .any ops Q' last m k (setAll ((Array.replicate ops.size false).setIfInBounds j true) is) a' w) (opsAt ops is) (a.put oj.dst v)) : (Code.region id ops true).wp P Q' a w := by
  have h1 := wpM_pick (Q' := Q') (m := m) hlast hs k is ((Array.replicate ops.size false).setIfInBounds j true) (a.put oj.dst v) hB hp h
  refine wp_region_any hm ?_
  have h2 := wpAny_of_M (is.length + k) _ (a.put oj.dst v) w { w with drawn := w.drawn + 1 } ⟨⟨w.drew, (Below.refl _ _).drew⟩, rfl⟩ h1
  rw [← hk] at h2
  rw [hn]
  rw [hn] at hfj hrj h2
  exact wpAny_take hj hs hfj hrj hQ hy h2
end
end Go.Proofs.YtiabacnmmojfjabGreatDoor

/- The contracts of chapter 10's functions in the specification: faults, kinds, packing, at every argument. What was there stays. -/
namespace Go.Proofs.YtiabacnmmojfjabGreatDoor
open Go.ChangeShapes Go.WideShapes Go.ChangeAt Go.RowKit

set_option maxRecDepth 4000 in
set_option maxHeartbeats 400000 in
theorem l10Fault_c (b : Nat) (h : HelloD) (p : Option Addr) (q : Nat) (w : World) (A : Has w b [.slice p h.1.length q, .int .i64 h.2.1, .int .i64 h.2.2]) :
    Calls Tryz.prog 127 #[.pointer (some ⟨b, 0, none⟩)] w fun e w' => e = .returned (.int .i64 (hfC h)) ∧ w' = w := by
  have c0 := A 0 _ rfl
  have c1 := A 1 _ rfl
  have c2 := A 2 _ rfl
  clear A
  by_cases h1 : h.1.length = 8
  · have d1 : ((h.1.length : Int) != 8) = false := by rw [bne_eq_false_iff_eq]; omega
    cases h2 : inB h.2.1 1 65520
    · rw [show hfC h = 3 by simp [hfC, h1, h2]]
      clear h1
      go_enter Tryz.func127, Tryz.ntmps127
      go_wp2_with fail
      refine (l8Element_c _ _).mono ?_
      rintro e w' ⟨rfl, hw⟩
      subst hw
      rw [h2]
      go_wp2
      go_ret
      exact ⟨rfl, rfl⟩
    · cases h3 : inB h.2.2 0 9
      · rw [show hfC h = 3 by simp [hfC, h1, h2, h3]]
        clear h1
        go_enter Tryz.func127, Tryz.ntmps127
        go_wp2_with fail
        refine (l8Element_c _ _).mono ?_
        rintro e w' ⟨rfl, hw⟩
        subst hw
        rw [h2]
        go_wp2_with fail
        refine (l1In_c _ _ _ _).mono ?_
        rintro e w' ⟨rfl, hw⟩
        subst hw
        rw [h3]
        go_wp2
        go_ret
        exact ⟨rfl, rfl⟩
      · rw [show hfC h = 0 by simp [hfC, h1, h2, h3]]
        clear h1
        go_enter Tryz.func127, Tryz.ntmps127
        go_wp2_with fail
        refine (l8Element_c _ _).mono ?_
        rintro e w' ⟨rfl, hw⟩
        subst hw
        rw [h2]
        go_wp2_with fail
        refine (l1In_c _ _ _ _).mono ?_
        rintro e w' ⟨rfl, hw⟩
        subst hw
        rw [h3]
        go_wp2
        go_ret
        exact ⟨rfl, rfl⟩
  · have d1 : ((h.1.length : Int) != 8) = true := by rw [bne_iff_ne]; omega
    rw [show hfC h = 1 by simp [hfC, h1]]
    clear h1
    go_enter Tryz.func127, Tryz.ntmps127
    go_wp2
    go_ret
    exact ⟨rfl, rfl⟩
theorem l10Kind_c (k : Int) (w : World) : Calls Tryz.prog 79 #[.int .i64 k] w fun e w' => e = .returned (.bool (hkB k)) ∧ w' = w := by
  by_cases h1 : k = 1
  · rw [show hkB k = true by simp [hkB, h1]]
    have d1 : (k == 1) = true := by rw [beq_iff_eq]; exact h1
    clear h1
    go_enter Tryz.func79, Tryz.ntmps79
    go_wp2
    go_ret
    exact ⟨rfl, rfl⟩
  · have d1 : (k == 1) = false := by rw [beq_eq_false_iff_ne]; exact h1
    by_cases h2 : k = 2
    · rw [show hkB k = true by simp [hkB, h2]]
      have d2 : (k == 2) = true := by rw [beq_iff_eq]; exact h2
      clear h1 h2
      go_enter Tryz.func79, Tryz.ntmps79
      go_wp2
      go_ret
      exact ⟨rfl, rfl⟩
    · rw [show hkB k = false by simp [hkB, h1, h2]]
      have d2 : (k == 2) = false := by rw [beq_eq_false_iff_ne]; exact h2
      clear h1 h2
      go_enter Tryz.func79, Tryz.ntmps79
      go_wp2
      go_ret
      exact ⟨rfl, rfl⟩
theorem rdl_three (w : World) (x y z : Pc) (t : TypeId) (hx : Rd w x.p x.q x.bs) (hy : Rd w y.p y.q y.bs) (hz : Rd w z.p z.q z.bs) :
    RdL bytC (w.alloc (.cells #[x.val, y.val, z.val] t)) (some ⟨w.heap.size, 0, none⟩) 3 [x.bs, y.bs, z.bs] := by
  have hb := alloc_below w (.cells #[x.val, y.val, z.val] t)
  have A := Arr.new w [x.val, y.val, z.val] t
  refine ⟨by simp, by unfold maxLen; decide, (fun e => by cases e), fun _ => ⟨w.heap.size, 0, rfl, fun i a hi => ?_⟩⟩
  match i, hi with
  | 0, hi => cases hi; exact ⟨[x.val], ⟨x.p, x.q, rfl, hx.keep hb⟩, fun j u hj => by
      match j, hj with
      | 0, hj => cases hj; exact A.cell 0⟩
  | 1, hi => cases hi; exact ⟨[y.val], ⟨y.p, y.q, rfl, hy.keep hb⟩, fun j u hj => by
      match j, hj with
      | 0, hj => cases hj; exact A.cell 1⟩
  | 2, hi => cases hi; exact ⟨[z.val], ⟨z.p, z.q, rfl, hz.keep hb⟩, fun j u hj => by
      match j, hj with
      | 0, hj => cases hj; exact A.cell 2⟩
set_option maxRecDepth 4000 in
set_option maxHeartbeats 1000000 in
theorem l10Pack_c (k : Int) (b : Nat) (h : HelloD) (p : Option Addr) (q : Nat) (w : World) (A : Arr w b 74 [.slice p h.1.length q, .int .i64 h.2.1, .int .i64 h.2.2]) (hr : Rd w p q h.1) (hc : hfC h = 0) :
    Calls Tryz.prog 158 #[.int .i64 k, .pointer (some ⟨b, 0, none⟩)] w fun e w' => ∃ u, e = .returned (.agg #[.int .i64 k, u]) ∧ Own w' w.heap.size u (hpL h) ∧ Below w.heap.size w w' := by
  obtain ⟨p1, p2, p3, p4, p5⟩ := hf_parts hc
  have HLen : Hid ((hpL h).length = 14) := hpL_len hc
  have HR : Hid (Rd w p q h.1) := hr
  have BW := alloc_below w (.cells #[.int .i64 0, .slice none 0 0] 53)
  have R := Arr.new w [.int .i64 0, .slice none 0 0] 53
  replace A := A.stay BW
  have hz0 : Hid ((w.alloc (.cells #[.int .i64 0, .slice none 0 0] 53)).heap.size = w.heap.size + 1) := size_alloc _ _
  have KP : Hid (∀ w, Calls Tryz.prog 83 #[.int .i64 h.2.1, .int .i64 2] w fun e w' => ∃ u, e = .returned u ∧ Own w' w.heap.size u (putB h.2.1.toNat 2) ∧ Below w.heap.size w w') := fun w => by
    have hh := l1Put_c h.2.1.toNat 2 w (by omega) (by decide)
    rw [show ((h.2.1.toNat : Nat) : Int) = h.2.1 by omega] at hh
    exact hh
  have HKB : Hid (h.2.2 = ((UInt8.ofNat h.2.2.toNat).toNat : Int)) := by show _ = _; rw [UInt8.toNat_ofNat']; omega
  clear hr hc p1
  have g0 := HW.at ((A.cell 0).trans (show _ = some _ from rfl))
  have g1 := HW.at ((A.cell 1).trans (show _ = some _ from rfl))
  have g2 := HW.at ((A.cell 2).trans (show _ = some _ from rfl))
  have hne := HW.some (w.alloc (.cells #[.int .i64 0, .slice none 0 0] 53))
  go_enter Tryz.func158, Tryz.ntmps158
  go_wp2_with fail
  refine wp_region_pick [0, 1, 2, 3, 4, 5, 6, 7, 8, 10, 11, 12, 13, 14] 18 4 2 rfl rfl rfl (by kernel_rfl) (by kernel_rfl) (by kernel_rfl) (by kernel_rfl) ?_
  simp only [opsAt, List.getElem?_toArray, List.getElem?_cons_zero, List.getElem?_cons_succ]
  repeat (go_big_quiet_step (fail))
  refine wpQuiet_nil ?_
  clear g0 g1 g2
  refine wpM_two (i := 9) (j := 15) (by kernel_rfl) ?_ ?_
  · refine mOp_call rfl (by go_simp) 83 _ #[.int .i64 h.2.1, .int .i64 2] (fun w => by go_simp) rfl ?_
    rintro _ ⟨s9, rfl⟩
    refine (KP.out _).mono ?_
    rintro e w9 ⟨u9, rfl, k9, hb9⟩
    obtain ⟨a9, c9, rfl, -⟩ := k9.rd
    rw [putB_len] at k9 ⊢
    refine ⟨_, rfl, ⟨⟨_, hb9⟩, rfl⟩, ?_⟩
    have hbc := Below.step s9.h hb9
    have hne2 := HW.some w9
    refine wpM_only (i := 15) (by kernel_rfl) ?_
    refine mOp_make rfl (by go_simp) ?_
    rintro _ ⟨sa, rfl⟩
    refine ⟨.slice (some ⟨sa.w.heap.size, 0, none⟩) 1 1, sa.w.alloc (.cells #[.int .u8 h.2.2] 5), by go_simp, ⟨⟨_, alloc_below _ _⟩, rfl⟩, ?_⟩
    have hba := Below.step sa.h (alloc_below sa.w (.cells #[.int .u8 h.2.2] 5))
    have rk := rd_new sa.w [.int .u8 h.2.2] [UInt8.ofNat h.2.2.toNat] 5 1 (by simp only [List.map_cons, List.map_nil, u8v]; rw [← HKB.out]) rfl (by decide)
    have rp := (Rd.own k9).keep hba
    have BV := Below.step BW (Below.step hbc hba)
    replace R := R.stay (Below.step hbc hba)
    generalize sa.w.heap.size = gk at *
    generalize sa.w.alloc (.cells #[.int .u8 h.2.2] 5) = wk at *
    clear hba hbc hb9 k9 hne hne2 A
    have hne3 := HW.some wk
    refine wpM_only (i := 16) (by kernel_rfl) ?_
    refine mOp_make rfl (by go_simp) ?_
    rintro _ ⟨sb, rfl⟩
    refine ⟨.slice (some ⟨sb.w.heap.size, 0, none⟩) 3 3, sb.w.alloc (.cells #[.slice p h.1.length q, .slice a9 2 c9, .slice (some ⟨gk, 0, none⟩) 1 1] 22), by go_simp, ⟨⟨_, alloc_below _ _⟩, rfl⟩, ?_⟩
    have r3 := rdl_three sb.w ⟨p, q, h.1⟩ ⟨a9, c9, putB h.2.1.toNat 2⟩ ⟨some ⟨gk, 0, none⟩, 1, [UInt8.ofNat h.2.2.toNat]⟩ 22 (HR.out.keep (Below.step BV sb.h)) (rp.keep sb.h) (rk.keep sb.h)
    simp only [Pc.val, putB_len, List.length_singleton] at r3
    have hbb := Below.step sb.h (alloc_below sb.w (.cells #[.slice p h.1.length q, .slice a9 2 c9, .slice (some ⟨gk, 0, none⟩) 1 1] 22))
    replace R := R.stay hbb
    replace BV := Below.step BV hbb
    generalize sb.w.heap.size = gb at *
    generalize sb.w.alloc (.cells #[.slice p h.1.length q, .slice a9 2 c9, .slice (some ⟨gk, 0, none⟩) 1 1] 22) = wb at *
    clear hbb
    have hne4 := HW.some wb
    refine wpM_only (i := 17) (by kernel_rfl) ?_
    refine mOp_call rfl (by go_simp) 188 _ #[.slice (some ⟨gb, 0, none⟩) 3 3] (fun w => by go_simp) rfl ?_
    rintro _ ⟨sc, rfl⟩
    refine (l6Blocks_c (hpB h) (some ⟨gb, 0, none⟩) 3 _ (r3.keep sc.h) (by have := HLen.out; unfold hpL at this; omega)).mono ?_
    rintro e wc ⟨uc, rfl, kc, hbx⟩
    obtain ⟨ac, cc, rfl, -⟩ := kc.rd
    refine ⟨_, rfl, ⟨⟨_, hbx⟩, rfl⟩, ?_⟩
    have hbd := Below.step sc.h hbx
    replace kc := kc.lower (show w.heap.size + 1 ≤ sc.w.heap.size from Nat.le_trans (show w.heap.size + 1 ≤ wb.heap.size from R.lt) sc.h.size)
    replace R := R.stay hbd
    replace BV := Below.step BV hbd
    clear hbd hbx
    refine wpM_end (by kernel_rfl) rfl (by kernel_rfl) (by decide) ?_
    rintro _ ⟨sz, rfl⟩
    simp only [List.drop_succ_cons, List.drop_zero]
    replace R := R.stay sz.h
    replace kc := kc.stay sz.h
    replace BV := Below.step BV sz.h
    generalize sz.w = wz at *
    have t0 := (R.cell 0).trans (show _ = some _ from rfl)
    have t1 := (R.cell 1).trans (show _ = some _ from rfl)
    have ft := R.frozen
    go_wp2_with fail
    exact bodyPost_ret (v := .agg #[.int .i64 k, .slice ac (blksN (hpB h)).length cc]) (by simp [results, Tryz.results158, go_sem, t0, t1]) rfl ⟨_, rfl, ((kc.set (Nat.lt_succ_self _) _).set (Nat.lt_succ_self _) _).lower (Nat.le_succ _), (BV.setCell (Nat.le_refl _) _).setCell (Nat.le_refl _) _⟩
  · refine mOp_make rfl (by go_simp) ?_
    rintro _ ⟨sa, rfl⟩
    refine ⟨.slice (some ⟨sa.w.heap.size, 0, none⟩) 1 1, sa.w.alloc (.cells #[.int .u8 h.2.2] 5), by go_simp, ⟨⟨_, alloc_below _ _⟩, rfl⟩, ?_⟩
    have hba := Below.step sa.h (alloc_below sa.w (.cells #[.int .u8 h.2.2] 5))
    have rk := rd_new sa.w [.int .u8 h.2.2] [UInt8.ofNat h.2.2.toNat] 5 1 (by simp only [List.map_cons, List.map_nil, u8v]; rw [← HKB.out]) rfl (by decide)
    generalize sa.w.heap.size = gk at *
    generalize sa.w.alloc (.cells #[.int .u8 h.2.2] 5) = wk at *
    have hne2 := HW.some wk
    refine wpM_only (i := 9) (by kernel_rfl) ?_
    refine mOp_call rfl (by go_simp) 83 _ #[.int .i64 h.2.1, .int .i64 2] (fun w => by go_simp) rfl ?_
    rintro _ ⟨s9, rfl⟩
    refine (KP.out _).mono ?_
    rintro e w9 ⟨u9, rfl, k9, hb9⟩
    obtain ⟨a9, c9, rfl, -⟩ := k9.rd
    rw [putB_len] at k9 ⊢
    refine ⟨_, rfl, ⟨⟨_, hb9⟩, rfl⟩, ?_⟩
    have hbc := Below.step s9.h hb9
    have rp := Rd.own k9
    replace rk := rk.keep hbc
    have BV := Below.step BW (Below.step hba hbc)
    replace R := R.stay (Below.step hba hbc)
    clear hba hbc hb9 k9 hne hne2 A
    have hne3 := HW.some w9
    refine wpM_only (i := 16) (by kernel_rfl) ?_
    refine mOp_make rfl (by go_simp) ?_
    rintro _ ⟨sb, rfl⟩
    refine ⟨.slice (some ⟨sb.w.heap.size, 0, none⟩) 3 3, sb.w.alloc (.cells #[.slice p h.1.length q, .slice a9 2 c9, .slice (some ⟨gk, 0, none⟩) 1 1] 22), by go_simp, ⟨⟨_, alloc_below _ _⟩, rfl⟩, ?_⟩
    have r3 := rdl_three sb.w ⟨p, q, h.1⟩ ⟨a9, c9, putB h.2.1.toNat 2⟩ ⟨some ⟨gk, 0, none⟩, 1, [UInt8.ofNat h.2.2.toNat]⟩ 22 (HR.out.keep (Below.step BV sb.h)) (rp.keep sb.h) (rk.keep sb.h)
    simp only [Pc.val, putB_len, List.length_singleton] at r3
    have hbb := Below.step sb.h (alloc_below sb.w (.cells #[.slice p h.1.length q, .slice a9 2 c9, .slice (some ⟨gk, 0, none⟩) 1 1] 22))
    replace R := R.stay hbb
    replace BV := Below.step BV hbb
    generalize sb.w.heap.size = gb at *
    generalize sb.w.alloc (.cells #[.slice p h.1.length q, .slice a9 2 c9, .slice (some ⟨gk, 0, none⟩) 1 1] 22) = wb at *
    clear hbb
    have hne4 := HW.some wb
    refine wpM_only (i := 17) (by kernel_rfl) ?_
    refine mOp_call rfl (by go_simp) 188 _ #[.slice (some ⟨gb, 0, none⟩) 3 3] (fun w => by go_simp) rfl ?_
    rintro _ ⟨sc, rfl⟩
    refine (l6Blocks_c (hpB h) (some ⟨gb, 0, none⟩) 3 _ (r3.keep sc.h) (by have := HLen.out; unfold hpL at this; omega)).mono ?_
    rintro e wc ⟨uc, rfl, kc, hbx⟩
    obtain ⟨ac, cc, rfl, -⟩ := kc.rd
    refine ⟨_, rfl, ⟨⟨_, hbx⟩, rfl⟩, ?_⟩
    have hbd := Below.step sc.h hbx
    replace kc := kc.lower (show w.heap.size + 1 ≤ sc.w.heap.size from Nat.le_trans (show w.heap.size + 1 ≤ wb.heap.size from R.lt) sc.h.size)
    replace R := R.stay hbd
    replace BV := Below.step BV hbd
    clear hbd hbx
    refine wpM_end (by kernel_rfl) rfl (by kernel_rfl) (by decide) ?_
    rintro _ ⟨sz, rfl⟩
    simp only [List.drop_succ_cons, List.drop_zero]
    replace R := R.stay sz.h
    replace kc := kc.stay sz.h
    replace BV := Below.step BV sz.h
    generalize sz.w = wz at *
    have t0 := (R.cell 0).trans (show _ = some _ from rfl)
    have t1 := (R.cell 1).trans (show _ = some _ from rfl)
    have ft := R.frozen
    go_wp2_with fail
    exact bodyPost_ret (v := .agg #[.int .i64 k, .slice ac (blksN (hpB h)).length cc]) (by simp [results, Tryz.results158, go_sem, t0, t1]) rfl ⟨_, rfl, ((kc.set (Nat.lt_succ_self _) _).set (Nat.lt_succ_self _) _).lower (Nat.le_succ _), (BV.setCell (Nat.le_refl _) _).setCell (Nat.le_refl _) _⟩
end Go.Proofs.YtiabacnmmojfjabGreatDoor

/- The contract of bytes.Clone: a copy in a row of its own. What was there stays. -/
namespace Go.Proofs.YtiabacnmmojfjabGreatDoor
open Go.ChangeShapes Go.WideShapes Go.ChangeAt Go.RowKit

set_option maxRecDepth 4000 in
set_option maxHeartbeats 1000000 in
theorem bytesClone_c (p : Option Addr) (q : Nat) (bs : List UInt8) (w : World) (hr : Rd w p q bs) (hl : bs.length ≤ 1000000) :
    Calls Tryz.prog 167 #[.slice p bs.length q] w fun e w' => ∃ u, e = .returned u ∧ Own w' w.heap.size u bs ∧ Below w.heap.size w w' := by
  cases p with
  | none =>
    have hq := hr.2.2.1 rfl
    have hb : bs = [] := List.eq_nil_of_length_eq_zero (by have := hr.1; omega)
    subst hb hq
    have hnil : ∀ w, (Go.binOp .eql 22 (.slice none 0 0) (.slice none 0 0)).run Tryz.prog w = .ok (.bool true) w := by intro w; kernel_rfl
    go_enter Tryz.func167, Tryz.ntmps167
    go_wp2
    go_ret
    exact ⟨_, rfl, Own_nil _ _, Below.refl _ _⟩
  | some ad =>
    have hnil : ∀ w, (Go.binOp .eql 22 (.slice (some ad) bs.length q) (.slice none 0 0)).run Tryz.prog w = .ok (.bool false) w := by intro w; kernel_rfl
    have hr2 := hr.keep (alloc_below w (Obj.cells #[] 5))
    have ho := none_own8 w w.heap.size (Nat.le_refl _)
    go_enter Tryz.func167, Tryz.ntmps167
    go_wp2_with (at_builtin; refine wpList_append_rd rfl (.tmp 5) (.tmp 6) rfl w.heap.size _ [] rfl ho (some ad) q bs rfl hr2 (by simp; omega) (by simp) ?_; intro v' w' ho' hg')
    have RB := (alloc_below w (Obj.cells #[] 5)).grown hg' (by simp) (fun k hk => ho.ge k hk)
    go_ret
    exact ⟨_, rfl, ho', RB⟩
end Go.Proofs.YtiabacnmmojfjabGreatDoor

/- The contracts of what reads messages in the specification: l6Unpack, UnpackMsgs (code, place, messages, each of which owns its memory), SameMsgs. What was there stays. -/
namespace Go.Proofs.YtiabacnmmojfjabGreatDoor
open Go.ChangeShapes Go.WideShapes Go.ChangeAt Go.RowKit
theorem none_ownM (w : World) (B : Nat) (h : B ≤ w.heap.size) : OwnL 53 msgC (w.alloc (.cells #[] 53)) B (.slice (some ⟨w.heap.size, 0, none⟩) 0 0) [] [] [] :=
  ⟨World.ownsRow_lit (base := B) (e := 53) (size := 2) w #[] 0 h (by unfold maxLen; decide) (by simp), ⟨rfl, rfl⟩, by simp [Value.ownBlock]⟩
theorem nil_ownM (w : World) (B : Nat) : OwnL 53 msgC w B (.slice none 0 0) [] [] [] := ⟨World.ownsRow_nil _ _ _ _, ⟨rfl, rfl⟩, by simp [Value.ownBlock]⟩


theorem packAll_bulk : ∀ (l : List MsgD), bulkM l ≤ (packAll l).length
  | [] => by simp [bulkM]
  | a :: l => by
    have h := packAll_bulk l
    rw [packAll_cons, List.length_append, packW_len]
    simp only [bulkM, List.map_cons, List.sum_cons, List.length_cons] at h ⊢
    omega

def sameM (a b : List MsgD) : Bool := decide (a = b)
theorem sameM_at {a b : List MsgD} {k : Nat} {x y : MsgD} (hx : a[k]? = some x) (hy : b[k]? = some y) (h : x ≠ y) : sameM a b = false := by
  simp only [sameM, decide_eq_false_iff_not]
  intro e
  subst e
  rw [hx] at hy
  cases hy
  exact h rfl
end Go.Proofs.YtiabacnmmojfjabGreatDoor

