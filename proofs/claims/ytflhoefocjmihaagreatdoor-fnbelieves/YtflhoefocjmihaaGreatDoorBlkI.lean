/- The contract of UnpackBlocks in the program (PackBlocks': WireP.lean): code and blocks, at every argument. What was there stays. -/
import Derived.Test.YtflhoefocjmihaaGreatDoorJoint16
namespace Go.Proofs.YtflhoefocjmihaaGreatDoor
open Go.ChangeShapes Go.WideShapes Go.ChangeAt Go.RowKit

theorem numAt_drop (data : List UInt8) (k : Nat) : numAt (data.drop k) 0 = numAt data k := by simp [numAt, List.getD_eq_getElem?_getD]
theorem blkAt_drop (data : List UInt8) (k : Nat) : blkAt (data.drop k) 0 = blkAt data k := by unfold blkAt; rw [numAt_drop, List.drop_drop, Nat.zero_add]
set_option maxRecDepth 4000 in
set_option maxHeartbeats 2000000 in
theorem implUB_c (data : List UInt8) (p : Option Addr) (q : Nat) (w : World) (hr : Rd w p q data) :
    Calls Tryz.prog 126 #[.slice p data.length q] w fun e w' => ∃ v, e = .returned (.agg #[.int .i64 (ubC data), v]) ∧ (∃ xs fp, OwnL 22 bytC w' w.heap.size v (ubL data) xs fp) ∧ Below w.heap.size w w' := by
  have A0 := Arr.new w [.int .i64 0, .slice none 0 0] 158
  have B0 := alloc_below w (.cells #[.int .i64 0, .slice none 0 0] 158)
  by_cases hd : data.length ≤ 160
  · have hdI : ¬ (160 < (data.length : Int)) := by omega
    have HR : Hid (Rd w p q data) := hr
    have hq1 : data.length ≤ q := hr.1
    have hq2 : q ≤ 2 ^ 63 - 1 := hr.2.1
    obtain ⟨fin, HF⟩ : ∃ fin, Hid (fin = splitR data 0 []) := ⟨_, rfl⟩
    have HZ : Hid ((fin = none → ubC data = 5 ∧ ubL data = []) ∧ ∀ r, fin = some r → ubC data = 0 ∧ ubL data = r) :=
      ⟨fun e => ubC_none hd (by rw [← HF.out, e]), fun r e => ubC_some hd (by rw [← HF.out, e])⟩
    clear hr
    go_enter Tryz.func126, Tryz.ntmps126
    go_wp2_with fail
    go_loopw [3, 4] (fun v i wr => ∃ (at_ : Nat) (out : List BlkD) (xs : List Value) (fp : List Nat), at_ ≤ data.length ∧ i = .int .i64 at_ ∧ OwnL 22 bytC wr (w.heap.size + 1) v out xs fp ∧ out.length ≤ 8 ∧ fin = splitR data at_ out ∧ Arr wr w.heap.size 158 [.int .i64 0, .slice none 0 0] ∧ Below w.heap.size w wr)
      (fun _ i _ => data.length - (intOf i).toNat)
    case atStart => exact ⟨0, [], [], [], Nat.zero_le _, rfl, nil_ownB _ _, by decide, HF.out, A0, B0⟩
    case round =>
      clear A0 B0 HF
      obtain ⟨at_, out, xs, fp, hat, rfl, ho, hol, hfin, A, BW⟩ := hrel
      have HFN : Hid (fin = splitR data at_ out) := hfin
      clear hfin
      obtain ⟨po, qo, rfl, hord⟩ := ho.rd
      have hqo1 : out.length ≤ qo := hord.1
      have hqo2 : qo ≤ 2 ^ 63 - 1 := hord.2.1
      by_cases hlt : at_ < data.length
      · have hI : (at_ : Int) < (data.length : Int) := by omega
        obtain ⟨b, o, e1, -⟩ := (HR.out.keep BW).2.2.2 (by omega)
        have HPE : Hid (p = some ⟨b, o, none⟩) := e1
        rw [HPE.out]
        have hqa : ¬ (q = at_) := by omega
        have hdl : Hid ((data.drop at_).length = data.length - at_) := List.length_drop
        have HD : Hid (Rd wr (some ⟨b, o + at_, none⟩) (q - at_) (data.drop at_)) := by
          have h := HR.out.keep BW
          rw [HPE.out] at h
          have hcut := h.cut at_ (data.length - at_) (q - at_) (by omega) (by omega) (by have := HR.out.2.1; omega)
          rw [List.take_of_length_le (by rw [hdl.out]; omega)] at hcut
          exact hcut
        clear hord e1
        by_cases h2 : 120 < numAt data at_ ∨ data.length - at_ - 1 < numAt data at_
        · have HE : Hid (fin = none) := by show _ = _; rw [HFN.out, splitR_none hlt (by omega)]
          have K : Hid (Calls Tryz.prog 155 #[.slice (some ⟨b, o + at_, none⟩) (data.length - at_) (q - at_)] wr fun e w' => e = .returned (.tuple #[.slice none 0 0, .bool false]) ∧ Below wr.heap.size wr w') := by
            have h := firstBlock_no b (o + at_) (q - at_) (data.drop at_) wr HD.out (by rw [hdl.out]; omega) (by rw [numAt_drop, hdl.out]; exact h2)
            rw [hdl.out] at h
            exact h
          clear HD HFN hdl h2
          go_wp2_with fail
          refine K.out.mono ?_
          rintro e w2 ⟨rfl, hb⟩
          have A2 := A.stay hb
          have B2 := Below.step BW hb
          have c0 := A2.cell 0
          have c1 := A2.cell 1
          have fz := A2.frozen
          simp at c0 c1
          clear A A2 BW K hb ho
          go_wp2_with fail
          exact bodyPost_ret (v := .agg #[.int .i64 5, .slice none 0 0]) (by simp [results, Tryz.results126, go_sem, c0, c1]) rfl ⟨_, by rw [(HZ.out.1 HE.out).1], ⟨_, _, by rw [(HZ.out.1 HE.out).2]; exact nil_ownB _ _⟩, (B2.setCell (Nat.le_refl _) _).setCell (Nat.le_refl _) _⟩
        · have K : Hid (Calls Tryz.prog 155 #[.slice (some ⟨b, o + at_, none⟩) (data.length - at_) (q - at_)] wr fun e w' => ∃ u, e = .returned (.tuple #[u, .bool true]) ∧ Own w' wr.heap.size u (blkAt data at_) ∧ Below wr.heap.size wr w') := by
            have h := firstBlock_ok b (o + at_) (q - at_) (data.drop at_) wr HD.out (by rw [hdl.out]; omega) (by rw [numAt_drop, hdl.out]; exact h2)
            rw [hdl.out, blkAt_drop] at h
            exact h
          have HBL : Hid ((blkAt data at_).length = numAt data at_) := by show _ = _; unfold blkAt; rw [List.length_take, List.length_drop]; omega
          have HNX : Hid (at_ + 1 + numAt data at_ ≤ data.length) := by show _ ≤ _; omega
          have hnI : ((numAt data at_ : Nat) : Int) ≤ 160 := by omega
          by_cases h8 : out.length = 8
          · have h8I : ((out.length : Int) == 8) = true := by rw [beq_iff_eq]; omega
            have HE : Hid (fin = none) := by show _ = _; rw [HFN.out, splitR_none hlt (by omega)]
            clear HD HFN hdl h2 h8
            generalize blkAt data at_ = body at *
            generalize numAt data at_ = n at *
            go_wp2_with fail
            refine K.out.mono ?_
            rintro e w2 ⟨u2, rfl, -, hb⟩
            have A2 := A.stay hb
            have B2 := Below.step BW hb
            have c0 := A2.cell 0
            have c1 := A2.cell 1
            have fz := A2.frozen
            simp at c0 c1
            clear A A2 BW K hb ho
            go_wp2_with fail
            exact bodyPost_ret (v := .agg #[.int .i64 5, .slice none 0 0]) (by simp [results, Tryz.results126, go_sem, c0, c1]) rfl ⟨_, by rw [(HZ.out.1 HE.out).1], ⟨_, _, by rw [(HZ.out.1 HE.out).2]; exact nil_ownB _ _⟩, (B2.setCell (Nat.le_refl _) _).setCell (Nat.le_refl _) _⟩
          · have h8I : ((out.length : Int) == 8) = false := by rw [beq_eq_false_iff_ne]; omega
            have HN : Hid (fin = splitR data (at_ + 1 + numAt data at_) (out ++ [blkAt data at_])) := by show _ = _; rw [HFN.out, splitR_next hlt (by omega)]
            have HOL : Hid ((out ++ [blkAt data at_]).length ≤ 8) := by show _ ≤ _; rw [List.length_append, List.length_singleton]; omega
            clear HD HFN hdl h2 h8
            generalize blkAt data at_ = body at *
            generalize numAt data at_ = n at *
            go_wp2_with fail
            refine K.out.mono ?_
            rintro e w2 ⟨u2, rfl, k2, hb2⟩
            obtain ⟨pv, qv, rfl, -⟩ := k2.rd
            rw [HBL.out] at k2 ⊢
            have hw2 : Hid (wr.heap.size ≤ w2.heap.size) := hb2.size
            have hnew : ∀ j u, [Value.slice pv n qv][j]? = some u → (w2.alloc (.cells #[.slice pv n qv] 22)).cell? ((⟨w2.heap.size, 0, none⟩ : Addr).add j) = some u := fun j u hj => (Arr.new w2 [.slice pv n qv] 22).cells j u hj
            have hb4 := alloc_below w2 (.cells #[.slice pv n qv] 22)
            have k5 := k2.stay hb4
            have hb5 := Below.step hb2 hb4
            have ho5 := ho.stay hb5
            have A5 := A.stay hb5
            have BW5 := Below.step BW hb5
            have hrow5 : Hid ((w2.alloc (.cells #[.slice pv n qv] 22)).ownsRow (w.heap.size + 1) 22 1 (.slice po out.length qo) out.length xs) := ho5.row
            have hlow : Hid (∀ j, (Value.slice pv n qv).ownBlock = some j → wr.heap.size ≤ j) := fun j hj => k5.ge j hj
            have hinsO : Hid (∀ j, j ∈ (Value.slice po out.length qo).ownBlock.toList ++ fp → w.heap.size + 1 ≤ j ∧ j < wr.heap.size) := fun j hj => ho.ins j hj
            have hzA : Hid (w.heap.size < wr.heap.size) := A.lt
            have hz5 : Hid (w.heap.size + 1 ≤ (w2.alloc (.cells #[.slice pv n qv] 22)).heap.size) := by have := A5.lt; show _ ≤ _; omega
            obtain ⟨i0, hi, hz0, hz1, hz2⟩ := info_parts infoBlk
            go_wp2_with (at_builtin; go_loud (refine wpList_append_lies _ rfl (.tmp 30) (.tmp 32) 24 rfl (w.heap.size + 1) 22 i0 (.slice none 0 0) 1 24 Tryz.underlying24 hi hz0 hz1 hz2 rfl (by decide) (.slice po out.length qo) out.length xs rfl hrow5.out ⟨w2.heap.size, 0, none⟩ 1 1 [.slice pv n qv] rfl rfl hnew (by intro u hu; simp at hu; subst hu; rfl) (by decide) (by unfold maxLen; omega) (by omega) hz5.out _ rfl ?_); intro g6 c6 w6 hown6 hgrow6 hat6 hlt6)
            have ka := blk_own_mk (a := body) (k5.lower (B' := w.heap.size + 1) hzA.out)
            have OP := ho5.push ka (fun j hj hj2 => by
              have h1 := hlow.out j (mem_opt.1 hj)
              have h2 := (hinsO.out j hj2).2
              omega) (k := out.length + 1) (v' := .slice (some ⟨g6, 0, none⟩) (out.length + 1) c6) (g := g6) hown6 (by simp) hgrow6 rfl hat6
            have BW6 := BW5.grown hgrow6 BW5.size (fun k hk => by have h := (hinsO.out k (List.mem_append_left _ (mem_opt.2 hk))).1; omega)
            have A6 := A5.other hgrow6 (fun e => by have h := (hinsO.out _ (List.mem_append_left _ (mem_opt.2 e))).1; omega)
            clear ho ho5 k2 k5 hown6 hgrow6 hat6 hnew hrow5 ka BW5 BW hb2 hb4 hb5 A A5 K
            go_roundw
            case rel => exact ⟨at_ + 1 + n, out ++ [body], _, _, HNX.out, by go_num, OP, HOL.out, HN.out, A6, BW6⟩
            case measure => have := HNX.out; simp [intOf]; omega
      · have e : at_ = data.length := by omega
        subst e
        have HE : Hid (fin = some out) := by show _ = _; rw [HFN.out, splitR_end (by omega)]
        have c0 := A.cell 0
        have c1 := A.cell 1
        have fz := A.frozen
        simp at c0 c1
        clear A hord
        go_wp2_with fail
        refine bodyPost_ret (v := .agg #[.int .i64 0, .slice po out.length qo]) (by simp [results, Tryz.results126, go_sem, c0, c1]) rfl ⟨_, by rw [(HZ.out.2 _ HE.out).1], ⟨xs, fp, ?_⟩, (BW.setCell (Nat.le_refl _) _).setCell (Nat.le_refl _) _⟩
        rw [(HZ.out.2 _ HE.out).2]
        refine (ho.fr fun k hk => ?_).low (Nat.le_succ _)
        have h1 := (ho.ins k hk).1
        rw [heap_setCell_other _ _ k _ (by show k ≠ w.heap.size; omega), heap_setCell_other _ _ k _ (by show k ≠ w.heap.size; omega)]
  · have hI : 160 < (data.length : Int) := by omega
    rw [(ubC_many hd).1, (ubC_many hd).2]
    go_enter Tryz.func126, Tryz.ntmps126
    go_wp2
    exact bodyPost_ret (v := .agg #[.int .i64 2, .slice none 0 0]) (by simp [results, Tryz.results126, go_sem]) rfl ⟨_, rfl, ⟨_, _, nil_ownB _ _⟩, alloc_below _ _⟩
end Go.Proofs.YtflhoefocjmihaaGreatDoor

