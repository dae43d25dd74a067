/- The contracts of chapter 6's functions on messages in the program: MsgFault, PackMsg, PackMsgs, UnpackMsgs, SameMsgs: code, place, bytes and messages, at every argument. What was there stays. -/
import Derived.Test.YtoneggbbfjenpaaWireU
import Derived.Test.YtoneggbbfjenpaaWireJ
namespace Go.Proofs.Ytoneggbbfjenpaa
open Go.ChangeShapes Go.WideShapes Go.ChangeAt Go.RowKit

theorem implMF_c (a : MsgD) (p : Option Addr) (q : Nat) (w : World) (_hr : Rd w p q a.2) :
    Calls Try.prog 18 #[.agg #[.int .i64 a.1, .slice p a.2.length q]] w fun e w' => e = .returned (.int .i64 (faultW a.1 a.2.length)) ∧ Below w.heap.size w w' := implMF_n a.1 a.2.length q p w

theorem pk_one (k : Int) (p : Option Addr) (q : Nat) (bs : List UInt8) : pkC [⟨true, k, p, q, bs⟩] 600 = faultW k bs.length ∧ pkL [⟨true, k, p, q, bs⟩] 600 = pmL (k, bs) := by
  have hf : Pi.fc ⟨true, k, p, q, bs⟩ = faultW k bs.length := rfl
  have ho : pisO [⟨true, k, p, q, bs⟩] = packW k bs := by simp [pisO, Pi.out, Pi.hd, packW]
  by_cases h : faultW k bs.length = 0
  · have e : pisF [⟨true, k, p, q, bs⟩] = 0 := by rw [pisF, hf, if_pos h, pisF]
    have h2 := pkC_ok (top := 600) e (by rw [ho, packW_len]; have := (faultW_zero h).2; omega)
    exact ⟨by rw [h2.1, h], by rw [h2.2, ho, pmL, if_pos h]⟩
  · have e : pisF [⟨true, k, p, q, bs⟩] = faultW k bs.length := by rw [pisF, hf, if_neg h]
    have h2 := pkC_fault (top := 600) (l := [⟨true, k, p, q, bs⟩]) (by rw [e]; exact h)
    exact ⟨by rw [h2.1, e], by rw [h2.2, pmL, if_neg h]⟩
set_option maxRecDepth 4000 in
set_option maxHeartbeats 1000000 in
theorem implPM_c (a : MsgD) (p : Option Addr) (q : Nat) (w : World) (hr : Rd w p q a.2) :
    Calls Try.prog 17 #[.agg #[.int .i64 a.1, .slice p a.2.length q]] w fun e w' => ∃ u, e = .returned (.agg #[.int .i64 (faultW a.1 a.2.length), u]) ∧ Own w' w.heap.size u (pmL a) ∧ Below w.heap.size w w' := by
  obtain ⟨k, bs⟩ := a
  obtain ⟨e1, e2⟩ := pk_one k p q bs
  simp only at hr ⊢
  rw [← e1, ← e2]
  clear e1 e2
  have B1 := Below.mk (alloc_below w (.cells #[.int .i64 k, .slice p bs.length q] 36)) (.cells #[.int .i64 0, .slice none 0 0] 31)
  have A1 := Arr.new (w.alloc (.cells #[.int .i64 k, .slice p bs.length q] 36)) [.int .i64 0, .slice none 0 0] 31
  have B2 := Below.mk B1 (.cells #[.iface 71 (.agg #[.int .i64 k, .slice p bs.length q])] 73)
  have A2 := A1.old _ (.cells #[.iface 71 (.agg #[.int .i64 k, .slice p bs.length q])] 73)
  rw [size_alloc] at A2
  have K : Hid (∀ W, Pis W (w.heap.size + 1 + 1) 0 [⟨true, k, p, q, bs⟩] → Calls Try.prog 51 #[.slice (some ⟨w.heap.size + 1 + 1, 0, none⟩) 1 1, .int .i64 600] W fun e w' => ∃ u, e = .returned (.agg #[.int .i64 (pkC [⟨true, k, p, q, bs⟩] 600), u]) ∧ Own w' W.heap.size u (pkL [⟨true, k, p, q, bs⟩] 600) ∧ Below W.heap.size W w') := fun W hP => packed_c [⟨true, k, p, q, bs⟩] (w.heap.size + 1 + 1) 0 1 600 W hP (by simp) (by decide)
  have HP : Hid (Pis (((w.alloc (.cells #[.int .i64 k, .slice p bs.length q] 36)).alloc (.cells #[.int .i64 0, .slice none 0 0] 31)).alloc (.cells #[.iface 71 (.agg #[.int .i64 k, .slice p bs.length q])] 73)) (w.heap.size + 1 + 1) 0 [⟨true, k, p, q, bs⟩]) := by
    have hA := Arr.new ((w.alloc (.cells #[.int .i64 k, .slice p bs.length q] 36)).alloc (.cells #[.int .i64 0, .slice none 0 0] 31)) [.iface 71 (.agg #[.int .i64 k, .slice p bs.length q])] 73
    rw [size_alloc, size_alloc] at hA
    intro i x hx
    rw [Nat.zero_add, hA.cell]
    match i, hx with
    | 0, hx => simp at hx; subst hx; exact ⟨rfl, hr.keep B2⟩
    | i + 1, hx => simp at hx
  obtain ⟨pc, HPC⟩ : ∃ pc, Hid (pc = pkC [⟨true, k, p, q, bs⟩] 600) := ⟨_, rfl⟩
  obtain ⟨pl, HPL⟩ : ∃ pl, Hid (pl = pkL [⟨true, k, p, q, bs⟩] 600) := ⟨_, rfl⟩
  rw [← HPC.out, ← HPL.out] at K ⊢
  clear HPC HPL hr A1 B1
  go_enter Try.func17, Try.ntmps17
  go_wp2_with fail
  refine (K.out _ HP.out).mono ?_
  rintro e w3 ⟨u3, rfl, k3, hb3⟩
  have BW := Below.step B2 hb3
  have A3 := A2.stay hb3
  rw [size_alloc, size_alloc, size_alloc] at k3
  obtain ⟨p3, q3, rfl, -⟩ := k3.rd
  have c0 := A3.cell 0
  have c1 := A3.cell 1
  have fz := A3.frozen
  simp at c0 c1
  clear A2 A3 B2 HP K hb3
  go_wp2_with fail
  refine bodyPost_ret (v := .agg #[.int .i64 pc, .slice p3 pl.length q3]) (by simp [results, Try.results17, go_sem, c0, c1]) rfl ⟨_, rfl, ?_, (BW.setCell (by show w.heap.size ≤ w.heap.size + 1; omega) _).setCell (by show w.heap.size ≤ w.heap.size + 1; omega) _⟩
  exact ((k3.set (a := ⟨w.heap.size + 1, 0, none⟩) (by show w.heap.size + 1 < _; omega) _).set (a := ⟨w.heap.size + 1, 1, none⟩) (by show w.heap.size + 1 < _; omega) _).lower (B' := w.heap.size) (by omega)

theorem lenAt_drop (data : List UInt8) (k : Nat) : lenAt (data.drop k) 0 = lenAt data k := by unfold lenAt; rw [List.drop_drop, Nat.zero_add]
theorem bodyAt_drop (data : List UInt8) (k : Nat) : bodyAt (data.drop k) 0 = bodyAt data k := by unfold bodyAt; rw [lenAt_drop, List.drop_drop, Nat.zero_add]
theorem at8_drop (data : List UInt8) (k : Nat) : at8 (data.drop k) 0 = at8 data k := by simp [at8, List.getD_eq_getElem?_getD]
set_option maxRecDepth 4000 in
set_option maxHeartbeats 2000000 in
theorem implUM_c (data : List UInt8) (p : Option Addr) (q : Nat) (w : World) (hr : Rd w p q data) :
    Calls Try.prog 11 #[.slice p data.length q] w fun e w' => ∃ v xs fp, e = .returned (.agg #[.int .i64 (umC data).1, .int .i64 (umC data).2.1, v]) ∧ OwnL 36 msgC w' w.heap.size v (umC data).2.2 xs fp ∧ Below w.heap.size w w' := by
  have A0 := Arr.new w [.int .i64 0, .int .i64 0, .slice none 0 0] 27
  have B0 := alloc_below w (.cells #[.int .i64 0, .int .i64 0, .slice none 0 0] 27)
  by_cases hd : data.length ≤ 600
  · have hdI : ¬ (600 < (data.length : Int)) := by omega
    rw [umC_le hd]
    have HR : Hid (Rd w p q data) := hr
    have hq1 : data.length ≤ q := hr.1
    have hq2 : q ≤ 2 ^ 63 - 1 := hr.2.1
    obtain ⟨fin, HF⟩ : ∃ fin, Hid (fin = unpackR data 0 []) := ⟨_, rfl⟩
    rw [← HF.out]
    clear hr
    go_enter Try.func11, Try.ntmps11
    go_wp2_with fail
    go_loopw [3, 4] (fun v i wr => ∃ (at_ : Nat) (out : List MsgD) (xs : List Value) (fp : List Nat), at_ ≤ data.length ∧ i = .int .i64 at_ ∧ OwnL 36 msgC wr (w.heap.size + 1) v out xs fp ∧ out.length ≤ 12 ∧ fin = unpackR data at_ out ∧ Arr wr w.heap.size 27 [.int .i64 0, .int .i64 0, .slice none 0 0] ∧ Below w.heap.size w wr)
      (fun _ i _ => data.length - (intOf i).toNat)
    case atStart => exact ⟨0, [], [], [], Nat.zero_le _, rfl, nil_ownM _ _, by decide, HF.out, A0, B0⟩
    case round =>
      clear A0 B0 HF
      obtain ⟨at_, out, xs, fp, hat, rfl, ho, hol, hfin, A, BW⟩ := hrel
      have HFN : Hid (fin = unpackR data at_ out) := hfin
      clear hfin
      obtain ⟨po, qo, rfl, hord⟩ := ho.rd
      have hqo1 : out.length ≤ qo := hord.1
      have hqo2 : qo ≤ 2 ^ 63 - 1 := hord.2.1
      by_cases hlt : at_ < data.length
      · have hI : (at_ : Int) < (data.length : Int) := by omega
        obtain ⟨b, o, e1, -⟩ := (HR.out.keep BW).2.2.2 (by omega)
        have HPE : Hid (p = some ⟨b, o, none⟩) := e1
        rw [HPE.out]
        have hqa : ¬ (q = at_) := by omega
        have hdl : Hid ((data.drop at_).length = data.length - at_) := List.length_drop
        have HD : Hid (Rd wr (some ⟨b, o + at_, none⟩) (q - at_) (data.drop at_)) := by
          have h := HR.out.keep BW
          rw [HPE.out] at h
          have hcut := h.cut at_ (data.length - at_) (q - at_) (by omega) (by omega) (by have := HR.out.2.1; omega)
          rw [List.take_of_length_le (by rw [hdl.out]; omega)] at hcut
          exact hcut
        clear hord e1
        have KK : (∃ fc : Int, (fc != 0) = true ∧ fin = (fc, (at_ : Int), []) ∧ Calls Try.prog 49 #[.slice (some ⟨b, o + at_, none⟩) (data.length - at_) (q - at_), .int .i64 (out.length : Int)] wr fun e w' => e = .returned (.tuple #[.agg #[.int .i64 0, .slice none 0 0], .int .i64 fc]) ∧ Below wr.heap.size wr w') ∨
            (fin = unpackR data (at_ + 4 + lenAt data at_) (out ++ [msgAt data at_]) ∧ at_ + 4 + lenAt data at_ ≤ data.length ∧ (out ++ [msgAt data at_]).length ≤ 12 ∧ (bodyAt data at_).length = lenAt data at_ ∧ Calls Try.prog 49 #[.slice (some ⟨b, o + at_, none⟩) (data.length - at_) (q - at_), .int .i64 (out.length : Int)] wr fun e w' => ∃ u, e = .returned (.tuple #[.agg #[.int .i64 (at8 data at_), u], .int .i64 0]) ∧ Own w' wr.heap.size u (bodyAt data at_) ∧ Below wr.heap.size wr w') := by
          by_cases h4 : data.length - at_ < 4
          · refine .inl ⟨5, rfl, by rw [HFN.out, unpackR_short hlt h4], ?_⟩
            have h := firstMsg_short b (o + at_) (q - at_) out.length (data.drop at_) wr (by rw [hdl.out]; exact h4)
            rw [hdl.out] at h
            exact h
          · by_cases h2 : 160 < lenAt data at_ ∨ 12 ≤ out.length
            · refine .inl ⟨2, rfl, by rw [HFN.out, unpackR_many hlt h4 h2], ?_⟩
              have h := firstMsg_many b (o + at_) (q - at_) out.length (data.drop at_) wr HD.out (by rw [hdl.out]; exact h4) (by rw [lenAt_drop]; omega)
              rw [hdl.out] at h
              exact h
            · by_cases h6 : data.length - at_ - 4 < lenAt data at_
              · refine .inl ⟨5, rfl, by rw [HFN.out, unpackR_less hlt h4 h2 h6], ?_⟩
                have h := firstMsg_less b (o + at_) (q - at_) out.length (data.drop at_) wr HD.out (by rw [hdl.out]; exact h4) (by rw [lenAt_drop]; omega) (by rw [lenAt_drop, hdl.out]; exact h6)
                rw [hdl.out] at h
                exact h
              · refine .inr ⟨by rw [HFN.out, unpackR_next hlt h4 h2 h6], by omega, by rw [List.length_append, List.length_singleton]; omega, by unfold bodyAt; rw [List.length_take, List.length_drop]; omega, ?_⟩
                have h := firstMsg_ok b (o + at_) (q - at_) out.length (data.drop at_) wr HD.out (by rw [hdl.out]; exact h4) (by rw [lenAt_drop]; omega) (by rw [lenAt_drop, hdl.out]; exact h6)
                rw [hdl.out, at8_drop, bodyAt_drop] at h
                exact h
        clear HD HFN hdl
        rcases KK with ⟨fc, hfc, he, k⟩ | ⟨he, hnx, hol2, hbl, k⟩
        · have HE : Hid (fin = (fc, (at_ : Int), [])) := he
          have K : Hid (Calls Try.prog 49 #[.slice (some ⟨b, o + at_, none⟩) (data.length - at_) (q - at_), .int .i64 (out.length : Int)] wr fun e w' => e = .returned (.tuple #[.agg #[.int .i64 0, .slice none 0 0], .int .i64 fc]) ∧ Below wr.heap.size wr w') := k
          clear he k
          go_wp2_with fail
          refine K.out.mono ?_
          rintro e w2 ⟨rfl, hb⟩
          have A2 := (A.stay hb).old _ (.cells #[.int .i64 0, .slice none 0 0] 36)
          have B2 := Below.mk (Below.step BW hb) (.cells #[.int .i64 0, .slice none 0 0] 36)
          have c0 := A2.cell 0
          have c1 := A2.cell 1
          have c2 := A2.cell 2
          have fz := A2.frozen
          simp at c0 c1 c2
          clear A A2 BW K hb ho
          go_wp2_with fail
          exact bodyPost_ret (v := .agg #[.int .i64 fc, .int .i64 (at_ : Int), .slice none 0 0]) (by simp [results, Try.results11, go_sem, c0, c1, c2]) rfl ⟨_, _, _, by rw [HE.out], by rw [HE.out]; exact nil_ownM _ _, ((B2.setCell (Nat.le_refl _) _).setCell (Nat.le_refl _) _).setCell (Nat.le_refl _) _⟩
        · have HN : Hid (fin = unpackR data (at_ + 4 + lenAt data at_) (out ++ [msgAt data at_])) := he
          have HNX : Hid (at_ + 4 + lenAt data at_ ≤ data.length) := hnx
          have HOL : Hid ((out ++ [msgAt data at_]).length ≤ 12) := hol2
          have HBL : Hid ((bodyAt data at_).length = lenAt data at_) := hbl
          have HMA : Hid (msgAt data at_ = (at8 data at_, bodyAt data at_)) := rfl
          have K : Hid (Calls Try.prog 49 #[.slice (some ⟨b, o + at_, none⟩) (data.length - at_) (q - at_), .int .i64 (out.length : Int)] wr fun e w' => ∃ u, e = .returned (.tuple #[.agg #[.int .i64 (at8 data at_), u], .int .i64 0]) ∧ Own w' wr.heap.size u (bodyAt data at_) ∧ Below wr.heap.size wr w') := k
          have hnI : ((lenAt data at_ : Nat) : Int) ≤ 600 := by omega
          clear he hnx hol2 hbl k
          generalize bodyAt data at_ = body at *
          generalize lenAt data at_ = n at *
          generalize at8 data at_ = kd at *
          go_wp2_with fail
          refine K.out.mono ?_
          rintro e w2 ⟨u2, rfl, k2, hb2⟩
          obtain ⟨pv, qv, rfl, -⟩ := k2.rd
          rw [HBL.out] at k2 ⊢
          have hw2 : Hid (wr.heap.size ≤ w2.heap.size) := hb2.size
          have M3 := (Arr.new w2 [.int .i64 kd, .slice pv n qv] 36).old _ (.cells #[.int .i64 kd, .slice pv n qv] 36)
          have hnew : ∀ j u, [Value.int .i64 kd, .slice pv n qv][j]? = some u → ((w2.alloc (.cells #[.int .i64 kd, .slice pv n qv] 36)).alloc (.cells #[.int .i64 kd, .slice pv n qv] 36)).cell? ((⟨w2.heap.size + 1, 0, none⟩ : Addr).add j) = some u := fun j u hj => by
            have h := (Arr.new (w2.alloc (.cells #[.int .i64 kd, .slice pv n qv] 36)) [.int .i64 kd, .slice pv n qv] 36).cells j u hj
            rw [size_alloc] at h
            exact h
          have hb4 := Below.mk (alloc_below w2 (.cells #[.int .i64 kd, .slice pv n qv] 36)) (.cells #[.int .i64 kd, .slice pv n qv] 36)
          have k5 := k2.stay hb4
          have hb5 := Below.step hb2 hb4
          have ho5 := ho.stay hb5
          have A5 := A.stay hb5
          have BW5 := Below.step BW hb5
          have hrow5 : Hid (((w2.alloc (.cells #[.int .i64 kd, .slice pv n qv] 36)).alloc (.cells #[.int .i64 kd, .slice pv n qv] 36)).ownsRow (w.heap.size + 1) 36 2 (.slice po out.length qo) out.length xs) := ho5.row
          have hlow : Hid (∀ j, (Value.slice pv n qv).ownBlock = some j → wr.heap.size ≤ j) := fun j hj => k5.ge j hj
          have hinsO : Hid (∀ j, j ∈ (Value.slice po out.length qo).ownBlock.toList ++ fp → w.heap.size + 1 ≤ j ∧ j < wr.heap.size) := fun j hj => ho.ins j hj
          have hzA : Hid (w.heap.size < wr.heap.size) := A.lt
          have hz5 : Hid (w.heap.size + 1 ≤ ((w2.alloc (.cells #[.int .i64 kd, .slice pv n qv] 36)).alloc (.cells #[.int .i64 kd, .slice pv n qv] 36)).heap.size) := by have := A5.lt; show _ ≤ _; omega
          have hneO : Hid ((Value.slice po out.length qo).ownBlock ≠ some w2.heap.size) := fun e => by have h := (hinsO.out _ (List.mem_append_left _ (mem_opt.2 e))).2; have := hw2.out; omega
          obtain ⟨i0, hi, hz0, hz1, hz2⟩ := info_parts infoMsg
          go_wp2_with (at_builtin; go_loud (refine wpList_append_lies _ rfl (.tmp 29) (.tmp 31) 25 rfl (w.heap.size + 1) 36 i0 (.agg #[.int .i64 0, .slice none 0 0]) 2 32 Try.underlying25 hi hz0 hz1 hz2 rfl (by decide) (.slice po out.length qo) out.length xs rfl hrow5.out ⟨w2.heap.size + 1, 0, none⟩ 1 1 [.int .i64 kd, .slice pv n qv] rfl rfl hnew (by intro u hu; simp at hu; rcases hu with rfl | rfl <;> rfl) (by decide) (by unfold maxLen; omega) (by omega) hz5.out _ rfl ?_); intro g6 c6 w6 hown6 hgrow6 hat6 hlt6; have m1 := (M3.other hgrow6 hneO.out).cell 1; simp at m1)
          have ka := msg_own_mk (a := (kd, body)) (k5.lower (B' := w.heap.size + 1) hzA.out)
          have OP := ho5.push ka (fun j hj hj2 => by
            have h1 := hlow.out j (mem_opt.1 hj)
            have h2 := (hinsO.out j hj2).2
            omega) (k := out.length + 1) (v' := .slice (some ⟨g6, 0, none⟩) (out.length + 1) c6) (g := g6) hown6 (by simp) hgrow6 rfl hat6
          have BW6 := BW5.grown hgrow6 BW5.size (fun k hk => by have h := (hinsO.out k (List.mem_append_left _ (mem_opt.2 hk))).1; omega)
          have A6 := A5.other hgrow6 (fun e => by have h := (hinsO.out _ (List.mem_append_left _ (mem_opt.2 e))).1; omega)
          rw [← HMA.out] at OP
          clear ho ho5 k2 k5 hown6 hgrow6 hat6 hnew hrow5 ka BW5 BW hb2 hb4 hb5 M3 m1 A A5 K
          go_roundw
          case rel => exact ⟨at_ + 4 + n, out ++ [msgAt data at_], _, _, HNX.out, by go_num, OP, HOL.out, HN.out, A6, BW6⟩
          case measure => have := HNX.out; simp [intOf]; omega
      · have e : at_ = data.length := by omega
        subst e
        have HE : Hid (fin = (0, 0, out)) := by show _ = _; rw [HFN.out, unpackR_end (by omega)]
        have c0 := A.cell 0
        have c1 := A.cell 1
        have c2 := A.cell 2
        have fz := A.frozen
        simp at c0 c1 c2
        clear A hord
        go_wp2_with fail
        refine bodyPost_ret (v := .agg #[.int .i64 0, .int .i64 0, .slice po out.length qo]) (by simp [results, Try.results11, go_sem, c0, c1, c2]) rfl ⟨_, xs, fp, by rw [HE.out], ?_, ((BW.setCell (Nat.le_refl _) _).setCell (Nat.le_refl _) _).setCell (Nat.le_refl _) _⟩
        rw [HE.out]
        refine (ho.fr fun k hk => ?_).low (Nat.le_succ _)
        have h1 := (ho.ins k hk).1
        rw [heap_setCell_other _ _ k _ (by show k ≠ w.heap.size; omega), heap_setCell_other _ _ k _ (by show k ≠ w.heap.size; omega), heap_setCell_other _ _ k _ (by show k ≠ w.heap.size; omega)]
  · have hI : 600 < (data.length : Int) := by omega
    rw [umC_many hd]
    go_enter Try.func11, Try.ntmps11
    go_wp2
    exact bodyPost_ret (v := .agg #[.int .i64 2, .int .i64 0, .slice none 0 0]) (by simp [results, Try.results11, go_sem]) rfl ⟨_, _, _, rfl, nil_ownM _ _, alloc_below _ _⟩

set_option maxRecDepth 4000 in
set_option maxHeartbeats 1000000 in
theorem sameMsg_c (x y : MsgD) (px py : Option Addr) (qx qy : Nat) (w : World) (rx : Rd w px qx x.2) (ry : Rd w py qy y.2) :
    Calls Try.prog 54 #[.agg #[.int .i64 x.1, .slice px x.2.length qx], .agg #[.int .i64 y.1, .slice py y.2.length qy]] w fun e w' => e = .returned (.bool (decide (x = y))) ∧ Below w.heap.size w w' := by
  obtain ⟨k, bs⟩ := x
  obtain ⟨k2, bs2⟩ := y
  simp only at rx ry ⊢
  have B0 := Below.mk (alloc_below w (.cells #[.int .i64 k, .slice px bs.length qx] 36)) (.cells #[.int .i64 k2, .slice py bs2.length qy] 36)
  have K : Hid (∀ W, Below w.heap.size w W → Calls Try.prog 73 #[.slice px bs.length qx, .slice py bs2.length qy] W fun e w' => e = .returned (.bool (sameB bs bs2)) ∧ Below W.heap.size W w') := fun W h => implSame_c px py qx qy bs bs2 W (rx.keep h) (ry.keep h)
  by_cases h1 : k = k2
  · have h1I : (k == k2) = true := by simp [h1]
    have HD : Hid (decide ((k, bs) = (k2, bs2)) = sameB bs bs2) := by
      show _ = _
      rw [Bool.eq_iff_iff]; simp [sameB, h1]
    rw [HD.out]
    clear h1 HD
    go_enter Try.func54, Try.ntmps54
    go_wp2_with fail
    refine (K.out _ B0).mono ?_
    rintro e w2 ⟨rfl, hb⟩
    have B2 := Below.step B0 hb
    go_wp2_with fail
    go_ret
    exact ⟨rfl, B2⟩
  · have h1I : (k == k2) = false := by simp [h1]
    have HD : Hid (decide ((k, bs) = (k2, bs2)) = false) := by show _ = _; simp [h1]
    rw [HD.out]
    clear h1 HD
    go_enter Try.func54, Try.ntmps54
    go_wp2_with fail
    go_ret
    exact ⟨rfl, B0⟩

set_option maxRecDepth 4000 in
set_option maxHeartbeats 1000000 in
theorem equalFunc_c (a b : List MsgD) (p p2 : Option Addr) (q q2 : Nat) (w : World) (hr : RdL msgC w p q a) (hr2 : RdL msgC w p2 q2 b) :
    Calls Try.prog 53 #[.slice p a.length q, .slice p2 b.length q2, .func (.func 54) #[] #[]] w fun e w' => e = .returned (.bool (sameM a b)) ∧ Below w.heap.size w w' := by
  have HR : Hid (RdL msgC w p q a) := hr
  have HR2 : Hid (RdL msgC w p2 q2 b) := hr2
  have hq1 : a.length ≤ q := hr.1
  have hq2 : q ≤ 2 ^ 63 - 1 := hr.2.1
  clear hr hr2
  by_cases hl : a.length = b.length
  · have hd : ((a.length : Int) != (b.length : Int)) = false := by rw [bne_eq_false_iff_eq]; omega
    have HL : Hid (a.length = b.length) := hl
    clear hl
    go_enter Try.func53, Try.ntmps53
    go_wp2_with fail
    go_loopw [17] (fun i wr => ∃ k : Nat, k ≤ a.length ∧ i = .int .i64 k ∧ a.take k = b.take k ∧ Below w.heap.size w wr)
      (fun i _ => a.length - (intOf i).toNat)
    case atStart => exact ⟨0, Nat.zero_le _, rfl, by simp, Below.refl _ _⟩
    case round =>
      obtain ⟨k, hk, rfl, htk, BW⟩ := hrel
      have HTK : Hid (a.take k = b.take k) := htk
      clear htk
      by_cases hlt : k < a.length
      · have hI : (k : Int) < (a.length : Int) := by omega
        have hI2 : (k : Int) < (b.length : Int) := by have := HL.out; omega
        obtain ⟨b1, o1, e1, hc⟩ := (HR.out.keep BW).2.2.2 (by omega)
        have HP1 : Hid (p = some ⟨b1, o1, none⟩) := e1
        rw [HP1.out]
        obtain ⟨b2, o2, e2, hc2⟩ := (HR2.out.keep BW).2.2.2 (by have := HL.out; omega)
        have HP2 : Hid (p2 = some ⟨b2, o2, none⟩) := e2
        rw [HP2.out]
        obtain ⟨x, hx⟩ : ∃ x, a[k]? = some x := ⟨a[k], by simp [hlt]⟩
        obtain ⟨y, hy⟩ : ∃ y, b[k]? = some y := ⟨b[k]'(by have := HL.out; omega), by simp [show k < b.length by have := HL.out; omega]⟩
        obtain ⟨us, hrep, hcell⟩ := hc k x hx
        obtain ⟨px, qx, rfl, rx⟩ := msg_rep hrep
        obtain ⟨us2, hrep2, hcell2⟩ := hc2 k y hy
        obtain ⟨py, qy, rfl, ry⟩ := msg_rep hrep2
        have c0 := hcell 0 _ rfl
        have c1 := hcell 1 _ rfl
        have d0 := hcell2 0 _ rfl
        have d1 := hcell2 1 _ rfl
        rw [show msgC.n = 2 from rfl] at c0 c1 d0 d1
        rw [Nat.add_zero] at c0 d0
        have K : Hid (∀ W, Below wr.heap.size wr W → Calls Try.prog 54 #[.agg #[.int .i64 x.1, .slice px x.2.length qx], .agg #[.int .i64 y.1, .slice py y.2.length qy]] W fun e w' => e = .returned (.bool (decide (x = y))) ∧ Below W.heap.size W w') := fun W h => sameMsg_c x y px py qx qy W (rx.keep h) (ry.keep h)
        have d0' := cell_keep d0 (alloc_below wr (.cells #[.int .i64 x.1, .slice px x.2.length qx] 36))
        have d1' := cell_keep d1 (alloc_below wr (.cells #[.int .i64 x.1, .slice px x.2.length qx] 36))
        have B0 := Below.mk (alloc_below wr (.cells #[.int .i64 x.1, .slice px x.2.length qx] 36)) (.cells #[.int .i64 y.1, .slice py y.2.length qy] 36)
        have HX : Hid (a[k]? = some x) := hx
        have HY : Hid (b[k]? = some y) := hy
        have HTN : Hid (x = y → a.take (k + 1) = b.take (k + 1)) := fun e => by rw [List.take_add_one, List.take_add_one, HTK.out, hx, hy, e]
        clear hc hcell hrep hc2 hcell2 hrep2 e1 e2 hx hy rx ry d0 d1 HTK
        go_wp2_with fail
        refine (K.out _ B0).mono ?_
        rintro e w2 ⟨rfl, hb⟩
        have B2 := Below.step (Below.step BW B0) hb
        clear K B0 hb BW c0 c1 d0' d1'
        by_cases hxy : x = y
        · have hE : Hid (decide (x = y) = true) := by show _ = _; simp [hxy]
          have HT2 : Hid (a.take (k + 1) = b.take (k + 1)) := HTN.out hxy
          rw [hE.out]
          clear HTN hE hxy
          go_wp2_with fail
          go_roundw
          case rel => exact ⟨k + 1, by omega, by go_num, HT2.out, B2⟩
          case measure => simp [intOf]; omega
        · have hE : Hid (decide (x = y) = false) := by show _ = _; simp [hxy]
          have hs : Hid (sameM a b = false) := sameM_at HX.out HY.out hxy
          rw [hE.out]
          clear HTN hE hxy
          go_wp2_with fail
          go_ret
          exact ⟨by rw [hs.out]; rfl, B2⟩
      · have e : k = a.length := by omega
        subst e
        have hs : Hid (sameM a b = true) := by
          have h := HTK.out
          rw [List.take_length, HL.out, List.take_length] at h
          show _ = _
          simp [sameM, h]
        go_wp2_with fail
        go_ret
        exact ⟨by rw [hs.out]; rfl, BW⟩
  · have hd : ((a.length : Int) != (b.length : Int)) = true := by rw [bne_iff_ne]; omega
    have hs : Hid (sameM a b = false) := by show _ = _; simp only [sameM, decide_eq_false_iff_not]; intro e; exact hl (by rw [e])
    go_enter Try.func53, Try.ntmps53
    go_wp2
    go_ret
    exact ⟨by rw [hs.out]; rfl, Below.refl _ _⟩
set_option maxRecDepth 4000 in
set_option maxHeartbeats 400000 in
theorem implSM_c (a b : List MsgD) (p p2 : Option Addr) (q q2 : Nat) (w : World) (hr : RdL msgC w p q a) (hr2 : RdL msgC w p2 q2 b) :
    Calls Try.prog 19 #[.slice p a.length q, .slice p2 b.length q2] w fun e w' => e = .returned (.bool (sameM a b)) ∧ Below w.heap.size w w' := by
  go_enter Try.func19, Try.ntmps19
  go_wp2_with fail
  refine (equalFunc_c a b p p2 q q2 w hr hr2).mono ?_
  rintro e w' ⟨rfl, hb⟩
  go_wp2
  go_ret
  exact ⟨rfl, hb⟩
end Go.Proofs.Ytoneggbbfjenpaa
