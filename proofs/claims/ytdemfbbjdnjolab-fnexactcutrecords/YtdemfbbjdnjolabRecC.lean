/- The contract of CutRecords in the specification, at every argument: code and pieces. What was there stays. -/
import Derived.Test.YtdemfbbjdnjolabRec
import Derived.Test.YtdemfbbjdnjolabBlkC
import Derived.Test.YtdemfbbjdnjolabGetW
import Derived.Test.YtdemfbbjdnjolabPad
import Derived.Test.YtdemfbbjdnjolabPick2
namespace Go.Proofs.Ytdemfbbjdnjolab
open Go.ChangeShapes Go.WideShapes Go.ChangeAt Go.RowKit

theorem numR_lt (data : List UInt8) (k : Nat) : numR data k < 65536 := by
  have h := getB_lt ((data.drop (k + 3)).take 2)
  have h2 : ((data.drop (k + 3)).take 2).length ≤ 2 := List.length_take_le _ _
  have h3 : 256 ^ ((data.drop (k + 3)).take 2).length ≤ 256 ^ 2 := Nat.pow_le_pow_right (by decide) h2
  unfold numR
  omega
theorem cutR_sum (data : List UInt8) : ∀ (m at_ : Nat) (out : List (List UInt8)), data.length - at_ ≤ m → at_ ≤ data.length → sumB out ≤ at_ → sumB (cutR data at_ out).2 ≤ data.length
  | 0, at_, out, hm, hle, ho => by
    rw [cutR_end (by omega)]
    show sumB out ≤ _
    omega
  | m + 1, at_, out, hm, hle, ho => by
    by_cases h : at_ < data.length
    · by_cases h1 : data.length - at_ < 5
      · rw [cutR_a h h1]; exact Nat.zero_le _
      · by_cases h2 : 240 < numR data at_
        · rw [cutR_b h h1 h2]; exact Nat.zero_le _
        · by_cases h3 : data.length - at_ - 5 < numR data at_
          · rw [cutR_c h h1 h2 h3]; exact Nat.zero_le _
          · by_cases h4 : 8 ≤ out.length
            · rw [cutR_d h h1 h2 h3 h4]; exact Nat.zero_le _
            · rw [cutR_next h h1 h2 h3 h4]
              refine cutR_sum data m _ _ (by omega) (by omega) ?_
              rw [sumB_append]
              have : sumB [(data.drop at_).take (5 + numR data at_)] = 5 + numR data at_ := by simp [sumB]; omega
              omega
    · rw [cutR_end h]
      show sumB out ≤ _
      omega
theorem crL_sum (data : List UInt8) : sumB (crL data) ≤ 1048576 := by
  unfold crL
  split
  · have := cutR_sum data data.length 0 [] (by omega) (Nat.zero_le _) (Nat.le_refl _)
    omega
  · exact Nat.zero_le _
theorem nil_ownC (w : World) (B : Nat) : OwnL 22 bytC w B (.slice none 0 0) [] [] [] := ⟨World.ownsRow_nil _ _ _ _, ⟨rfl, rfl⟩, by simp [Value.ownBlock]⟩
theorem OwnL.setB {α : Type} {e : TypeId} {c : Cod α} {w : World} {B : Nat} {v : Value} {l : List α} {xs : List Value} {fp : List Nat} (h : OwnL e c w B v l xs fp) {p : Addr} (hp : p.block < B) (u : Value) : OwnL e c (w.setCell p u) B v l xs fp :=
  h.fr fun k hk => heap_setCell_other _ _ k _ (by have := (h.ins k hk).1; omega)
theorem blk_own_c {w : World} {B : Nat} {u : Value} {bs : List UInt8} (h : Own w B u bs) : bytC.own w B bs [u] u.ownBlock.toList := ⟨u, rfl, h, rfl⟩
set_option maxRecDepth 4000 in
set_option maxHeartbeats 4000000 in
theorem specCr_c (data : List UInt8) (p : Option Addr) (q : Nat) (w : World) (hr : Rd w p q data) :
    Calls Try.prog 4 #[.slice p data.length q] w fun e w' => ∃ v, e = .returned (.agg #[.int .i64 (crC data), v]) ∧ (∃ xs fp, OwnL 22 bytC w' w.heap.size v (crL data) xs fp) ∧ Below w.heap.size w w' := by
  by_cases hd : data.length ≤ 600
  · have hdI : ¬ (600 < (data.length : Int)) := by omega
    have HR : Hid (Rd w p q data) := hr
    have hq1 : data.length ≤ q := hr.1
    have hq2 : q ≤ 2 ^ 63 - 1 := hr.2.1
    obtain ⟨fin, HF⟩ : ∃ fin, Hid (fin = cutR data 0 []) := ⟨_, rfl⟩
    have HZ : Hid (crC data = fin.1 ∧ crL data = fin.2) := by rw [HF.out]; exact ⟨by rw [crC, if_pos hd], by rw [crL, if_pos hd]⟩
    have BW := Below.mk (alloc_below w (.cells #[.int .i64 0, .slice none 0 0] 25)) (.cells #[.int .i64 0, .slice none 0 0] 25)
    have R := (Arr.new w [.int .i64 0, .slice none 0 0] 25).old _ (.cells #[.int .i64 0, .slice none 0 0] 25)
    have O := Arr.new (w.alloc (.cells #[.int .i64 0, .slice none 0 0] 25)) [.int .i64 0, .slice none 0 0] 25
    rw [size_alloc] at O
    clear hr
    go_enter Try.func4, Try.ntmps4
    go_wp2_with fail
    go_loopw [4] (fun i wr => ∃ (at_ : Nat) (v : Value) (out : List BlkD) (xs : List Value) (fp : List Nat), at_ ≤ data.length ∧ i = .int .i64 at_ ∧ OwnL 22 bytC wr (w.heap.size + 2) v out xs fp ∧ out.length ≤ 8 ∧ fin = cutR data at_ out ∧ Arr wr w.heap.size 25 [.int .i64 0, .slice none 0 0] ∧ Arr wr (w.heap.size + 1) 25 [.int .i64 0, v] ∧ Below w.heap.size w wr)
      (fun i _ => data.length - (intOf i).toNat)
    case atStart => exact ⟨0, _, [], [], [], Nat.zero_le _, rfl, nil_ownC _ _, by decide, HF.out, R, O, BW⟩
    case round =>
      clear R O BW HF
      obtain ⟨at_, v, out, xs, fp, hat, rfl, ho, hol, hfin, R, O, BW⟩ := hrel
      have HFN : Hid (fin = cutR data at_ out) := hfin
      clear hfin
      obtain ⟨po, qo, rfl, hord⟩ := ho.rd
      have hqo1 : out.length ≤ qo := hord.1
      have hqo2 : qo ≤ 2 ^ 63 - 1 := hord.2.1
      have c0 := (R.cell 0).trans (show _ = some _ from rfl)
      have c1 := (R.cell 1).trans (show _ = some _ from rfl)
      have fz := R.frozen
      have d0 := (O.cell 0).trans (show _ = some _ from rfl)
      have d1 := (O.cell 1).trans (show _ = some _ from rfl)
      have fo := O.frozen
      clear hord
      by_cases hlt : at_ < data.length
      · have hI : (at_ : Int) < (data.length : Int) := by omega
        by_cases h1 : data.length - at_ < 5
        · have h1I : (data.length : Int) - (at_ : Int) < 5 := by omega
          have HE : Hid (fin = (5, [])) := by show _ = _; rw [HFN.out, cutR_a hlt h1]
          go_wp2_with fail
          exact bodyPost_ret (v := .agg #[.int .i64 5, .slice none 0 0]) (by simp [results, Try.results4, go_sem, c0, c1]) rfl ⟨_, by rw [HZ.out.1, HE.out], ⟨_, _, by rw [HZ.out.2, HE.out]; exact nil_ownC _ _⟩, (BW.setCell (Nat.le_refl _) _).setCell (Nat.le_refl _) _⟩
        · have h1I : ¬ ((data.length : Int) - (at_ : Int) < 5) := by omega
          obtain ⟨b, o, e1, -⟩ := (HR.out.keep BW).2.2.2 (by omega)
          subst e1
          have hnl := numR_lt data at_
          have HC : Hid (Rd wr (some ⟨b, o + (at_ + 3), none⟩) (q - (at_ + 3)) ((data.drop (at_ + 3)).take 2)) := (HR.out.keep BW).cut (at_ + 3) 2 (q - (at_ + 3)) (by omega) (by omega) (by unfold maxLen; omega)
          have HCl : Hid (((data.drop (at_ + 3)).take 2).length = 2) := by show _ = _; rw [List.length_take, List.length_drop]; omega
          have KG : Hid (∀ (pX : Option Addr) (cX : Nat), pX = some ⟨b, o + (at_ + 3), none⟩ → cX = q - (at_ + 3) → Calls Try.prog 12 #[.slice pX 2 cX] wr fun e w' => e = .returned (.int .i64 ((numR data at_ : Nat) : Int)) ∧ w' = wr) := fun pX cX h1 h2 => by
            subst h1 h2
            exact l1Get_n _ _ 2 _ wr HC.out HCl.out (by decide)
          have HX3 : Hid (240 < numR data at_ → fin = (3, [])) := fun h2 => by rw [HFN.out, cutR_b hlt h1 h2]
          have HX5 : Hid (¬ 240 < numR data at_ → data.length - at_ - 5 < numR data at_ → fin = (5, [])) := fun h2 h3 => by rw [HFN.out, cutR_c hlt h1 h2 h3]
          have HX2 : Hid (¬ 240 < numR data at_ → ¬ data.length - at_ - 5 < numR data at_ → 8 ≤ out.length → fin = (2, [])) := fun h2 h3 h4 => by rw [HFN.out, cutR_d hlt h1 h2 h3 h4]
          have HXN : Hid (¬ 240 < numR data at_ → ¬ data.length - at_ - 5 < numR data at_ → ¬ 8 ≤ out.length → fin = cutR data (at_ + 5 + numR data at_) (out ++ [(data.drop at_).take (5 + numR data at_)])) := fun h2 h3 h4 => by rw [HFN.out, cutR_next hlt h1 h2 h3 h4]
          generalize numR data at_ = n at *
          clear HFN HC HCl
          go_wp2_with fail
          refine (KG.out _ _ rfl rfl).mono ?_
          rintro e w2 ⟨rfl, hw⟩
          subst w2
          clear KG
          by_cases h2 : 240 < n
          · have HE : Hid (fin = (3, [])) := HX3.out h2
            have h2I : (240 : Int) < (n : Int) := by omega
            go_wp2_with fail
            exact bodyPost_ret (v := .agg #[.int .i64 3, .slice none 0 0]) (by simp [results, Try.results4, go_sem, c0, c1]) rfl ⟨_, by rw [HZ.out.1, HE.out], ⟨_, _, by rw [HZ.out.2, HE.out]; exact nil_ownC _ _⟩, (BW.setCell (Nat.le_refl _) _).setCell (Nat.le_refl _) _⟩
          · have h2I : ¬ ((240 : Int) < (n : Int)) := by omega
            by_cases h3 : data.length - at_ - 5 < n
            · have HE : Hid (fin = (5, [])) := HX5.out h2 h3
              have h3I : (data.length : Int) - (at_ : Int) - 5 < (n : Int) := by omega
              go_wp2_with fail
              exact bodyPost_ret (v := .agg #[.int .i64 5, .slice none 0 0]) (by simp [results, Try.results4, go_sem, c0, c1]) rfl ⟨_, by rw [HZ.out.1, HE.out], ⟨_, _, by rw [HZ.out.2, HE.out]; exact nil_ownC _ _⟩, (BW.setCell (Nat.le_refl _) _).setCell (Nat.le_refl _) _⟩
            · have h3I : ¬ ((data.length : Int) - (at_ : Int) - 5 < (n : Int)) := by omega
              by_cases h4 : 8 ≤ out.length
              · have HE : Hid (fin = (2, [])) := HX2.out h2 h3 h4
                have h4I : (8 : Int) ≤ (out.length : Int) := by omega
                go_wp2_with fail
                exact bodyPost_ret (v := .agg #[.int .i64 2, .slice none 0 0]) (by simp [results, Try.results4, go_sem, c0, c1]) rfl ⟨_, by rw [HZ.out.1, HE.out], ⟨_, _, by rw [HZ.out.2, HE.out]; exact nil_ownC _ _⟩, (BW.setCell (Nat.le_refl _) _).setCell (Nat.le_refl _) _⟩
              · have h4I : ¬ ((8 : Int) ≤ (out.length : Int)) := by omega
                have HN : Hid (fin = cutR data (at_ + 5 + n) (out ++ [(data.drop at_).take (5 + n)])) := HXN.out h2 h3 h4
                have hbl : Hid (((data.drop at_).take (5 + n)).length = 5 + n) := by show _ = _; rw [List.length_take, List.length_drop]; omega
                have HRB : Hid (Rd wr (some ⟨b, o + at_, none⟩) (q - at_) ((data.drop at_).take (5 + n))) := (HR.out.keep BW).cut at_ (5 + n) (q - at_) (by omega) (by omega) (by unfold maxLen; omega)
                have KC : Hid (∀ (W : World) (nn : Nat), nn = 5 + n → Below wr.heap.size wr W → Calls Try.prog 13 #[.slice (some ⟨b, o + at_, none⟩) nn (q - at_)] W fun e w' => ∃ u, e = .returned u ∧ Own w' W.heap.size u ((data.drop at_).take (5 + n)) ∧ Below W.heap.size W w') := fun W nn hnn hb => by
                  subst hnn
                  have h := l1Copy_c (some ⟨b, o + at_, none⟩) (q - at_) _ W (HRB.out.keep hb) (by rw [hbl.out]; omega)
                  rw [hbl.out] at h
                  exact h
                generalize (data.drop at_).take (5 + n) = body at *
                have hnx : Hid (at_ + 5 + n ≤ data.length) := by show _ ≤ _; omega
                clear HX3 HX5 HX2 HXN h1 h3 hnl
                go_wp2_with fail
                have g1 := HW.at d1
                have hne := HW.some wr
                refine wp_region_pick [0, 1, 2, 3, 4, 5, 6, 7, 8] 11 2 3 rfl rfl rfl (by kernel_rfl) (by kernel_rfl) (by kernel_rfl) (by kernel_rfl) ?_
                simp only [opsAt, List.getElem?_toArray, List.getElem?_cons_zero, List.getElem?_cons_succ]
                repeat (go_big_quiet_step (fail))
                refine wpQuiet_nil ?_
                refine wpM_only (i := 9) (by kernel_rfl) ?_
                refine mOp_call rfl (by go_simp) 13 #[.slice (some ⟨b, o + at_, none⟩) (at_ + 5 + n - at_) (q - at_)] #[.slice (some ⟨b, o + at_, none⟩) (5 + n) (q - at_)] (fun w => by go_simp) (by rw [show at_ + 5 + n - at_ = 5 + n by omega]) ?_
                rintro _ ⟨s1, rfl⟩
                refine (KC.out s1.w _ rfl s1.h).mono ?_
                rintro e w3 ⟨u3, rfl, k3, hb3⟩
                refine ⟨u3, rfl, ⟨⟨_, hb3⟩, rfl⟩, ?_⟩
                obtain ⟨pv, qv, rfl, -⟩ := k3.rd
                rw [hbl.out] at k3 ⊢
                have hne2 := HW.some w3
                refine wpM_only (i := 10) (by kernel_rfl) ?_
                refine mOp_make rfl (by go_simp) ?_
                rintro _ ⟨s5, rfl⟩
                refine ⟨.slice (some ⟨s5.w.heap.size, 0, none⟩) 1 1, s5.w.alloc (.cells #[.slice pv (5 + n) qv] 22), by go_simp, ⟨⟨_, alloc_below _ _⟩, rfl⟩, ?_⟩
                refine wpM_end (by kernel_rfl) rfl (by kernel_rfl) (by decide) ?_
                rintro _ ⟨s6, rfl⟩
                simp only [List.drop_succ_cons, List.drop_zero]
                have hnew : ∀ j u, [Value.slice pv (5 + n) qv][j]? = some u → s6.w.cell? ((⟨s5.w.heap.size, 0, none⟩ : Addr).add j) = some u := fun j u hj => cell_keep ((Arr.new s5.w [.slice pv (5 + n) qv] 22).cells j u hj) s6.h
                have hb4 := Below.step s5.h (Below.step (alloc_below s5.w (.cells #[.slice pv (5 + n) qv] 22)) s6.h)
                have k5 := k3.stay hb4
                have hb5 := Below.step (Below.step s1.h hb3) hb4
                have ho5 := ho.stay hb5
                have BW5 := Below.step BW hb5
                have R5 := R.stay hb5
                have O5 := O.stay hb5
                have hz4 : Hid (wr.heap.size ≤ s1.w.heap.size) := s1.h.size
                have hrow5 : Hid (s6.w.ownsRow (w.heap.size + 2) 22 1 (.slice po out.length qo) out.length xs) := ho5.row
                have hzR : Hid (w.heap.size + 2 ≤ wr.heap.size) := O.lt
                have hz6 : Hid (wr.heap.size ≤ s6.w.heap.size) := hb5.size
                generalize s6.w = W at *
                generalize s5.w.heap.size = H5 at *
                generalize s1.w.heap.size = H1 at *
                clear g1 hne hne2 c0 c1 fz d0 d1 fo
                obtain ⟨i0, hi, hz0, hz1, hz2⟩ := info_parts infoBlk
                go_simp
                go_wp2_with (at_builtin; refine wpList_append_lies _ rfl (.tmp 45) (.tmp 54) 23 rfl (w.heap.size + 2) 22 i0 (.slice none 0 0) 1 24 Try.underlying23 hi hz0 hz1 hz2 rfl (by decide) (.slice po out.length qo) out.length xs rfl hrow5.out ⟨H5, 0, none⟩ 1 1 [.slice pv (5 + n) qv] rfl rfl hnew (by intro u hu; simp at hu; subst hu; rfl) (by decide) (by unfold maxLen; omega) (by omega) (Nat.le_trans hzR.out hz6.out) W.heap.size rfl ?_; intro g6 c6 w6 hown6 hgrow6 hat6 hlt6; have hne6 : ∀ k, (Value.slice po out.length qo).ownBlock = some k → w.heap.size + 2 ≤ k := (fun k hk => (ho5.ins k (List.mem_append_left _ (mem_opt.2 hk))).1); have O6 := O5.other hgrow6 (fun e => by have := hne6 _ e; omega); have R6 := R5.other hgrow6 (fun e => by have := hne6 _ e; omega); have d1 := (O6.cell 1).trans (show _ = some _ from rfl); have fo := O6.frozen)
                have hlow : Hid (∀ j, (Value.slice pv (5 + n) qv).ownBlock = some j → H1 ≤ j) := fun j hj => k5.ge j hj
                have hinsO : Hid (∀ j, j ∈ (Value.slice po out.length qo).ownBlock.toList ++ fp → j < wr.heap.size) := fun j hj => (ho.ins j hj).2
                have ka := blk_own_c (bs := body) (k5.lower (B' := w.heap.size + 2) (by have := hz4.out; have := hzR.out; omega))
                have OP := ho5.push ka (fun j hj hj2 => by
                  have h1 := hlow.out j (mem_opt.1 hj)
                  have h2 := hinsO.out j hj2
                  have h3 := hz4.out
                  omega) (k := out.length + 1) (v' := .slice (some ⟨g6, 0, none⟩) (out.length + 1) c6) (g := g6) hown6 (by simp) hgrow6 rfl hat6
                have BW6 := BW5.grown hgrow6 BW5.size (fun k hk => by have := hne6 k hk; omega)
                have OQ := OP.setB (p := ⟨w.heap.size + 1, 1, none⟩) (by simp) (.slice (some ⟨g6, 0, none⟩) (out.length + 1) c6)
                have O7 := O6.set 1 (.slice (some ⟨g6, 0, none⟩) (out.length + 1) c6)
                have R7 := R6.setOther (a := ⟨w.heap.size + 1, 1, none⟩) (by simp) (.slice (some ⟨g6, 0, none⟩) (out.length + 1) c6)
                have B7 := BW6.setCell (p := ⟨w.heap.size + 1, 1, none⟩) (Nat.le_succ _) (.slice (some ⟨g6, 0, none⟩) (out.length + 1) c6)
                have hol2 : Hid ((out ++ [body]).length ≤ 8) := by show _ ≤ _; rw [List.length_append, List.length_singleton]; omega
                clear ho ho5 k3 k5 hown6 hgrow6 hat6 hnew hrow5 ka BW5 BW hb3 hb4 hb5 O O5 R R5 OP BW6
                go_wp2_with fail
                go_roundw
                case rel => exact ⟨at_ + 5 + n, _, out ++ [body], _, _, hnx.out, by go_num, OQ, hol2.out, HN.out, R7, O7, B7⟩
                case measure => have := hnx.out; simp [intOf]; omega
      · have e : at_ = data.length := by omega
        subst e
        have HE : Hid (fin = (0, out)) := by show _ = _; rw [HFN.out, cutR_end (by omega)]
        go_wp2_with fail
        exact bodyPost_ret (v := .agg #[.int .i64 0, .slice po out.length qo]) (by simp [results, Try.results4, go_sem, c0, c1]) rfl ⟨_, by rw [HZ.out.1, HE.out], ⟨xs, fp, by rw [HZ.out.2, HE.out]; exact (((ho.setB (p := ⟨w.heap.size, 0, none⟩) (by simp) _).setB (p := ⟨w.heap.size, 1, none⟩) (by simp) _).low (by omega))⟩, (BW.setCell (Nat.le_refl _) _).setCell (Nat.le_refl _) _⟩
  · have hdI : (600 < (data.length : Int)) := by omega
    rw [show crC data = 2 by rw [crC, if_neg hd], show crL data = [] by rw [crL, if_neg hd]]
    go_enter Try.func4, Try.ntmps4
    go_wp2
    exact bodyPost_ret (v := .agg #[.int .i64 2, .slice none 0 0]) (by simp [results, Try.results4, go_sem]) rfl ⟨_, rfl, ⟨_, _, nil_ownC _ _⟩, alloc_below _ _⟩
end Go.Proofs.Ytdemfbbjdnjolab
