/- The contracts of what reads messages in the specification: l6Unpack, UnpackMsgs (code, place, messages, each of which owns its memory), SameMsgs. What was there stays. -/
import Derived.Test.YtoneggbbfjenpaaWireS
import Derived.Deep.AppendLies
namespace Go.Proofs.Ytoneggbbfjenpaa
open Go.ChangeShapes Go.WideShapes Go.ChangeAt Go.RowKit
theorem none_ownM (w : World) (B : Nat) (h : B ≤ w.heap.size) : OwnL 36 msgC (w.alloc (.cells #[] 36)) B (.slice (some ⟨w.heap.size, 0, none⟩) 0 0) [] [] [] :=
  ⟨World.ownsRow_lit (base := B) (e := 36) (size := 2) w #[] 0 h (by unfold maxLen; decide) (by simp), ⟨rfl, rfl⟩, by simp [Value.ownBlock]⟩
theorem nil_ownM (w : World) (B : Nat) : OwnL 36 msgC w B (.slice none 0 0) [] [] [] := ⟨World.ownsRow_nil _ _ _ _, ⟨rfl, rfl⟩, by simp [Value.ownBlock]⟩
set_option maxRecDepth 4000 in
set_option maxHeartbeats 2000000 in
theorem l6Unpack_c (data : List UInt8) (p : Option Addr) (q : Nat) (w : World) (hr : Rd w p q data) (hd : data.length ≤ 1000) :
    Calls Try.prog 50 #[.slice p data.length q] w fun e w' => ∃ v xs fp, e = .returned (.tuple #[v, .int .i64 (unpackR data 0 []).1, .int .i64 (unpackR data 0 []).2.1]) ∧ OwnL 36 msgC w' w.heap.size v (unpackR data 0 []).2.2 xs fp ∧ Below w.heap.size w w' := by
  have HR : Hid (Rd w p q data) := hr
  have hq1 : data.length ≤ q := hr.1
  have hq2 : q ≤ 2 ^ 63 - 1 := hr.2.1
  have hdI : (data.length : Int) ≤ 1000 := by omega
  have O1 := none_ownM w w.heap.size (Nat.le_refl _)
  have BW := alloc_below w (.cells #[] 36)
  obtain ⟨fin, HF⟩ : ∃ fin, Hid (fin = unpackR data 0 []) := ⟨_, rfl⟩
  rw [← HF.out]
  clear hr
  go_enter Try.func50, Try.ntmps50
  go_wp2_with fail
  go_loopw [5, 6] (fun v i wr => ∃ (at_ : Nat) (out : List MsgD) (xs : List Value) (fp : List Nat), at_ ≤ data.length ∧ i = .int .i64 at_ ∧ OwnL 36 msgC wr w.heap.size v out xs fp ∧ out.length ≤ 12 ∧ fin = unpackR data at_ out ∧ Below w.heap.size w wr)
    (fun _ i _ => data.length - (intOf i).toNat)
  case atStart => exact ⟨0, [], [], [], Nat.zero_le _, rfl, O1, by decide, HF.out, BW⟩
  case round =>
    clear O1 BW HF
    obtain ⟨at_, out, xs, fp, hat, rfl, ho, hol, hfin, BW⟩ := hrel
    have HFN : Hid (fin = unpackR data at_ out) := hfin
    clear hfin
    by_cases hlt : at_ < data.length
    · have hI : (at_ : Int) < (data.length : Int) := by omega
      by_cases h4 : data.length - at_ < 4
      · have h4I : (data.length : Int) - (at_ : Int) < 4 := by omega
        have HE : Hid (fin = (5, (at_ : Int), [])) := by show _ = _; rw [HFN.out, unpackR_short hlt h4]
        go_wp2_with fail
        exact bodyPost_ret (v := .tuple #[.slice none 0 0, .int .i64 5, .int .i64 (at_ : Int)]) (by simp [results, Try.results50, go_sem]) rfl ⟨_, _, _, by rw [HE.out], by rw [HE.out]; exact nil_ownM _ _, BW⟩
      · have h4I : ¬ ((data.length : Int) - (at_ : Int) < 4) := by omega
        obtain ⟨b, o, e1, hcd⟩ := (HR.out.keep BW).2.2.2 (by omega)
        subst e1
        have hcut := (HR.out.keep BW).cut (at_ + 1) 3 (q - (at_ + 1)) (by omega) (by omega) (by have := HR.out.2.1; omega)
        have hn3 : Hid (((data.drop (at_ + 1)).take 3).length = 3) := by show _ = _; simp; omega
        have KG : Hid (∀ (o' c' : Nat), o' = o + (at_ + 1) → c' = q - (at_ + 1) → Calls Try.prog 68 #[.slice (some ⟨b, o', none⟩) 3 c'] wr fun e w' => e = .returned (.int .i64 ((lenAt data at_ : Nat) : Int)) ∧ w' = wr) := fun o' c' h1 h2 => by subst h1 h2; exact l1Get_n _ _ 3 _ wr hcut hn3.out (by decide)
        have hln : lenAt data at_ < 16777216 := by have h := getB_lt ((data.drop (at_ + 1)).take 3); rw [hn3.out] at h; exact h
        have hlnI : ((lenAt data at_ : Nat) : Int) < 16777216 := by omega
        obtain ⟨po, qo, rfl, hord⟩ := ho.rd
        have hqo1 : out.length ≤ qo := hord.1
        have hqo2 : qo ≤ 2 ^ 63 - 1 := hord.2.1
        by_cases h2 : 160 < lenAt data at_ ∨ 12 ≤ out.length
        · have HE : Hid (fin = (2, (at_ : Int), [])) := by show _ = _; rw [HFN.out, unpackR_many hlt h4 h2]
          generalize lenAt data at_ = n at *
          clear hcd hcut
          by_cases h3 : 160 < n
          · have h3I : 160 < (n : Int) := by omega
            go_wp2_with fail
            refine (KG.out _ _ rfl rfl).mono ?_
            rintro e w2 ⟨rfl, hw⟩
            subst hw
            go_wp2_with fail
            exact bodyPost_ret (v := .tuple #[.slice none 0 0, .int .i64 2, .int .i64 (at_ : Int)]) (by simp [results, Try.results50, go_sem]) rfl ⟨_, _, _, by rw [HE.out], by rw [HE.out]; exact nil_ownM _ _, BW⟩
          · have h3I : ¬ (160 < (n : Int)) := by omega
            have h5I : 12 ≤ (out.length : Int) := by omega
            go_wp2_with fail
            refine (KG.out _ _ rfl rfl).mono ?_
            rintro e w2 ⟨rfl, hw⟩
            subst hw
            go_wp2_with fail
            exact bodyPost_ret (v := .tuple #[.slice none 0 0, .int .i64 2, .int .i64 (at_ : Int)]) (by simp [results, Try.results50, go_sem]) rfl ⟨_, _, _, by rw [HE.out], by rw [HE.out]; exact nil_ownM _ _, BW⟩
        · have h3I : ¬ (160 < ((lenAt data at_ : Nat) : Int)) := by omega
          have h5I : ¬ (12 ≤ (out.length : Int)) := by omega
          by_cases h6 : data.length - at_ - 4 < lenAt data at_
          · have HE : Hid (fin = (5, (at_ : Int), [])) := by show _ = _; rw [HFN.out, unpackR_less hlt h4 h2 h6]
            have h6I : (data.length : Int) - (at_ : Int) - 4 < ((lenAt data at_ : Nat) : Int) := by omega
            generalize lenAt data at_ = n at *
            clear hcd hcut h2 h6 hln h4 hlnI
            go_wp2_with fail
            refine (KG.out _ _ rfl rfl).mono ?_
            rintro e w2 ⟨rfl, hw⟩
            subst hw
            go_wp2_with fail
            exact bodyPost_ret (v := .tuple #[.slice none 0 0, .int .i64 5, .int .i64 (at_ : Int)]) (by simp [results, Try.results50, go_sem]) rfl ⟨_, _, _, by rw [HE.out], by rw [HE.out]; exact nil_ownM _ _, BW⟩
          · have h6I : ¬ ((data.length : Int) - (at_ : Int) - 4 < ((lenAt data at_ : Nat) : Int)) := by omega
            have HN : Hid (fin = unpackR data (at_ + 4 + lenAt data at_) (out ++ [msgAt data at_])) := by show _ = _; rw [HFN.out, unpackR_next hlt h4 h2 h6]
            have hcy := hcd at_ hlt
            have hcut2 := (HR.out.keep BW).cut (at_ + 4) (lenAt data at_) (q - (at_ + 4)) (by omega) (by omega) (by have := HR.out.2.1; omega)
            have hbl : Hid (((data.drop (at_ + 4)).take (lenAt data at_)).length = lenAt data at_) := by show _ = _; simp; omega
            have HMA : Hid (msgAt data at_ = (at8 data at_, (data.drop (at_ + 4)).take (lenAt data at_))) := rfl
            have hol2 : Hid ((out ++ [msgAt data at_]).length ≤ 12) := by show _ ≤ _; rw [List.length_append, List.length_singleton]; omega
            have hnx : Hid (at_ + 4 + lenAt data at_ ≤ data.length) := by show _ ≤ _; omega
            have hrd2 : Rd wr (if q = at_ + 4 then some ⟨b, o, none⟩ else some ⟨b, o + (at_ + 4), none⟩) (q - (at_ + 4)) ((data.drop (at_ + 4)).take (lenAt data at_)) := by
              split
              · rename_i hq
                have hn0 : lenAt data at_ = 0 := by omega
                rw [hn0, List.take_zero]
                exact ⟨by simp, by unfold maxLen; omega, fun e => by simp at e, fun h => by simp at h⟩
              · exact hcut2
            have KC : Hid (∀ (W : World), Below wr.heap.size wr W → Calls Try.prog 69 #[.slice (if q = at_ + 4 then some ⟨b, o, none⟩ else some ⟨b, o + (at_ + 4), none⟩) (lenAt data at_) (q - (at_ + 4))] W fun e w' => ∃ u, e = .returned u ∧ Own w' W.heap.size u ((data.drop (at_ + 4)).take (lenAt data at_)) ∧ Below W.heap.size W w') := fun W hb => by
              have h := l1Copy_c (if q = at_ + 4 then some ⟨b, o, none⟩ else some ⟨b, o + (at_ + 4), none⟩) (q - (at_ + 4)) _ W (hrd2.keep hb) (by rw [hbl.out]; omega)
              rw [hbl.out] at h
              exact h
            clear hrd2
            have hb0 := at8_lo data at_
            have hb1 := at8_hi data at_
            generalize (data.drop (at_ + 4)).take (lenAt data at_) = body at *
            generalize lenAt data at_ = n at *
            generalize at8 data at_ = kd at *
            clear hcd hcut hcut2 h2 HFN h6 hln h4 hlnI
            go_wp2_with fail
            refine (KG.out _ _ rfl rfl).mono ?_
            rintro e w2 ⟨rfl, hw⟩
            subst hw
            go_wp2_with fail
            have hcz := HW.at hcy
            have hne := HW.some w2
            refine wp_region_mix 14 3 2 rfl (by kernel_rfl) (by kernel_rfl) (by kernel_rfl) (by kernel_rfl) (by kernel_rfl) ?_
            simp only [List.take_succ_cons, List.take_zero]
            repeat (go_big_quiet_step (fail))
            refine wpQuiet_nil ?_
            generalize (if q = at_ + 4 then some (⟨b, o, none⟩ : Addr) else some ⟨b, o + (at_ + 4), none⟩) = pX at *
            refine wpM_call (k := 14) rfl (by kernel_rfl) (by kernel_rfl) (by go_simp) 69 _ #[.slice pX n (q - (at_ + 4))] (fun w => by go_simp) rfl ?_
            rintro _ ⟨s1, rfl⟩
            refine (KC.out s1.w s1.h).mono ?_
            rintro e w3 ⟨u3, rfl, k3, hb3⟩
            refine ⟨u3, rfl, ⟨⟨_, hb3⟩, rfl⟩, ?_⟩
            obtain ⟨pv, qv, rfl, -⟩ := k3.rd
            rw [hbl.out] at k3 ⊢
            refine wpM_make (k := 15) rfl (by kernel_rfl) (by kernel_rfl) (by go_simp) ?_
            rintro _ ⟨s4, rfl⟩
            refine ⟨.agg #[.int .i64 kd, .slice pv n qv], s4.w, by go_simp, ⟨⟨_, Below.refl _ _⟩, rfl⟩, ?_⟩
            refine wpM_make (k := 16) rfl (by kernel_rfl) (by kernel_rfl) (by go_simp) ?_
            rintro _ ⟨s5, rfl⟩
            refine ⟨.slice (some ⟨s5.w.heap.size, 0, none⟩) 1 1, s5.w.alloc (.cells #[.int .i64 kd, .slice pv n qv] 36), by go_simp, ⟨⟨_, alloc_below _ _⟩, rfl⟩, ?_⟩
            refine wpM_tail rfl (by kernel_rfl) (by decide) ?_
            rintro _ ⟨s6, rfl⟩
            have hnew : ∀ j u, [Value.int .i64 kd, .slice pv n qv][j]? = some u → s6.w.cell? ((⟨s5.w.heap.size, 0, none⟩ : Addr).add j) = some u := fun j u hj => cell_keep ((Arr.new s5.w [.int .i64 kd, .slice pv n qv] 36).cells j u hj) s6.h
            have hb4 := Below.step (Below.step s4.h s5.h) (Below.step (alloc_below s5.w (.cells #[.int .i64 kd, .slice pv n qv] 36)) s6.h)
            have k5 := k3.stay hb4
            have hb5 := Below.step (Below.step s1.h hb3) hb4
            have ho5 := ho.stay hb5
            have BW5 := Below.step BW hb5
            have hz4 : Hid (w2.heap.size ≤ s1.w.heap.size) := s1.h.size
            have hrow5 : Hid (s6.w.ownsRow w.heap.size 36 2 (.slice po out.length qo) out.length xs) := ho5.row
            generalize s6.w = W at *
            generalize s5.w.heap.size = H5 at *
            generalize s1.w.heap.size = H1 at *
            clear hcz hne
            simp only [List.drop_succ_cons, List.drop_zero]
            obtain ⟨i0, hi, hz0, hz1, hz2⟩ := info_parts infoMsg
            go_simp
            go_wp2_with (at_builtin; refine wpList_append_lies _ rfl (.tmp 42) (.tmp 58) 25 rfl w.heap.size 36 i0 (.agg #[.int .i64 0, .slice none 0 0]) 2 32 Try.underlying25 hi hz0 hz1 hz2 rfl (by decide) (.slice po out.length qo) out.length xs rfl hrow5.out ⟨H5, 0, none⟩ 1 1 [.int .i64 kd, .slice pv n qv] rfl rfl hnew (by intro u hu; simp at hu; rcases hu with rfl | rfl <;> rfl) (by decide) (by unfold maxLen; omega) (by omega) BW5.size W.heap.size rfl ?_; intro g6 c6 w6 hown6 hgrow6 hat6 hlt6)
            have hlow : Hid (∀ j, (Value.slice pv n qv).ownBlock = some j → H1 ≤ j) := fun j hj => k5.ge j hj
            have hinsO : Hid (∀ j, j ∈ (Value.slice po out.length qo).ownBlock.toList ++ fp → j < w2.heap.size) := fun j hj => (ho.ins j hj).2
            have ka := msg_own_mk (a := (kd, body)) (k5.lower (B' := w.heap.size) (by have := hz4.out; have := BW.size; omega))
            have OP := ho5.push ka (fun j hj hj2 => by
              have h1 := hlow.out j (mem_opt.1 hj)
              have h2 := hinsO.out j hj2
              have h3 := hz4.out
              omega) (k := out.length + 1) (v' := .slice (some ⟨g6, 0, none⟩) (out.length + 1) c6) (g := g6) hown6 (by simp) hgrow6 rfl hat6
            have BW6 := BW5.grown hgrow6 BW5.size (fun k hk => by have h := hinsO.out k; have h2 := (ho5.ins k (List.mem_append_left _ (mem_opt.2 hk))).1; exact h2)
            rw [← HMA.out] at OP
            have hlO : Hid ((out ++ [msgAt data at_]).length = out.length + 1) := by show _ = _; simp
            clear ho ho5 k3 k5 hown6 hgrow6 hat6 hnew hrow5 ka BW5 BW hb3 hb4 hb5 hcy
            go_wp2_with fail
            go_roundw
            case rel => exact ⟨at_ + 4 + n, out ++ [msgAt data at_], _, _, hnx.out, by go_num, OP, hol2.out, HN.out, BW6⟩
            case measure => have := hnx.out; simp [intOf]; omega
    · have e : at_ = data.length := by omega
      subst e
      have HE : Hid (fin = (0, 0, out)) := by show _ = _; rw [HFN.out, unpackR_end (by omega)]
      obtain ⟨po, qo, rfl, -⟩ := ho.rd
      go_wp2_with fail
      exact bodyPost_ret (v := .tuple #[.slice po out.length qo, .int .i64 0, .int .i64 0]) (by simp [results, Try.results50, go_sem]) rfl ⟨_, _, _, by rw [HE.out], by rw [HE.out]; exact ho, BW⟩

theorem umC_le {data : List UInt8} (h : data.length ≤ 600) : umC data = unpackR data 0 [] := by rw [umC, if_pos h]
theorem umC_many {data : List UInt8} (h : ¬ data.length ≤ 600) : umC data = (2, 0, []) := by rw [umC, if_neg h]
set_option maxRecDepth 4000 in
set_option maxHeartbeats 1000000 in
theorem specUM_c (data : List UInt8) (p : Option Addr) (q : Nat) (w : World) (hr : Rd w p q data) :
    Calls Try.prog 12 #[.slice p data.length q] w fun e w' => ∃ v xs fp, e = .returned (.agg #[.int .i64 (umC data).1, .int .i64 (umC data).2.1, v]) ∧ OwnL 36 msgC w' w.heap.size v (umC data).2.2 xs fp ∧ Below w.heap.size w w' := by
  have A0 := Arr.new w [.int .i64 0, .int .i64 0, .slice none 0 0] 27
  have B0 := alloc_below w (.cells #[.int .i64 0, .int .i64 0, .slice none 0 0] 27)
  by_cases h : data.length ≤ 600
  · have hI : ¬ (600 < (data.length : Int)) := by omega
    rw [umC_le h]
    have K : Hid (∀ W : World, Rd W p q data → Calls Try.prog 50 #[.slice p data.length q] W fun e w' => ∃ v xs fp, e = .returned (.tuple #[v, .int .i64 (unpackR data 0 []).1, .int .i64 (unpackR data 0 []).2.1]) ∧ OwnL 36 msgC w' W.heap.size v (unpackR data 0 []).2.2 xs fp ∧ Below W.heap.size W w') := fun W hW => l6Unpack_c data p q W hW (by omega)
    generalize unpackR data 0 [] = r at *
    obtain ⟨rc, ra, rl⟩ := r
    simp only at *
    go_enter Try.func12, Try.ntmps12
    go_wp2_with fail
    refine (K.out _ (hr.keep B0)).mono ?_
    rintro e w2 ⟨v, xs, fp, rfl, ho, hb⟩
    have A2 := A0.stay hb
    have BW := Below.step B0 hb
    rw [size_alloc] at ho
    obtain ⟨pv, qv, rfl, -⟩ := ho.rd
    have c0 := A2.cell 0
    have c1 := A2.cell 1
    have c2 := A2.cell 2
    have fz := A2.frozen
    simp at c0 c1 c2
    clear A0 A2 B0 hb K
    go_wp2_with fail
    refine bodyPost_ret (v := .agg #[.int .i64 rc, .int .i64 ra, .slice pv rl.length qv]) (by simp [results, Try.results12, go_sem, c0, c1, c2]) rfl ⟨_, xs, fp, rfl, ?_, ((BW.setCell (Nat.le_refl _) _).setCell (Nat.le_refl _) _).setCell (Nat.le_refl _) _⟩
    refine (ho.fr fun k hk => ?_).low (Nat.le_succ _)
    have h1 := (ho.ins k hk).1
    rw [heap_setCell_other _ _ k _ (by show k ≠ w.heap.size; omega), heap_setCell_other _ _ k _ (by show k ≠ w.heap.size; omega), heap_setCell_other _ _ k _ (by show k ≠ w.heap.size; omega)]
  · have hI : 600 < (data.length : Int) := by omega
    rw [umC_many h]
    go_enter Try.func12, Try.ntmps12
    go_wp2
    exact bodyPost_ret (v := .agg #[.int .i64 2, .int .i64 0, .slice none 0 0]) (by simp [results, Try.results12, go_sem]) rfl ⟨_, _, _, rfl, nil_ownM _ _, alloc_below _ _⟩

theorem packAll_bulk : ∀ (l : List MsgD), bulkM l ≤ (packAll l).length
  | [] => by simp [bulkM]
  | a :: l => by
    have h := packAll_bulk l
    rw [packAll_cons, List.length_append, packW_len]
    simp only [bulkM, List.map_cons, List.sum_cons, List.length_cons] at h ⊢
    omega
theorem unpackR_fault (data : List UInt8) : ∀ (m at_ : Nat) (out : List MsgD), data.length - at_ ≤ m → (unpackR data at_ out).1 ≠ 0 → (unpackR data at_ out).2.2 = []
  | 0, at_, out, hm, hz => by rw [unpackR_end (by omega)] at hz; exact absurd rfl hz
  | m + 1, at_, out, hm, hz => by
    by_cases h : at_ < data.length
    · by_cases h1 : data.length - at_ < 4
      · rw [unpackR_short h h1]
      · by_cases h2 : 160 < lenAt data at_ ∨ 12 ≤ out.length
        · rw [unpackR_many h h1 h2]
        · by_cases h3 : data.length - at_ - 4 < lenAt data at_
          · rw [unpackR_less h h1 h2 h3]
          · rw [unpackR_next h h1 h2 h3] at hz ⊢
            exact unpackR_fault data m _ _ (by omega) hz
    · rw [unpackR_end h] at hz; exact absurd rfl hz
theorem umC_bulk (data : List UInt8) : bulkM (umC data).2.2 ≤ 1048576 := by
  by_cases h : data.length ≤ 600
  · rw [umC_le h]
    by_cases hz : (unpackR data 0 []).1 = 0
    · have h2 := (pack_unpack data data.length 0 [] _ (by omega) (Nat.zero_le _) (by simp [packAll]) (by decide) (fun a ha => by cases ha) rfl hz).1
      have h3 := packAll_bulk (unpackR data 0 []).2.2
      rw [h2] at h3
      omega
    · rw [unpackR_fault data data.length 0 [] (by omega) hz]
      simp [bulkM]
  · rw [umC_many h]
    simp [bulkM]

def sameM (a b : List MsgD) : Bool := decide (a = b)
theorem sameM_at {a b : List MsgD} {k : Nat} {x y : MsgD} (hx : a[k]? = some x) (hy : b[k]? = some y) (h : x ≠ y) : sameM a b = false := by
  simp only [sameM, decide_eq_false_iff_not]
  intro e
  subst e
  rw [hx] at hy
  cases hy
  exact h rfl
end Go.Proofs.Ytoneggbbfjenpaa
