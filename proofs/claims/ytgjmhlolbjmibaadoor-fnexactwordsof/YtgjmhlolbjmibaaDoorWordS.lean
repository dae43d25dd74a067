/- WordsOf of the specification. What was there stays. -/
import Derived.Test.YtgjmhlolbjmibaaDoorTxtA
import Derived.Test.YtgjmhlolbjmibaaDoorCutM
import Derived.Test.YtgjmhlolbjmibaaDoorWordI
namespace Go.Proofs.YtgjmhlolbjmibaaDoor
open Go.ChangeShapes Go.WideShapes Go.ChangeAt Go.RowKit

theorem OwnX_lit (w : World) (B : Nat) (hB : B ≤ w.heap.size) : OwnX (w.alloc (.cells #[] 9)) B (.slice (some ⟨w.heap.size, 0, none⟩) 0 0) [] := by
  have h := World.ownsRow_lit (base := B) (e := 9) (size := 1) w #[] 0 hB (by unfold maxLen; decide) (by simp)
  exact h

set_option maxRecDepth 4000 in
set_option maxHeartbeats 1000000 in
theorem l16Cut_c (l : List UInt8) (w : World) (hl : l.length ≤ 1048576) :
    Calls Tryd.prog 46 #[.string (strB l), .int .u8 32] w fun e w' => ∃ v, e = .returned v ∧ OwnX w' w.heap.size v (cutL 32 l) ∧ Below w.heap.size w w' := by
  have H0 := OwnX_lit w w.heap.size (Nat.le_refl _)
  have B0 := alloc_below w (.cells #[] 9)
  have hsz : Hid ((strB l).size = l.length) := strB_size l
  have hlI : (l.length : Int) ≤ 1048576 := by omega
  go_enter Tryd.func46, Tryd.ntmps46
  go_wp2_with fail
  go_loopw [5, 6, 7] (fun u f i wr => ∃ (k fr : Nat) (out : List (List UInt8)), i = .int .i64 k ∧ f = .int .i64 fr ∧ OwnX wr w.heap.size u out ∧ Below w.heap.size w wr ∧ out.length ≤ k ∧ (CutAt 32 l out fr k ∨ (k = l.length + 1 ∧ out = cutL 32 l)))
    (fun _ _ i _ => l.length + 1 - (intOf i).toNat)
  case atStart => exact ⟨0, 0, [], rfl, rfl, H0, B0, Nat.le_refl _, .inl (CutAt.zero 32 l)⟩
  case round =>
    clear H0 B0
    obtain ⟨k, fr, out, rfl, rfl, hown, BW, hol, hcut⟩ := hrel
    rcases hcut with hcut | ⟨rfl, rfl⟩
    · obtain ⟨hf1, hf2, -, -⟩ := id hcut
      have hs := hsz.out
      by_cases hlt : k < l.length
      · have hat := strB_at l k
        have hkI2 : (k : Int) < (l.length : Int) := by omega
        have hkI : ¬ ((k : Int) = (l.length : Int)) := by omega
        have hg : at8 l k = (l[k].toNat : Int) := at8_get hlt
        by_cases hb : at8 l k = 32
        · have hc := hcut.hit hlt (by rw [hb] at hg; exact UInt8.toNat_inj.1 (show l[k].toNat = 32 by omega))
          have hk0 : ((k : Int) == (l.length : Int)) = false := by rw [beq_eq_false_iff_ne]; exact hkI
          have hb0 : (at8 l k == 32) = true := by rw [beq_iff_eq]; exact hb
          have hzB : Hid (w.heap.size ≤ wr.heap.size) := BW.size
          have hO := hown.stay (alloc_below wr (.cells #[.string ((strB l).extract fr k)] 9))
          have hA := Arr.new wr [.string ((strB l).extract fr k)] 9
          have B2 := Below.step BW (alloc_below wr (.cells #[.string ((strB l).extract fr k)] 9))
          have hz3 : Hid (w.heap.size ≤ (wr.alloc (.cells #[.string ((strB l).extract fr k)] 9)).heap.size) := B2.size
          obtain ⟨V, hV⟩ : ∃ V, V = u5 := ⟨_, rfl⟩
          rw [← hV] at hO
          clear hown BW hg hb hcut
          go_wp2_with (at_builtin; refine wpList_append_txtB rfl (.tmp 26) (.tmp 31) rfl hO (strB_piece l fr k) hA hV.symm rfl hz3.out (by omega) ?_; intro pu qu w3 hown3 hb3 _ _; clear hO hA)
          have B3 := B2.trans hb3
          clear B2 hb3
          go_wp2_with fail
          go_roundw
          case rel => exact ⟨k + 1, k + 1, _, by go_num, by go_num, hown3, B3, by simp; omega, .inl hc⟩
          case measure => simp [intOf]; omega
        · have hk0 : ((k : Int) == (l.length : Int)) = false := by rw [beq_eq_false_iff_ne]; exact hkI
          have hb0 : (at8 l k == 32) = false := by rw [beq_eq_false_iff_ne]; exact hb
          have hc := hcut.skip hlt (fun e => hb (by rw [hg, e]; rfl))
          clear hg hcut
          go_wp2_with fail
          go_roundw
          case rel => exact ⟨k + 1, fr, out, by go_num, rfl, hown, BW, by omega, .inl hc⟩
          case measure => simp [intOf]; omega
      · have e : k = l.length := by omega
        subst e
        have hc := hcut.done
        have hk0 : ((l.length : Int) == (l.length : Int)) = true := by simp
        have hzB : Hid (w.heap.size ≤ wr.heap.size) := BW.size
        have hO := hown.stay (alloc_below wr (.cells #[.string ((strB l).extract fr l.length)] 9))
        have hA := Arr.new wr [.string ((strB l).extract fr l.length)] 9
        have B2 := Below.step BW (alloc_below wr (.cells #[.string ((strB l).extract fr l.length)] 9))
        have hz3 : Hid (w.heap.size ≤ (wr.alloc (.cells #[.string ((strB l).extract fr l.length)] 9)).heap.size) := B2.size
        obtain ⟨V, hV⟩ : ∃ V, V = u5 := ⟨_, rfl⟩
        rw [← hV] at hO
        clear hown BW hcut
        go_wp2_with (at_builtin; refine wpList_append_txtB rfl (.tmp 26) (.tmp 31) rfl hO (strB_piece l fr l.length) hA hV.symm rfl hz3.out (by omega) ?_; intro pu qu w3 hown3 hb3 _ _; clear hO hA)
        have B3 := B2.trans hb3
        rw [hc] at hown3
        have hcl := cutL_len 32 l
        clear B2 hb3
        go_wp2_with fail
        go_roundw
        case rel => exact ⟨l.length + 1, l.length + 1, _, by go_num, by go_num, hown3, B3, hcl, .inr ⟨rfl, rfl⟩⟩
        case measure => simp [intOf]
    · have hno : ¬ (((l.length + 1 : Nat) : Int) ≤ (l.length : Int)) := by omega
      have hs := hsz.out
      go_wp2_with fail
      go_ret
      exact ⟨_, rfl, hown, BW⟩

set_option maxRecDepth 4000 in
set_option maxHeartbeats 1000000 in
theorem l16Words_c (l : List UInt8) (w : World) (hl : l.length ≤ 1048576) :
    Calls Tryd.prog 29 #[.string (strB l)] w fun e w' => ∃ v, e = .returned v ∧ OwnX w' w.heap.size v (wordsL l) ∧ Below w.heap.size w w' := by
  have HS : Hid (∀ x ∈ cutL 32 l, x.length ≤ l.length) := cutL_size 32 l
  have HL : Hid ((cutL 32 l).length ≤ l.length + 1) := cutL_len 32 l
  have hsp := fun w => l16Cut_c l w hl
  rw [show wordsL l = wordsP (cutL 32 l) (cutL 32 l).length from (wordsP_all _).symm]
  generalize cutL 32 l = L at *
  have H0 := OwnX_lit w w.heap.size (Nat.le_refl _)
  have B0 := alloc_below w (.cells #[] 9)
  go_enter Tryd.func29, Tryd.ntmps29
  go_wp2_with fail
  refine (hsp _).mono ?_
  rintro e w1 ⟨v, rfl, hv, hb⟩
  replace H0 := H0.stay hb
  replace B0 := Below.step B0 hb
  obtain ⟨p, q, rfl, -⟩ := hv.rd
  have HP : Hid (∀ k, (Value.slice p L.length q).ownBlock = some k → w.heap.size + 1 ≤ k ∧ k < w1.heap.size) := fun k hk => ⟨by have h := hv.ge k hk; rw [size_alloc] at h; exact h, hv.lt k hk⟩
  have hz1 : Hid (w.heap.size + 1 ≤ w1.heap.size) := by have h := hb.size; rw [size_alloc] at h; exact h
  rw [size_alloc] at hv
  clear hb hsp
  have hq : L.length ≤ 1048577 := by have := HL.out; omega
  go_wp2_with fail
  go_loopw [3, 5] (fun u i wr => ∃ (k : Nat), k ≤ L.length ∧ i = .int .i64 k ∧ OwnX wr w.heap.size u (wordsP L k) ∧ OwnX wr (w.heap.size + 1) (.slice p L.length q) L ∧ Below w.heap.size w wr ∧ (w1.heap.size ≤ wr.heap.size) ∧ ∀ j, u.ownBlock = some j → j = w.heap.size ∨ w1.heap.size ≤ j)
    (fun _ i _ => L.length - (intOf i).toNat)
  case atStart => exact ⟨0, Nat.zero_le _, rfl, by rw [wordsP_zero]; exact H0, hv, B0, Nat.le_refl _, fun j hj => .inl (Option.some.inj hj).symm⟩
  case round =>
    clear H0 B0 hv
    obtain ⟨k, hk, rfl, hown, hv, BW, hsz1, hu⟩ := hrel
    by_cases hlt : k < L.length
    · obtain ⟨b, o, e1, hc⟩ := (RdX.own hv).2.2.2 (by omega)
      subst e1
      have ck := hc k hlt
      have hkI : (k : Int) < (L.length : Int) := by omega
      clear hc
      have hx : (strB (atX L k)).toList = atX L k := strB_list _
      by_cases he : atX L k = []
      · have hW := wordsP_no hlt he
        have hy : (strB (atX L k)).toList.isEmpty = true := by rw [hx, he]; rfl
        have HU : Hid (∀ j, u3.ownBlock = some j → j = w.heap.size ∨ w1.heap.size ≤ j) := hu
        have HV : Hid (OwnX wr (w.heap.size + 1) (.slice (some ⟨b, o, none⟩) L.length q) L) := hv
        clear hx he hu hv
        go_wp2_with fail
        go_roundw
        case rel => exact ⟨k + 1, by omega, by go_num, by rw [hW]; exact hown, HV.out, BW, hsz1, HU.out⟩
        case measure => simp [intOf]; omega
      · have hW := wordsP_yes hlt he
        have hy : (strB (atX L k)).toList.isEmpty = false := by rw [hx]; simpa using he
        have hwl := wordsP_len L k
        have hO := hown.stay (alloc_below wr (.cells #[.string (strB (atX L k))] 9))
        have HV : Hid (OwnX (wr.alloc (.cells #[.string (strB (atX L k))] 9)) (w.heap.size + 1) (.slice (some ⟨b, o, none⟩) L.length q) L) := hv.stay (alloc_below wr (.cells #[.string (strB (atX L k))] 9))
        have hA := Arr.new wr [.string (strB (atX L k))] 9
        have B2 := Below.step BW (alloc_below wr (.cells #[.string (strB (atX L k))] 9))
        have hz3 : Hid (w1.heap.size ≤ (wr.alloc (.cells #[.string (strB (atX L k))] 9)).heap.size) := by show _ ≤ _; rw [size_alloc]; omega
        obtain ⟨V, hV⟩ : ∃ V, V = u3 := ⟨_, rfl⟩
        rw [← hV] at hO hu
        have HU : Hid (∀ j, V.ownBlock = some j → j = w.heap.size ∨ w1.heap.size ≤ j) := hu
        clear hown BW hx he hu hv
        go_wp2_with (at_builtin; refine wpList_append_txt rfl (.tmp 20) (.tmp 25) rfl hO hA hV.symm rfl (by have := hz1.out; have := hz3.out; omega) (by omega) ?_; intro pu qu w3 hown3 hb3 hg3 hu3; clear hO hA)
        have B3 := B2.trans hb3
        have hv3 := HV.out.other hg3 (fun j hj e => by
          have h1 := HP.out j hj
          have h2 := HU.out j e
          omega)
        have hsz3 : w1.heap.size ≤ w3.heap.size := Nat.le_trans hz3.out hg3.size
        have HU3 : Hid (∀ j, (Value.slice pu ((wordsP L k).length + 1) qu).ownBlock = some j → j = w.heap.size ∨ w1.heap.size ≤ j) := fun j hj => by
          rcases hu3 j hj with h1 | h1
          · exact HU.out j h1
          · exact .inr (Nat.le_trans hz3.out h1)
        have HV3 : Hid (OwnX w3 (w.heap.size + 1) (.slice (some ⟨b, o, none⟩) L.length q) L) := hv3
        clear B2 hb3 hg3 hu3 hv3 ck
        go_wp2_with fail
        go_roundw
        case rel => exact ⟨k + 1, by omega, by go_num, by rw [hW]; simpa using hown3, HV3.out, B3, hsz3, HU3.out⟩
        case measure => simp [intOf]; omega
    · have e : k = L.length := by omega
      subst e
      clear hu hv
      go_wp2_with fail
      go_ret
      exact ⟨_, rfl, hown, BW⟩

set_option maxRecDepth 4000 in
set_option maxHeartbeats 1000000 in
theorem specWo_c (l : List UInt8) (w : World) (hl : l.length ≤ 1048576) :
    Calls Tryd.prog 11 #[.string (strB l)] w fun e w' => ∃ v, e = .returned (.agg #[.int .i64 0, v]) ∧ OwnX w' w.heap.size v (wordsL l) ∧ Below w.heap.size w w' := by
  go_enter Tryd.func11, Tryd.ntmps11
  go_wp2_with fail
  refine (l16Words_c l _ hl).mono ?_
  rintro e w1 ⟨v, rfl, hv, hb⟩
  have A := (Arr.new w [.int .i64 0, .slice none 0 0] 36).stay hb
  have BW := Below.res hb
  rw [size_alloc] at hv
  obtain ⟨p, q, rfl, -⟩ := hv.rd
  have d0 := A.cell 0
  have d1 := A.cell 1
  have e0 := A.frozen
  have hzz := A.lt
  simp at d0 d1
  have hO2 := (hv.set (a := ⟨w.heap.size, 0, none⟩) (Nat.lt_succ_self _) (.int .i64 0)).set (a := ⟨w.heap.size, 1, none⟩) (Nat.lt_succ_self _) (.slice p (wordsL l).length q)
  have B2 := (BW.setCell (p := ⟨w.heap.size, 0, none⟩) (Nat.le_refl _) (.int .i64 0)).setCell (p := ⟨w.heap.size, 1, none⟩) (Nat.le_refl _) (.slice p (wordsL l).length q)
  clear hv BW A hb
  go_wp2_with fail
  exact bodyPost_ret (v := .agg #[.int .i64 0, .slice p (wordsL l).length q]) (by simp [results, Tryd.results11, go_sem, d0, d1]) rfl ⟨_, rfl, hO2.lower (Nat.le_succ _), B2⟩
end Go.Proofs.YtgjmhlolbjmibaaDoor
