/- WordsOf of the program. What was there stays. -/
import Derived.Test.YtgjmhlolbjmibaaDoorSplK
namespace Go.Proofs.YtgjmhlolbjmibaaDoor
open Go.ChangeShapes Go.WideShapes Go.ChangeAt Go.RowKit

/-- The words among the first pieces. -/
def wordsP (l : List (List UInt8)) (k : Nat) : List (List UInt8) := (l.take k).filter (fun x => !x.isEmpty)
theorem wordsP_zero (l : List (List UInt8)) : wordsP l 0 = [] := by simp [wordsP]
theorem wordsP_all (l : List (List UInt8)) : wordsP l l.length = l.filter (fun x => !x.isEmpty) := by simp [wordsP]
theorem wordsP_yes {l : List (List UInt8)} {k : Nat} (h : k < l.length) (hn : atX l k ≠ []) : wordsP l (k + 1) = wordsP l k ++ [atX l k] := by
  unfold wordsP
  rw [List.take_succ_eq_append_getElem h, List.filter_append, ← atX_get h]
  congr 1
  simp [hn]
theorem wordsP_no {l : List (List UInt8)} {k : Nat} (h : k < l.length) (hn : atX l k = []) : wordsP l (k + 1) = wordsP l k := by
  unfold wordsP
  rw [List.take_succ_eq_append_getElem h, List.filter_append, ← atX_get h, hn]
  simp
theorem wordsP_len (l : List (List UInt8)) (k : Nat) : (wordsP l k).length ≤ l.length := Nat.le_trans (List.length_filter_le _ _) (by rw [List.length_take]; omega)
set_option maxRecDepth 4000 in
set_option maxHeartbeats 1000000 in
theorem implWo_c (l : List UInt8) (w : World) (hl : l.length ≤ 1048576) :
    Calls Tryd.prog 12 #[.string (strB l)] w fun e w' => ∃ v, e = .returned (.agg #[.int .i64 0, v]) ∧ OwnX w' w.heap.size v (wordsL l) ∧ Below w.heap.size w w' := by
  have HS : Hid (∀ x ∈ cutL 32 l, x.length ≤ l.length) := cutL_size 32 l
  have HL : Hid ((cutL 32 l).length ≤ l.length + 1) := cutL_len 32 l
  have hsp := fun w => split_c 32 l w hl
  rw [show wordsL l = wordsP (cutL 32 l) (cutL 32 l).length from (wordsP_all _).symm]
  generalize cutL 32 l = L at *
  go_enter Tryd.func12, Tryd.ntmps12
  go_wp2_with fail
  refine (hsp _).mono ?_
  rintro e w1 ⟨v, rfl, hv, hb⟩
  have A := (Arr.new w [.int .i64 0, .slice none 0 0] 36).stay hb
  have BW := Below.res hb
  rw [size_alloc] at hv
  obtain ⟨p, q, rfl, R⟩ := hv.rd
  clear hb hv hsp
  have z1 : Hid (w.heap.size < w1.heap.size) := A.lt
  have hq : L.length ≤ 1048577 := by have := HL.out; omega
  go_wp2_with fail
  go_loopw [3, 9] (fun u i wr => ∃ (k : Nat), k ≤ L.length ∧ i = .int .i64 k ∧ OwnX wr w1.heap.size u (wordsP L k) ∧ Below w1.heap.size w1 wr)
    (fun _ i _ => L.length - (intOf i).toNat)
  case atStart => exact ⟨0, Nat.zero_le _, rfl, by rw [wordsP_zero]; exact OwnX_nil _ _, Below.refl _ _⟩
  case round =>
    obtain ⟨k, hk, rfl, hown, B1⟩ := hrel
    have HA : Hid (Arr w1 w.heap.size 36 [.int .i64 0, .slice none 0 0]) := A
    have HR : Hid (RdX w1 p q L) := R
    have HB : Hid (Below w.heap.size w w1) := BW
    clear A R BW
    by_cases hlt : k < L.length
    · obtain ⟨b, o, e1, hc⟩ := (HR.out.keep B1).2.2.2 (by omega)
      subst e1
      have ck := hc k hlt
      have hkI : (k : Int) < (L.length : Int) := by omega
      clear hc
      have hx : (strB (atX L k)).toList = atX L k := strB_list _
      have hsz : Hid ((strB (atX L k)).size ≤ 1048576) := by show _ ≤ _; rw [strB_size]; have := HS.out _ (show atX L k ∈ L by rw [atX_get hlt]; exact List.getElem_mem hlt); omega
      by_cases he : atX L k = []
      · have hW := wordsP_no hlt he
        have hy : (strB (atX L k)).toList.isEmpty = true := by rw [hx, he]; rfl
        clear hx he
        go_wp2_with fail
        go_roundw
        case rel => exact ⟨k + 1, by omega, by go_num, by rw [hW]; exact hown, B1⟩
        case measure => simp [intOf]; omega
      · have hW := wordsP_yes hlt he
        have hy : (strB (atX L k)).toList.isEmpty = false := by rw [hx]; simpa using he
        have hwl := wordsP_len L k
        clear hx he
        go_wp2_with fail
        refine (clone_c _ _ hsz.out).mono ?_
        rintro e w2 ⟨rfl, hb⟩
        replace hown := hown.stay hb
        replace B1 := Below.step B1 hb
        clear hb ck
        have hz2 : Hid (w1.heap.size ≤ w2.heap.size) := B1.size
        have hO := hown.stay (alloc_below w2 (.cells #[.string (strB (atX L k))] 9))
        have hA := Arr.new w2 [.string (strB (atX L k))] 9
        have B2 := Below.step B1 (alloc_below w2 (.cells #[.string (strB (atX L k))] 9))
        have hz3 : Hid (w1.heap.size ≤ (w2.alloc (.cells #[.string (strB (atX L k))] 9)).heap.size) := B2.size
        obtain ⟨V, hV⟩ : ∃ V, V = u3 := ⟨_, rfl⟩
        rw [← hV] at hO
        clear hown
        go_wp2_with (at_builtin; refine wpList_append_txt rfl (.tmp 15) (.tmp 18) rfl hO hA hV.symm rfl hz3.out (by omega) ?_; intro pu qu w3 hown3 hb3 _ _; clear hO hA)
        have B3 := B2.trans hb3
        clear B1 B2 hb3
        go_wp2_with fail
        go_roundw
        case rel => exact ⟨k + 1, by omega, by go_num, by rw [hW]; simpa using hown3, B3⟩
        case measure => simp [intOf]; omega
    · have e : k = L.length := by omega
      subst e
      have A := HA.out.stay B1
      have BW := Below.step HB.out B1
      have d0 := A.cell 0
      have d1 := A.cell 1
      have e0 := A.frozen
      have hzz := A.lt
      simp at d0 d1
      obtain ⟨u, cu, rfl, -⟩ := hown.rd
      have hO2 := (hown.set (a := ⟨w.heap.size, 0, none⟩) z1.out (.int .i64 0)).set (a := ⟨w.heap.size, 1, none⟩) z1.out (.slice u (wordsP L L.length).length cu)
      have B2 := (BW.setCell (p := ⟨w.heap.size, 0, none⟩) (Nat.le_refl _) (.int .i64 0)).setCell (p := ⟨w.heap.size, 1, none⟩) (Nat.le_refl _) (.slice u (wordsP L L.length).length cu)
      clear hown B1 A BW
      go_wp2_with fail
      exact bodyPost_ret (v := .agg #[.int .i64 0, .slice u (wordsP L L.length).length cu]) (by simp [results, Tryd.results12, go_sem, d0, d1]) rfl ⟨_, rfl, hO2.lower (Nat.le_of_lt z1.out), B2⟩
end Go.Proofs.YtgjmhlolbjmibaaDoor
