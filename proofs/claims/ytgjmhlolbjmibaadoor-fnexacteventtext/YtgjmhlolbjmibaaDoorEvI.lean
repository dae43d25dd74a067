/- EventText of the program (written by tools/ev_i.py). What was there stays. -/
import Derived.Test.YtgjmhlolbjmibaaDoorEvT
import Derived.Test.YtgjmhlolbjmibaaDoorJoinK
import Derived.Test.YtgjmhlolbjmibaaDoorTxtA
import Derived.Test.YtgjmhlolbjmibaaDoorHexImpl
import Derived.Test.YtgjmhlolbjmibaaDoorInts
import Derived.Test.YtgjmhlolbjmibaaDoorFields
namespace Go.Proofs.YtgjmhlolbjmibaaDoor
open Go.ChangeShapes Go.WideShapes Go.ChangeAt Go.RowKit

theorem isCertId_e (v : Int) (w : World) : Calls Tryd.prog 40 #[.int .i64 v] w fun e w' => e = .returned (.bool (inB v 1 99)) ∧ w' = w := by
  by_cases h1 : 1 ≤ v
  · by_cases h2 : v ≤ 99
    · rw [inB_true h1 h2]
      go_enter Tryd.func40, Tryd.ntmps40
      go_wp2
      go_ret
      exact ⟨rfl, rfl⟩
    · rw [inB_false (by omega)]
      go_enter Tryd.func40, Tryd.ntmps40
      go_wp2
      go_ret
      exact ⟨rfl, rfl⟩
  · rw [inB_false (by omega)]
    go_enter Tryd.func40, Tryd.ntmps40
    go_wp2
    go_ret
    exact ⟨rfl, rfl⟩
theorem isOwner_e (v : Int) (w : World) : Calls Tryd.prog 51 #[.int .i64 v] w fun e w' => e = .returned (.bool (inB v 1 9)) ∧ w' = w := by
  by_cases h1 : 1 ≤ v
  · by_cases h2 : v ≤ 9
    · rw [inB_true h1 h2]
      go_enter Tryd.func51, Tryd.ntmps51
      go_wp2
      go_ret
      exact ⟨rfl, rfl⟩
    · rw [inB_false (by omega)]
      go_enter Tryd.func51, Tryd.ntmps51
      go_wp2
      go_ret
      exact ⟨rfl, rfl⟩
  · rw [inB_false (by omega)]
    go_enter Tryd.func51, Tryd.ntmps51
    go_wp2
    go_ret
    exact ⟨rfl, rfl⟩
theorem isGiver_e (v : Int) (w : World) : Calls Tryd.prog 41 #[.int .i64 v] w fun e w' => e = .returned (.bool (inB v 0 9)) ∧ w' = w := by
  by_cases h0 : v = 0
  · subst h0
    go_enter Tryd.func41, Tryd.ntmps41
    go_wp2
    go_ret
    exact ⟨rfl, rfl⟩
  · have hE : inB v 0 9 = inB v 1 9 := by
      by_cases h1 : 1 ≤ v ∧ v ≤ 9
      · rw [inB_true h1.1 h1.2, inB_true (by omega) h1.2]
      · rw [inB_false (by omega), inB_false (by omega)]
    rw [hE]
    go_enter Tryd.func41, Tryd.ntmps41
    have b0 : (v == 0) = false := by rw [beq_eq_false_iff_ne]; exact h0
    go_wp2_with (go_at_call 51; refine (isOwner_e _ _).mono ?_; rintro e w' ⟨rfl, rfl⟩)
    go_ret
    exact ⟨by simp, rfl⟩
theorem isPlaceOf_e (v : Int) (w : World) : Calls Tryd.prog 39 #[.int .i64 v, .int .i64 4] w fun e w' => e = .returned (.bool (inB v 0 3)) ∧ w' = w := by
  by_cases h1 : 0 ≤ v
  · by_cases h2 : v < 4
    · rw [inB_true h1 (by omega)]
      go_enter Tryd.func39, Tryd.ntmps39
      go_wp2
      go_ret
      exact ⟨rfl, rfl⟩
    · rw [inB_false (by omega)]
      go_enter Tryd.func39, Tryd.ntmps39
      go_wp2
      go_ret
      exact ⟨rfl, rfl⟩
  · rw [inB_false (by omega)]
    go_enter Tryd.func39, Tryd.ntmps39
    go_wp2
    go_ret
    exact ⟨rfl, rfl⟩
theorem isRole_e (r : Int) (w : World) : Calls Tryd.prog 38 #[.int .i64 r] w fun e w' => e = .returned (.bool (roleE r)) ∧ w' = w := by
  by_cases h1 : r = 1
  · subst h1
    go_enter Tryd.func38, Tryd.ntmps38
    go_wp2
    go_ret
    exact ⟨rfl, rfl⟩
  · by_cases h2 : r = 2
    · subst h2
      go_enter Tryd.func38, Tryd.ntmps38
      go_wp2
      go_ret
      exact ⟨rfl, rfl⟩
    · have b1 : (r == 1) = false := by rw [beq_eq_false_iff_ne]; exact h1
      have b2 : (r == 2) = false := by rw [beq_eq_false_iff_ne]; exact h2
      rw [show roleE r = false by simp [roleE, h1, h2]]
      go_enter Tryd.func38, Tryd.ntmps38
      go_wp2
      go_ret
      exact ⟨by simp, rfl⟩
theorem kindName_c (k : Int) (w : World) : Calls Tryd.prog 22 #[.int .i64 k] w fun e w' => e = .returned (.string (strB (kindT k))) ∧ w' = w := by
  by_cases h1 : k = 1
  · subst h1
    go_enter Tryd.func22, Tryd.ntmps22
    go_wp2
    go_ret
    exact ⟨rfl, rfl⟩
  · by_cases h2 : k = 2
    · subst h2
      go_enter Tryd.func22, Tryd.ntmps22
      go_wp2
      go_ret
      exact ⟨rfl, rfl⟩
    · by_cases h3 : k = 3
      · subst h3
        go_enter Tryd.func22, Tryd.ntmps22
        go_wp2
        go_ret
        exact ⟨rfl, rfl⟩
      · rw [show kindT k = [] by simp [kindT, h1, h2, h3]]
        have b1 : (k == 1) = false := by rw [beq_eq_false_iff_ne]; exact h1
        have b2 : (k == 2) = false := by rw [beq_eq_false_iff_ne]; exact h2
        have b3 : (k == 3) = false := by rw [beq_eq_false_iff_ne]; exact h3
        go_enter Tryd.func22, Tryd.ntmps22
        go_wp2
        go_ret
        exact ⟨rfl, rfl⟩
theorem kindName_b (k : Int) (w : World) : Calls Tryd.prog 22 #[.int .i64 k] w fun e w' => e = .returned (.string (strB (kindT k))) ∧ Below w.heap.size w w' := (kindName_c k w).mono fun _ _ h => ⟨h.1, by rw [h.2]; exact Below.refl _ _⟩
theorem roleName_b (r : Int) (hr : roleE r = true) (w : World) : Calls Tryd.prog 24 #[.int .i64 r] w fun e w' => e = .returned (.string (strB (roleT r))) ∧ Below w.heap.size w w' := by
  rcases roleE_iff.1 hr with rfl | rfl
  · go_enter Tryd.func24, Tryd.ntmps24
    go_wp2
    go_ret
    exact ⟨rfl, Below.refl _ _⟩
  · go_enter Tryd.func24, Tryd.ntmps24
    go_wp2
    go_ret
    exact ⟨rfl, Below.refl _ _⟩
theorem decimal_c (n : Nat) (hn : n < 100) (w : World) : Calls Tryd.prog 23 #[.int .i64 (n : Int)] w fun e w' => e = .returned (.string (strB (decL n))) ∧ w' = w := by
  have k := fun w => format_c n hn w
  rw [show Go.Lib.decDigits n = decL n from rfl] at k
  generalize decL n = t at *
  go_enter Tryd.func23, Tryd.ntmps23
  go_wp2_with (go_at_call 42; refine (k _).mono ?_; rintro e w' ⟨rfl, rfl⟩)
  go_ret
  exact ⟨rfl, rfl⟩
theorem decimal_b (n : Nat) (hn : n < 100) (w : World) : Calls Tryd.prog 23 #[.int .i64 (n : Int)] w fun e w' => e = .returned (.string (strB (decL n))) ∧ Below w.heap.size w w' := (decimal_c n hn w).mono fun _ _ h => ⟨h.1, by rw [h.2]; exact Below.refl _ _⟩
theorem join_two (a b : List UInt8) : Go.Lib.join [a, b] [32] = a ++ [32] ++ b := by simp [Go.Lib.join, List.intercalate]
theorem join_four (a b c d : List UInt8) : Go.Lib.join [a, b, c, d] [32] = a ++ [32] ++ b ++ [32] ++ c ++ [32] ++ d := by simp [Go.Lib.join, List.intercalate]
theorem join_five (a b c d f : List UInt8) : Go.Lib.join [a, b, c, d, f] [32] = a ++ [32] ++ b ++ [32] ++ c ++ [32] ++ d ++ [32] ++ f := by simp [Go.Lib.join, List.intercalate]
set_option maxRecDepth 4000 in
set_option maxHeartbeats 1000000 in
/-- Two numbers. -/
theorem decimals_c (b n m : Nat) (w : World) (hn : n < 100) (hm : m < 100) (h0 : w.cell? ⟨b, 0, none⟩ = some (.int .i64 n)) (h1 : w.cell? ⟨b, 1, none⟩ = some (.int .i64 m)) :
    Calls Tryd.prog 25 #[.slice (some ⟨b, 0, none⟩) 2 2] w fun e w' => e = .returned (.string (strB (decL n ++ [32] ++ decL m))) ∧ Below w.heap.size w w' := by
  have R : ∀ k, k < 2 → ∃ x : Nat, [n, m][k]? = some x ∧ x < 100 ∧ w.cell? ⟨b, k, none⟩ = some (.int .i64 (x : Int)) := by
    intro k hk
    rcases (show k = 0 ∨ k = 1 by omega) with rfl | rfl
    · exact ⟨n, rfl, hn, h0⟩
    · exact ⟨m, rfl, hm, h1⟩
  have ln := decL_len2 hn
  have lm := decL_len2 hm
  clear h0 h1
  go_enter Tryd.func25, Tryd.ntmps25
  go_wp2_with fail
  go_loopw [3, 8] (fun u i wr => ∃ (k : Nat), k ≤ 2 ∧ i = .int .i64 k ∧ OwnX wr w.heap.size u (([n, m].take k).map decL) ∧ Below w.heap.size w wr)
    (fun _ i _ => 2 - (intOf i).toNat)
  case atStart => exact ⟨0, Nat.zero_le _, rfl, OwnX_nil _ _, Below.refl _ _⟩
  case round =>
    obtain ⟨k, hk, rfl, hown, BW⟩ := hrel
    by_cases hlt : k < 2
    · obtain ⟨x, hx, hx2, hc⟩ := R k hlt
      have ck := cell_keep hc BW
      have hkI : (k : Int) < 2 := by omega
      have hT : ([n, m].take (k + 1)).map decL = ([n, m].take k).map decL ++ [decL x] := by rw [List.take_add_one, hx, List.map_append]; rfl
      have hlen : (([n, m].take k).map decL).length = k := by simp; omega
      have hO := hown.stay (alloc_below wr (.cells #[.string (strB (decL x))] 9))
      have hA := Arr.new wr [.string (strB (decL x))] 9
      have B2 := Below.step BW (alloc_below wr (.cells #[.string (strB (decL x))] 9))
      have hz3 : Hid (w.heap.size ≤ (wr.alloc (.cells #[.string (strB (decL x))] 9)).heap.size) := B2.size
      obtain ⟨V, hV⟩ : ∃ V, V = u3 := ⟨_, rfl⟩
      rw [← hV] at hO
      have HX : Hid (x < 100) := hx2
      clear hown BW hx hc R hx2
      go_wp2_with (first
        | (go_at_call 23; refine (decimal_c x HX.out _).mono ?_; rintro e w' ⟨rfl, rfl⟩)
        | (at_builtin; refine wpList_append_txt rfl (.tmp 12) (.tmp 15) rfl hO hA hV.symm rfl hz3.out (by omega) ?_; intro pu qu w3 hown3 hb3 _ _; clear hO hA))
      have B3 := B2.trans hb3
      clear B2 hb3 ck
      go_wp2_with fail
      go_roundw
      case rel => exact ⟨k + 1, by omega, by go_num, by rw [hT]; rw [hlen] at hown3; exact hown3, B3⟩
      case measure => simp [intOf]; omega
    · have e : k = 2 := by omega
      subst e
      have hj : Hid (Go.Lib.join [decL n, decL m] [32] = decL n ++ [32] ++ decL m) := join_two _ _
      obtain ⟨p, q, rfl, hr⟩ := hown.rd
      have K := join_c p q (([n, m].take 2).map decL) ⟨#[32]⟩ wr hr (by simp) (by rw [show Go.Lib.join (([n, m].take 2).map decL) (⟨#[32]⟩ : ByteArray).data.toList = Go.Lib.join [decL n, decL m] [32] from rfl, hj.out]; simp; omega)
      rw [show Go.Lib.join (([n, m].take 2).map decL) (⟨#[32]⟩ : ByteArray).data.toList = Go.Lib.join [decL n, decL m] [32] from rfl, hj.out] at K
      clear hr hown R
      go_wp2_with fail
      refine K.mono ?_
      rintro e w2 ⟨rfl, hb⟩
      replace BW := Below.step BW hb
      clear K hb
      go_wp2
      go_ret
      exact ⟨by simp, BW⟩
set_option maxRecDepth 4000 in
set_option maxHeartbeats 4000000 in
open Classical in
theorem isEventTold_k (e : EventD) (us : List Value) (w : World) (h : eventC.rep w e us) :
    Calls Tryd.prog 21 #[.agg us.toArray] w fun ee w' => ee = .returned (.bool (decide (etOk e))) ∧ Below w.heap.size w w' := by
  obtain ⟨p, q, rfl, -⟩ := event_rep h
  clear h
  have hK1 : inB e.1 1 3 = true → kindT e.1 ≠ [] := fun h => by
    have := inB_of h
    rcases (show e.1 = 1 ∨ e.1 = 2 ∨ e.1 = 3 by omega) with h | h | h <;> rw [h] <;> decide
  have hK0 : inB e.1 1 3 = false → kindT e.1 = [] := fun h => by
    have : ¬ (1 ≤ e.1 ∧ e.1 ≤ 3) := fun hh => by rw [inB_true hh.1 hh.2] at h; cases h
    have h1 : e.1 ≠ 1 := by omega
    have h2 : e.1 ≠ 2 := by omega
    have h3 : e.1 ≠ 3 := by omega
    simp [kindT, h1, h2, h3]
  have hT := strB_list (kindT e.1)
  by_cases he : etOk e
  · rw [decide_eq_true he]
    obtain ⟨h1, h2, h3, h4, h5, h6⟩ := id he
    have hL : ((e.2.2.2.1.length : Nat) : Int) ≤ 20 := by omega
    have hk : (strB (kindT e.1)).toList.isEmpty = false := by rw [hT]; simpa using hK1 h1
    clear h6 he hK1 hK0 hT h1
    go_enter Tryd.func21, Tryd.ntmps21
    go_wp2_with (first
      | (go_at_call 22; refine (kindName_c _ _).mono ?_; rintro e w' ⟨rfl, rfl⟩)
      | (go_at_call 38; refine (isRole_e _ _).mono ?_; rintro e w' ⟨rfl, rfl⟩)
      | (go_at_call 39; refine (isPlaceOf_e _ _).mono ?_; rintro e w' ⟨rfl, rfl⟩)
      | (go_at_call 40; refine (isCertId_e _ _).mono ?_; rintro e w' ⟨rfl, rfl⟩)
      | (go_at_call 41; refine (isGiver_e _ _).mono ?_; rintro e w' ⟨rfl, rfl⟩))
    go_ret
    exact ⟨by simp, alloc_below _ _⟩
  · rw [decide_eq_false he]
    rcases not_etOk he with h1 | ⟨h1, h2 | ⟨h2, h3 | ⟨h3, h4 | ⟨h4, h5 | ⟨h5, h6⟩⟩⟩⟩⟩
    case' inl => have hk : (strB (kindT e.1)).toList.isEmpty = true := by rw [hT, hK0 h1]; rfl
    case' inr.inl => have hk : (strB (kindT e.1)).toList.isEmpty = false := by rw [hT]; simpa using hK1 h1
    case' inr.inr.inl => have hk : (strB (kindT e.1)).toList.isEmpty = false := by rw [hT]; simpa using hK1 h1
    case' inr.inr.inr.inl => have hk : (strB (kindT e.1)).toList.isEmpty = false := by rw [hT]; simpa using hK1 h1
    case' inr.inr.inr.inr.inl => have hk : (strB (kindT e.1)).toList.isEmpty = false := by rw [hT]; simpa using hK1 h1
    case' inr.inr.inr.inr.inr =>
      have hk : (strB (kindT e.1)).toList.isEmpty = false := by rw [hT]; simpa using hK1 h1
      replace h6 : ¬ ((e.2.2.2.1.length : Nat) : Int) ≤ 20 := by omega
    all_goals
      clear he hK1 hK0 hT h1
      go_enter Tryd.func21, Tryd.ntmps21
      go_wp2_with (first
        | (go_at_call 22; refine (kindName_c _ _).mono ?_; rintro e w' ⟨rfl, rfl⟩)
        | (go_at_call 38; refine (isRole_e _ _).mono ?_; rintro e w' ⟨rfl, rfl⟩)
        | (go_at_call 39; refine (isPlaceOf_e _ _).mono ?_; rintro e w' ⟨rfl, rfl⟩)
        | (go_at_call 40; refine (isCertId_e _ _).mono ?_; rintro e w' ⟨rfl, rfl⟩)
        | (go_at_call 41; refine (isGiver_e _ _).mono ?_; rintro e w' ⟨rfl, rfl⟩))
      go_ret
      exact ⟨by first | rfl | (simp; omega), alloc_below _ _⟩

theorem ownX_four (B : Nat) (w : World) (hB : B ≤ w.heap.size) (a b c d : List UInt8) : OwnX (w.alloc (.cells #[.string (strB a), .string (strB b), .string (strB c), .string (strB d)] 9)) B (.slice (some ⟨w.heap.size, 0, none⟩) 4 4) [a, b, c, d] :=
  World.ownsRow_lit (base := B) (e := 9) (size := 1) w #[.string (strB a), .string (strB b), .string (strB c), .string (strB d)] 4 hB (by unfold maxLen; decide) (by simp)
set_option maxRecDepth 4000 in
set_option maxHeartbeats 4000000 in
open Classical in
theorem implEv_k (e : EventD) (us : List Value) (w : World) (h : eventC.rep w e us) :
    Calls Tryd.prog 8 #[.agg us.toArray] w fun ee w' => ee = .returned (.agg #[.int .i64 (etC e), .string (strB (etX e))]) ∧ Below w.heap.size w w' := by
  obtain ⟨p, q, rfl, hr⟩ := event_rep h
  clear h
  have BW := Below.mk (alloc_below w (.cells #[.int .i64 e.1, .int .i64 e.2.1, .int .i64 e.2.2.1, .slice p e.2.2.2.1.length q, .int .i64 e.2.2.2.2.1, .int .i64 e.2.2.2.2.2] 29)) (Obj.cells #[.int .i64 0, .string ⟨#[]⟩] 27)
  have K1 := isEventTold_k e _ _ (event_mk (hr.keep BW))
  have A := (Arr.new w [.int .i64 e.1, .int .i64 e.2.1, .int .i64 e.2.2.1, .slice p e.2.2.2.1.length q, .int .i64 e.2.2.2.2.1, .int .i64 e.2.2.2.2.2] 29).old _ (Obj.cells #[.int .i64 0, .string ⟨#[]⟩] 27)
  have B := Arr.new (w.alloc (.cells #[.int .i64 e.1, .int .i64 e.2.1, .int .i64 e.2.2.1, .slice p e.2.2.2.1.length q, .int .i64 e.2.2.2.2.1, .int .i64 e.2.2.2.2.2] 29)) [.int .i64 0, .string ⟨#[]⟩] 27
  rw [size_alloc] at B
  have R := hr.keep BW
  have K : Hid (Calls _ _ _ _ _) := K1
  clear K1 hr
  by_cases he : etOk e
  case neg =>
    rw [etC_no he, etX_no he]
    rw [decide_eq_false he] at K
    go_enter Tryd.func8, Tryd.ntmps8
    go_wp2_with fail
    refine K.out.mono ?_
    rintro ee w1 ⟨rfl, hb⟩
    replace B := B.stay hb
    replace BW := Below.step BW hb
    have d0 := B.cell 0
    have d1 := B.cell 1
    have e0 := B.frozen
    have hlt := B.lt
    simp at d0 d1
    have B2 := (BW.setCell (p := ⟨w.heap.size + 1, 0, none⟩) (Nat.le_succ _) (.int .i64 3)).setCell (p := ⟨w.heap.size + 1, 1, none⟩) (Nat.le_succ _) (.string ⟨#[]⟩)
    clear A B K hb BW R he
    go_wp2_with fail
    exact bodyPost_ret (v := .agg #[.int .i64 3, .string ⟨#[]⟩]) (by simp [results, Tryd.results8, go_sem, d0, d1]) rfl ⟨rfl, B2⟩
  case pos =>
    rw [etC_yes he, etX_yes he]
    rw [decide_eq_true he] at K
    have hL := etH_len he
    obtain ⟨h1, h2, h3, h4, h5, h6⟩ := he
    obtain ⟨kd, li, ro, c, ce, by'⟩ := e
    simp only at A K R BW B hL h1 h2 h3 h4 h5 h6
    obtain ⟨e1, l1⟩ := dec100 h3 (by decide) (by decide)
    obtain ⟨e2, l2⟩ := dec100 h4 (by decide) (by decide)
    obtain ⟨e3, l3⟩ := dec100 h5 (by decide) (by decide)
    have hT : etT (kd, li, ro, c, ce, by') = if c = [] then etH (kd, li, ro, c, ce, by') else etH (kd, li, ro, c, ce, by') ++ [32] ++ hexL c := rfl
    have hH : etH (kd, li, ro, c, ce, by') = kindT kd ++ [32] ++ decL li.toNat ++ [32] ++ roleT ro ++ [32] ++ decL ce.toNat ++ [32] ++ decL by'.toNat := rfl
    generalize etT (kd, li, ro, c, ce, by') = T at *
    generalize etH (kd, li, ro, c, ce, by') = H at *
    generalize li.toNat = n1 at *
    generalize ce.toNat = n2 at *
    generalize by'.toNat = n3 at *
    subst e1 e2 e3
    have HC : Hid (c.length ≤ 20) := h6
    have HRo : Hid (roleE ro = true) := h2
    have Hn1 : Hid (n1 < 100) := l1
    have Hn2 : Hid (n2 < 100) := l2
    have Hn3 : Hid (n3 < 100) := l3
    have J4 : Hid (Go.Lib.join [kindT kd, decL n1, roleT ro, decL n2 ++ [32] ++ decL n3] [32] = H) := by show _ = _; rw [join_four, hH]; simp
    have J5 : Hid (Go.Lib.join [kindT kd, decL n1, roleT ro, decL n2 ++ [32] ++ decL n3, hexL c] [32] = H ++ [32] ++ hexL c) := by show _ = _; rw [join_five, hH]; simp
    clear h1 h2 h3 h4 h5 h6 l1 l2 l3 hH
    go_enter Tryd.func8, Tryd.ntmps8
    go_wp2_with fail
    refine K.out.mono ?_
    rintro ee w1 ⟨rfl, hb⟩
    replace A := A.stay hb
    replace B := B.stay hb
    replace R := R.keep hb
    replace BW := Below.step BW hb
    have HA : Hid (Arr w1 w.heap.size 29 [.int .i64 kd, .int .i64 n1, .int .i64 ro, .slice p c.length q, .int .i64 n2, .int .i64 n3]) := A
    have HB : Hid (Arr w1 (w.heap.size + 1) 27 [.int .i64 0, .string ⟨#[]⟩]) := B
    have HR : Hid (Rd w1 p q c) := R
    have HW1 : Hid (Below w.heap.size w w1) := BW
    have x0 := (A.cell 0).trans (show _ = some _ from rfl)
    have x1 := (A.cell 1).trans (show _ = some _ from rfl)
    have x2 := (A.cell 2).trans (show _ = some _ from rfl)
    have x4 := (A.cell 4).trans (show _ = some _ from rfl)
    have x5 := (A.cell 5).trans (show _ = some _ from rfl)
    have hz1 : Hid (w.heap.size + 1 < w1.heap.size) := B.lt
    clear A B R BW K hb
    go_wp2_with fail
    apply share
    case h =>
      intro JN
      have BB := Below.refl w1.heap.size w1
      have hne := HW.some w1
      have g0 := HW.at (x0)
      have g1 := HW.at (x1)
      have g2 := HW.at (x2)
      have g4 := HW.at (x4)
      have g5 := HW.at (x5)
      refine wp_region_pick [0, 1, 3, 4, 6, 7, 9, 10, 11, 12] 16 6 1 rfl rfl rfl (by kernel_rfl) (by kernel_rfl) (by kernel_rfl) (by kernel_rfl) ?_
      simp only [opsAt, List.getElem?_toArray, List.getElem?_cons_zero, List.getElem?_cons_succ]
      repeat (go_big_quiet_step (fail))
      refine wpQuiet_nil ?_
      clear g0 g1 g2 g4 g5
      refine wpM_two (i := 2) (j := 13) (by kernel_rfl) ?_ ?_
      · skip
        refine mOp_call rfl (by go_simp) 22 _ #[.int .i64 kd] (fun w => by go_simp) rfl ?_
        rintro _ ⟨sg, rfl⟩
        refine (kindName_b kd _).mono ?_
        rintro e wg1 ⟨rfl, hbx⟩
        have hbg := Below.step sg.h hbx
        refine ⟨_, rfl, ⟨⟨wg1, hbx⟩, rfl⟩, ?_⟩
        replace BB := Below.step BB hbg
        clear hbg hbx sg
        replace hne := HW.some wg1
        refine wpM_two (i := 5) (j := 13) (by kernel_rfl) ?_ ?_
        · skip
          refine mOp_call rfl (by go_simp) 23 _ #[.int .i64 (n1 : Int)] (fun w => by go_simp) rfl ?_
          rintro _ ⟨sg, rfl⟩
          refine (decimal_b n1 Hn1.out _).mono ?_
          rintro e wg2 ⟨rfl, hbx⟩
          have hbg := Below.step sg.h hbx
          refine ⟨_, rfl, ⟨⟨wg2, hbx⟩, rfl⟩, ?_⟩
          replace BB := Below.step BB hbg
          clear hbg hbx sg
          replace hne := HW.some wg2
          refine wpM_two (i := 8) (j := 13) (by kernel_rfl) ?_ ?_
          · skip
            refine mOp_call rfl (by go_simp) 24 _ #[.int .i64 ro] (fun w => by go_simp) rfl ?_
            rintro _ ⟨sg, rfl⟩
            refine (roleName_b ro HRo.out _).mono ?_
            rintro e wg3 ⟨rfl, hbx⟩
            have hbg := Below.step sg.h hbx
            refine ⟨_, rfl, ⟨⟨wg3, hbx⟩, rfl⟩, ?_⟩
            replace BB := Below.step BB hbg
            clear hbg hbx sg
            replace hne := HW.some wg3
            refine wpM_only (i := 13) (by kernel_rfl) ?_
            refine mOp_make rfl (by go_simp) ?_
            rintro _ ⟨sg, rfl⟩
            refine ⟨.slice (some ⟨sg.w.heap.size, 0, none⟩) 2 2, sg.w.alloc (.cells #[.int .i64 (n2 : Int), .int .i64 (n3 : Int)] 2), by go_simp, ⟨⟨_, alloc_below _ _⟩, rfl⟩, ?_⟩
            have hbg := Below.step sg.h (alloc_below sg.w (.cells #[.int .i64 (n2 : Int), .int .i64 (n3 : Int)] 2))
            have AA := Arr.new sg.w [.int .i64 (n2 : Int), .int .i64 (n3 : Int)] 2
            replace BB := Below.step BB hbg
            clear hbg
            replace hne := HW.some (sg.w.alloc (.cells #[.int .i64 (n2 : Int), .int .i64 (n3 : Int)] 2))
            generalize hW : (sg.w.alloc (.cells #[.int .i64 (n2 : Int), .int .i64 (n3 : Int)] 2)) = wg4 at *
            clear hW
            generalize sg.w.heap.size = ga at *
            clear sg
            refine wpM_only (i := 14) (by kernel_rfl) ?_
            refine mOp_call rfl (by go_simp) 25 _ #[.slice (some ⟨ga, 0, none⟩) 2 2] (fun w => by go_simp) rfl ?_
            rintro _ ⟨sg, rfl⟩
            refine (decimals_c ga n2 n3 _ Hn2.out Hn3.out (((AA.stay sg.h).cell 0).trans rfl) (((AA.stay sg.h).cell 1).trans rfl)).mono ?_
            rintro e wg5 ⟨rfl, hbx⟩
            have hbg := Below.step sg.h hbx
            refine ⟨_, rfl, ⟨⟨wg5, hbx⟩, rfl⟩, ?_⟩
            replace AA := AA.stay hbg
            replace BB := Below.step BB hbg
            clear hbg hbx sg
            replace hne := HW.some wg5
            refine wpM_only (i := 15) (by kernel_rfl) ?_
            refine mOp_make rfl (by go_simp) ?_
            rintro _ ⟨sg, rfl⟩
            refine ⟨.slice (some ⟨sg.w.heap.size, 0, none⟩) 4 4, sg.w.alloc (.cells #[.string (strB (kindT kd)), .string (strB (decL n1)), .string (strB (roleT ro)), .string (strB (decL n2 ++ [32] ++ decL n3))] 9), by go_simp, ⟨⟨_, alloc_below _ _⟩, rfl⟩, ?_⟩
            have hbg := Below.step sg.h (alloc_below sg.w (.cells #[.string (strB (kindT kd)), .string (strB (decL n1)), .string (strB (roleT ro)), .string (strB (decL n2 ++ [32] ++ decL n3))] 9))
            have OX := ownX_four w1.heap.size sg.w (Below.step BB sg.h).size (kindT kd) (decL n1) (roleT ro) (decL n2 ++ [32] ++ decL n3)
            replace AA := AA.stay hbg
            replace BB := Below.step BB hbg
            clear hbg
            replace hne := HW.some (sg.w.alloc (.cells #[.string (strB (kindT kd)), .string (strB (decL n1)), .string (strB (roleT ro)), .string (strB (decL n2 ++ [32] ++ decL n3))] 9))
            generalize hW : (sg.w.alloc (.cells #[.string (strB (kindT kd)), .string (strB (decL n1)), .string (strB (roleT ro)), .string (strB (decL n2 ++ [32] ++ decL n3))] 9)) = wg6 at *
            clear hW
            generalize sg.w.heap.size = gb at *
            clear sg
            refine wpM_end (by kernel_rfl) rfl (by kernel_rfl) (by decide) ?_
            rintro _ ⟨sz, rfl⟩
            simp only [List.drop_succ_cons, List.drop_zero]
            go_simp
            replace AA := AA.stay sz.h
            replace OX := OX.stay sz.h
            replace BB := Below.step BB sz.h
            clear hne
            generalize sz.w = W at *
            clear sz
            revert OX
            revert AA
            revert BB
            revert gb
            revert ga
            revert W
            exact JN.out
          · skip
            refine mOp_make rfl (by go_simp) ?_
            rintro _ ⟨sg, rfl⟩
            refine ⟨.slice (some ⟨sg.w.heap.size, 0, none⟩) 2 2, sg.w.alloc (.cells #[.int .i64 (n2 : Int), .int .i64 (n3 : Int)] 2), by go_simp, ⟨⟨_, alloc_below _ _⟩, rfl⟩, ?_⟩
            have hbg := Below.step sg.h (alloc_below sg.w (.cells #[.int .i64 (n2 : Int), .int .i64 (n3 : Int)] 2))
            have AA := Arr.new sg.w [.int .i64 (n2 : Int), .int .i64 (n3 : Int)] 2
            replace BB := Below.step BB hbg
            clear hbg
            replace hne := HW.some (sg.w.alloc (.cells #[.int .i64 (n2 : Int), .int .i64 (n3 : Int)] 2))
            generalize hW : (sg.w.alloc (.cells #[.int .i64 (n2 : Int), .int .i64 (n3 : Int)] 2)) = wg7 at *
            clear hW
            generalize sg.w.heap.size = ga at *
            clear sg
            refine wpM_only (i := 8) (by kernel_rfl) ?_
            refine mOp_call rfl (by go_simp) 24 _ #[.int .i64 ro] (fun w => by go_simp) rfl ?_
            rintro _ ⟨sg, rfl⟩
            refine (roleName_b ro HRo.out _).mono ?_
            rintro e wg8 ⟨rfl, hbx⟩
            have hbg := Below.step sg.h hbx
            refine ⟨_, rfl, ⟨⟨wg8, hbx⟩, rfl⟩, ?_⟩
            replace AA := AA.stay hbg
            replace BB := Below.step BB hbg
            clear hbg hbx sg
            replace hne := HW.some wg8
            refine wpM_only (i := 14) (by kernel_rfl) ?_
            refine mOp_call rfl (by go_simp) 25 _ #[.slice (some ⟨ga, 0, none⟩) 2 2] (fun w => by go_simp) rfl ?_
            rintro _ ⟨sg, rfl⟩
            refine (decimals_c ga n2 n3 _ Hn2.out Hn3.out (((AA.stay sg.h).cell 0).trans rfl) (((AA.stay sg.h).cell 1).trans rfl)).mono ?_
            rintro e wg9 ⟨rfl, hbx⟩
            have hbg := Below.step sg.h hbx
            refine ⟨_, rfl, ⟨⟨wg9, hbx⟩, rfl⟩, ?_⟩
            replace AA := AA.stay hbg
            replace BB := Below.step BB hbg
            clear hbg hbx sg
            replace hne := HW.some wg9
            refine wpM_only (i := 15) (by kernel_rfl) ?_
            refine mOp_make rfl (by go_simp) ?_
            rintro _ ⟨sg, rfl⟩
            refine ⟨.slice (some ⟨sg.w.heap.size, 0, none⟩) 4 4, sg.w.alloc (.cells #[.string (strB (kindT kd)), .string (strB (decL n1)), .string (strB (roleT ro)), .string (strB (decL n2 ++ [32] ++ decL n3))] 9), by go_simp, ⟨⟨_, alloc_below _ _⟩, rfl⟩, ?_⟩
            have hbg := Below.step sg.h (alloc_below sg.w (.cells #[.string (strB (kindT kd)), .string (strB (decL n1)), .string (strB (roleT ro)), .string (strB (decL n2 ++ [32] ++ decL n3))] 9))
            have OX := ownX_four w1.heap.size sg.w (Below.step BB sg.h).size (kindT kd) (decL n1) (roleT ro) (decL n2 ++ [32] ++ decL n3)
            replace AA := AA.stay hbg
            replace BB := Below.step BB hbg
            clear hbg
            replace hne := HW.some (sg.w.alloc (.cells #[.string (strB (kindT kd)), .string (strB (decL n1)), .string (strB (roleT ro)), .string (strB (decL n2 ++ [32] ++ decL n3))] 9))
            generalize hW : (sg.w.alloc (.cells #[.string (strB (kindT kd)), .string (strB (decL n1)), .string (strB (roleT ro)), .string (strB (decL n2 ++ [32] ++ decL n3))] 9)) = wg10 at *
            clear hW
            generalize sg.w.heap.size = gb at *
            clear sg
            refine wpM_end (by kernel_rfl) rfl (by kernel_rfl) (by decide) ?_
            rintro _ ⟨sz, rfl⟩
            simp only [List.drop_succ_cons, List.drop_zero]
            go_simp
            replace AA := AA.stay sz.h
            replace OX := OX.stay sz.h
            replace BB := Below.step BB sz.h
            clear hne
            generalize sz.w = W at *
            clear sz
            revert OX
            revert AA
            revert BB
            revert gb
            revert ga
            revert W
            exact JN.out
        · skip
          refine mOp_make rfl (by go_simp) ?_
          rintro _ ⟨sg, rfl⟩
          refine ⟨.slice (some ⟨sg.w.heap.size, 0, none⟩) 2 2, sg.w.alloc (.cells #[.int .i64 (n2 : Int), .int .i64 (n3 : Int)] 2), by go_simp, ⟨⟨_, alloc_below _ _⟩, rfl⟩, ?_⟩
          have hbg := Below.step sg.h (alloc_below sg.w (.cells #[.int .i64 (n2 : Int), .int .i64 (n3 : Int)] 2))
          have AA := Arr.new sg.w [.int .i64 (n2 : Int), .int .i64 (n3 : Int)] 2
          replace BB := Below.step BB hbg
          clear hbg
          replace hne := HW.some (sg.w.alloc (.cells #[.int .i64 (n2 : Int), .int .i64 (n3 : Int)] 2))
          generalize hW : (sg.w.alloc (.cells #[.int .i64 (n2 : Int), .int .i64 (n3 : Int)] 2)) = wg11 at *
          clear hW
          generalize sg.w.heap.size = ga at *
          clear sg
          refine wpM_only (i := 5) (by kernel_rfl) ?_
          refine mOp_call rfl (by go_simp) 23 _ #[.int .i64 (n1 : Int)] (fun w => by go_simp) rfl ?_
          rintro _ ⟨sg, rfl⟩
          refine (decimal_b n1 Hn1.out _).mono ?_
          rintro e wg12 ⟨rfl, hbx⟩
          have hbg := Below.step sg.h hbx
          refine ⟨_, rfl, ⟨⟨wg12, hbx⟩, rfl⟩, ?_⟩
          replace AA := AA.stay hbg
          replace BB := Below.step BB hbg
          clear hbg hbx sg
          replace hne := HW.some wg12
          refine wpM_only (i := 8) (by kernel_rfl) ?_
          refine mOp_call rfl (by go_simp) 24 _ #[.int .i64 ro] (fun w => by go_simp) rfl ?_
          rintro _ ⟨sg, rfl⟩
          refine (roleName_b ro HRo.out _).mono ?_
          rintro e wg13 ⟨rfl, hbx⟩
          have hbg := Below.step sg.h hbx
          refine ⟨_, rfl, ⟨⟨wg13, hbx⟩, rfl⟩, ?_⟩
          replace AA := AA.stay hbg
          replace BB := Below.step BB hbg
          clear hbg hbx sg
          replace hne := HW.some wg13
          refine wpM_only (i := 14) (by kernel_rfl) ?_
          refine mOp_call rfl (by go_simp) 25 _ #[.slice (some ⟨ga, 0, none⟩) 2 2] (fun w => by go_simp) rfl ?_
          rintro _ ⟨sg, rfl⟩
          refine (decimals_c ga n2 n3 _ Hn2.out Hn3.out (((AA.stay sg.h).cell 0).trans rfl) (((AA.stay sg.h).cell 1).trans rfl)).mono ?_
          rintro e wg14 ⟨rfl, hbx⟩
          have hbg := Below.step sg.h hbx
          refine ⟨_, rfl, ⟨⟨wg14, hbx⟩, rfl⟩, ?_⟩
          replace AA := AA.stay hbg
          replace BB := Below.step BB hbg
          clear hbg hbx sg
          replace hne := HW.some wg14
          refine wpM_only (i := 15) (by kernel_rfl) ?_
          refine mOp_make rfl (by go_simp) ?_
          rintro _ ⟨sg, rfl⟩
          refine ⟨.slice (some ⟨sg.w.heap.size, 0, none⟩) 4 4, sg.w.alloc (.cells #[.string (strB (kindT kd)), .string (strB (decL n1)), .string (strB (roleT ro)), .string (strB (decL n2 ++ [32] ++ decL n3))] 9), by go_simp, ⟨⟨_, alloc_below _ _⟩, rfl⟩, ?_⟩
          have hbg := Below.step sg.h (alloc_below sg.w (.cells #[.string (strB (kindT kd)), .string (strB (decL n1)), .string (strB (roleT ro)), .string (strB (decL n2 ++ [32] ++ decL n3))] 9))
          have OX := ownX_four w1.heap.size sg.w (Below.step BB sg.h).size (kindT kd) (decL n1) (roleT ro) (decL n2 ++ [32] ++ decL n3)
          replace AA := AA.stay hbg
          replace BB := Below.step BB hbg
          clear hbg
          replace hne := HW.some (sg.w.alloc (.cells #[.string (strB (kindT kd)), .string (strB (decL n1)), .string (strB (roleT ro)), .string (strB (decL n2 ++ [32] ++ decL n3))] 9))
          generalize hW : (sg.w.alloc (.cells #[.string (strB (kindT kd)), .string (strB (decL n1)), .string (strB (roleT ro)), .string (strB (decL n2 ++ [32] ++ decL n3))] 9)) = wg15 at *
          clear hW
          generalize sg.w.heap.size = gb at *
          clear sg
          refine wpM_end (by kernel_rfl) rfl (by kernel_rfl) (by decide) ?_
          rintro _ ⟨sz, rfl⟩
          simp only [List.drop_succ_cons, List.drop_zero]
          go_simp
          replace AA := AA.stay sz.h
          replace OX := OX.stay sz.h
          replace BB := Below.step BB sz.h
          clear hne
          generalize sz.w = W at *
          clear sz
          revert OX
          revert AA
          revert BB
          revert gb
          revert ga
          revert W
          exact JN.out
      · skip
        refine mOp_make rfl (by go_simp) ?_
        rintro _ ⟨sg, rfl⟩
        refine ⟨.slice (some ⟨sg.w.heap.size, 0, none⟩) 2 2, sg.w.alloc (.cells #[.int .i64 (n2 : Int), .int .i64 (n3 : Int)] 2), by go_simp, ⟨⟨_, alloc_below _ _⟩, rfl⟩, ?_⟩
        have hbg := Below.step sg.h (alloc_below sg.w (.cells #[.int .i64 (n2 : Int), .int .i64 (n3 : Int)] 2))
        have AA := Arr.new sg.w [.int .i64 (n2 : Int), .int .i64 (n3 : Int)] 2
        replace BB := Below.step BB hbg
        clear hbg
        replace hne := HW.some (sg.w.alloc (.cells #[.int .i64 (n2 : Int), .int .i64 (n3 : Int)] 2))
        generalize hW : (sg.w.alloc (.cells #[.int .i64 (n2 : Int), .int .i64 (n3 : Int)] 2)) = wg16 at *
        clear hW
        generalize sg.w.heap.size = ga at *
        clear sg
        refine wpM_only (i := 2) (by kernel_rfl) ?_
        refine mOp_call rfl (by go_simp) 22 _ #[.int .i64 kd] (fun w => by go_simp) rfl ?_
        rintro _ ⟨sg, rfl⟩
        refine (kindName_b kd _).mono ?_
        rintro e wg17 ⟨rfl, hbx⟩
        have hbg := Below.step sg.h hbx
        refine ⟨_, rfl, ⟨⟨wg17, hbx⟩, rfl⟩, ?_⟩
        replace AA := AA.stay hbg
        replace BB := Below.step BB hbg
        clear hbg hbx sg
        replace hne := HW.some wg17
        refine wpM_only (i := 5) (by kernel_rfl) ?_
        refine mOp_call rfl (by go_simp) 23 _ #[.int .i64 (n1 : Int)] (fun w => by go_simp) rfl ?_
        rintro _ ⟨sg, rfl⟩
        refine (decimal_b n1 Hn1.out _).mono ?_
        rintro e wg18 ⟨rfl, hbx⟩
        have hbg := Below.step sg.h hbx
        refine ⟨_, rfl, ⟨⟨wg18, hbx⟩, rfl⟩, ?_⟩
        replace AA := AA.stay hbg
        replace BB := Below.step BB hbg
        clear hbg hbx sg
        replace hne := HW.some wg18
        refine wpM_only (i := 8) (by kernel_rfl) ?_
        refine mOp_call rfl (by go_simp) 24 _ #[.int .i64 ro] (fun w => by go_simp) rfl ?_
        rintro _ ⟨sg, rfl⟩
        refine (roleName_b ro HRo.out _).mono ?_
        rintro e wg19 ⟨rfl, hbx⟩
        have hbg := Below.step sg.h hbx
        refine ⟨_, rfl, ⟨⟨wg19, hbx⟩, rfl⟩, ?_⟩
        replace AA := AA.stay hbg
        replace BB := Below.step BB hbg
        clear hbg hbx sg
        replace hne := HW.some wg19
        refine wpM_only (i := 14) (by kernel_rfl) ?_
        refine mOp_call rfl (by go_simp) 25 _ #[.slice (some ⟨ga, 0, none⟩) 2 2] (fun w => by go_simp) rfl ?_
        rintro _ ⟨sg, rfl⟩
        refine (decimals_c ga n2 n3 _ Hn2.out Hn3.out (((AA.stay sg.h).cell 0).trans rfl) (((AA.stay sg.h).cell 1).trans rfl)).mono ?_
        rintro e wg20 ⟨rfl, hbx⟩
        have hbg := Below.step sg.h hbx
        refine ⟨_, rfl, ⟨⟨wg20, hbx⟩, rfl⟩, ?_⟩
        replace AA := AA.stay hbg
        replace BB := Below.step BB hbg
        clear hbg hbx sg
        replace hne := HW.some wg20
        refine wpM_only (i := 15) (by kernel_rfl) ?_
        refine mOp_make rfl (by go_simp) ?_
        rintro _ ⟨sg, rfl⟩
        refine ⟨.slice (some ⟨sg.w.heap.size, 0, none⟩) 4 4, sg.w.alloc (.cells #[.string (strB (kindT kd)), .string (strB (decL n1)), .string (strB (roleT ro)), .string (strB (decL n2 ++ [32] ++ decL n3))] 9), by go_simp, ⟨⟨_, alloc_below _ _⟩, rfl⟩, ?_⟩
        have hbg := Below.step sg.h (alloc_below sg.w (.cells #[.string (strB (kindT kd)), .string (strB (decL n1)), .string (strB (roleT ro)), .string (strB (decL n2 ++ [32] ++ decL n3))] 9))
        have OX := ownX_four w1.heap.size sg.w (Below.step BB sg.h).size (kindT kd) (decL n1) (roleT ro) (decL n2 ++ [32] ++ decL n3)
        replace AA := AA.stay hbg
        replace BB := Below.step BB hbg
        clear hbg
        replace hne := HW.some (sg.w.alloc (.cells #[.string (strB (kindT kd)), .string (strB (decL n1)), .string (strB (roleT ro)), .string (strB (decL n2 ++ [32] ++ decL n3))] 9))
        generalize hW : (sg.w.alloc (.cells #[.string (strB (kindT kd)), .string (strB (decL n1)), .string (strB (roleT ro)), .string (strB (decL n2 ++ [32] ++ decL n3))] 9)) = wg21 at *
        clear hW
        generalize sg.w.heap.size = gb at *
        clear sg
        refine wpM_end (by kernel_rfl) rfl (by kernel_rfl) (by decide) ?_
        rintro _ ⟨sz, rfl⟩
        simp only [List.drop_succ_cons, List.drop_zero]
        go_simp
        replace AA := AA.stay sz.h
        replace OX := OX.stay sz.h
        replace BB := Below.step BB sz.h
        clear hne
        generalize sz.w = W at *
        clear sz
        revert OX
        revert AA
        revert BB
        revert gb
        revert ga
        revert W
        exact JN.out
    intro W ga gb BB AA OX
    clear AA x0 x1 x2 x4 x5
    have A := HA.out.stay BB
    have B := HB.out.stay BB
    have R := HR.out.keep BB
    have BW := Below.step HW1.out BB
    have hz2 : Hid (w1.heap.size ≤ W.heap.size) := BB.size
    have HGB : Hid (w1.heap.size ≤ gb) := OX.ge gb rfl
    have d3 := (A.cell 3).trans (show _ = some _ from rfl)
    by_cases hc : c = []
    · have hz : Hid (T = H) := by show _ = _; rw [hT, if_pos hc]
      subst hc
      clear hT
      have K := join_c (some ⟨gb, 0, none⟩) 4 [kindT kd, decL n1, roleT ro, decL n2 ++ [32] ++ decL n3] ⟨#[32]⟩ W (RdX.own OX) (by simp) (by show (Go.Lib.join _ [32]).length ≤ _; rw [J4.out]; omega)
      rw [show Go.Lib.join [kindT kd, decL n1, roleT ro, decL n2 ++ [32] ++ decL n3] (⟨#[32]⟩ : ByteArray).data.toList = Go.Lib.join [kindT kd, decL n1, roleT ro, decL n2 ++ [32] ++ decL n3] [32] from rfl, J4.out, ← hz.out] at K
      clear A R OX J4 J5 HA HR HB hz
      go_wp2_with fail
      refine K.mono ?_
      rintro ee w2 ⟨rfl, hb⟩
      replace B := B.stay hb
      replace BW := Below.step BW hb
      clear K
      have d0 := B.cell 0
      have d1 := B.cell 1
      have e0 := B.frozen
      have hlt := B.lt
      simp at d0 d1
      have B2 := (BW.setCell (p := ⟨w.heap.size + 1, 0, none⟩) (Nat.le_succ _) (.int .i64 0)).setCell (p := ⟨w.heap.size + 1, 1, none⟩) (Nat.le_succ _) (.string (strB T))
      clear B BW hb
      go_wp2_with fail
      exact bodyPost_ret (v := .agg #[.int .i64 0, .string (strB T)]) (by simp [results, Tryd.results8, go_sem, d0, d1]) rfl ⟨rfl, B2⟩
    · have hz : Hid (T = H ++ [32] ++ hexL c) := by show _ = _; rw [hT, if_neg hc]
      have hp : (0 : Int) < (c.length : Int) := by have := List.length_pos_iff.2 hc; omega
      have hx := hexL_len c
      have hht : hexText c = hexL c := by simp [hexText]; intro h; have := HC.out; omega
      have KX := implHex_c p q c W R
      rw [hht] at KX
      have HX : Hid (Calls _ _ _ _ _) := KX
      clear hT hc hht KX
      go_wp2_with fail
      refine HX.out.mono ?_
      rintro ee w2 ⟨rfl, hb⟩
      replace B := B.stay hb
      replace BW := Below.step BW hb
      replace OX := OX.stay hb
      have hz3 : Hid (w1.heap.size ≤ w2.heap.size) := Nat.le_trans hz2.out hb.size
      have hO := OX.stay (alloc_below w2 (.cells #[.string (strB (hexL c))] 9))
      have hA := Arr.new w2 [.string (strB (hexL c))] 9
      have B5 := B.stay (alloc_below w2 (.cells #[.string (strB (hexL c))] 9))
      have BB5 := Below.step BW (alloc_below w2 (.cells #[.string (strB (hexL c))] 9))
      have hz5 : Hid (w1.heap.size ≤ (w2.alloc (.cells #[.string (strB (hexL c))] 9)).heap.size) := by show _ ≤ _; rw [size_alloc]; have := hz3.out; omega
      obtain ⟨V, hV⟩ : ∃ V, V = Value.slice (some ⟨gb, 0, none⟩) 4 4 := ⟨_, rfl⟩
      rw [← hV] at hO
      have hf := fun W => text_f1 (hexCode c) (strB (hexL c)) W
      have HVB : Hid (V.ownBlock = some gb) := by show _ = _; rw [hV]; rfl
      clear A R OX HX HA HR HB hb B BW d3 hp
      go_wp2_with (at_builtin; refine wpList_append_txt rfl (.tmp 28) (.tmp 33) rfl hO hA hV.symm rfl hz5.out (by simp) ?_; intro pu qu w3 hown3 hb3 hg3 _; clear hO hA)
      have B := B5.other hg3 (by rw [HVB.out]; intro h; have h1 : gb = w.heap.size + 1 := Option.some.inj h; have h2 := HGB.out; have h3 := hz1.out; omega)
      have BW := BB5.trans (Below.mono hb3 (by have := hz1.out; omega))
      clear B5 BB5 hb3 hg3
      have K := join_c pu qu ([kindT kd, decL n1, roleT ro, decL n2 ++ [32] ++ decL n3] ++ [hexL c]) ⟨#[32]⟩ w3 (RdX.own hown3) (by simp) (by show (Go.Lib.join [kindT kd, decL n1, roleT ro, decL n2 ++ [32] ++ decL n3, hexL c] [32]).length ≤ _; rw [J5.out]; simp; have := HC.out; omega)
      rw [show Go.Lib.join ([kindT kd, decL n1, roleT ro, decL n2 ++ [32] ++ decL n3] ++ [hexL c]) (⟨#[32]⟩ : ByteArray).data.toList = Go.Lib.join [kindT kd, decL n1, roleT ro, decL n2 ++ [32] ++ decL n3, hexL c] [32] from rfl, J5.out, ← hz.out] at K
      clear hown3 J4 J5 hz hx
      go_wp2_with fail
      refine K.mono ?_
      rintro ee w4 ⟨rfl, hb⟩
      replace B := B.stay hb
      replace BW := Below.step BW hb
      clear K
      have d0 := B.cell 0
      have d1 := B.cell 1
      have e0 := B.frozen
      have hlt := B.lt
      simp at d0 d1
      have B2 := (BW.setCell (p := ⟨w.heap.size + 1, 0, none⟩) (Nat.le_succ _) (.int .i64 0)).setCell (p := ⟨w.heap.size + 1, 1, none⟩) (Nat.le_succ _) (.string (strB T))
      clear B BW hb
      go_wp2_with fail
      exact bodyPost_ret (v := .agg #[.int .i64 0, .string (strB T)]) (by simp [results, Tryd.results8, go_sem, d0, d1]) rfl ⟨rfl, B2⟩
end Go.Proofs.YtgjmhlolbjmibaaDoor
