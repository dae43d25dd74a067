/- The contracts of the laws' helpers on lists of texts (eqStringS, markText, markStringS, heldStringS) and on WordsResult. What was there stays. -/
import Derived.Test.YtgjmhlolbjmibaaDoorTxtA
import Derived.Test.YtgjmhlolbjmibaaDoorDecS
import Derived.Test.YtgjmhlolbjmibaaDoorClass
import Derived.Test.YtgjmhlolbjmibaaDoorWin
namespace Go.Proofs.YtgjmhlolbjmibaaDoor
open Go.ChangeShapes Go.WideShapes Go.ChangeAt Go.RowKit

set_option maxHeartbeats 1000000 in
theorem eqStringS_c (a b : Option Addr) (ca cb : Nat) (l : List (List UInt8)) (w : World) (hra : RdX w a ca l) (hrb : RdX w b cb l) :
    Calls Tryd.prog 32 #[.slice a l.length ca, .slice b l.length cb] w fun e w' => e = .returned (.bool true) ∧ Below w.heap.size w w' := by
  have hm : l.length ≤ maxLen := Nat.le_trans hra.1 hra.2.1
  unfold maxLen at hm
  go_enter Tryd.func32, Tryd.ntmps32
  go_wp2
  go_loopw [5] (fun i wr => ∃ k : Nat, k ≤ l.length ∧ i = .int .i64 k ∧ Below w.heap.size w wr)
    (fun i _ => l.length - (intOf i).toNat)
  case atStart => exact ⟨0, Nat.zero_le _, rfl, Below.refl _ _⟩
  case round =>
    obtain ⟨k, hk, rfl, hbel⟩ := hrel
    by_cases hlt : k < l.length
    · obtain ⟨b1, o1, rfl, hc1⟩ := hra.2.2.2 (by omega)
      obtain ⟨b2, o2, rfl, hc2⟩ := hrb.2.2.2 (by omega)
      have hcx : wr.cell? ⟨b1, o1 + k, none⟩ = some (.string (strB (atX l k))) := (hbel.cell (World.block_lt_of_cell? w _ (hc1 k hlt))).trans (hc1 k hlt)
      have hcy : wr.cell? ⟨b2, o2 + k, none⟩ = some (.string (strB (atX l k))) := (hbel.cell (World.block_lt_of_cell? w _ (hc2 k hlt))).trans (hc2 k hlt)
      have hlt' : (k : Int) < (l.length : Int) := by omega
      clear hc1 hc2 hra hrb
      go_wp2
      go_quiet (fail)
      go_wp2
      go_roundw
      case rel => exact ⟨k + 1, by omega, by go_num, below_drewN hbel _⟩
      case measure => simp [intOf]; omega
    · go_wp2
      go_ret
      exact ⟨rfl, hbel⟩

set_option maxRecDepth 4000 in
set_option maxHeartbeats 1000000 in
theorem markText_c (m : Nat) (w : World) (h0 : 0 < m) (hm : m < 10 ^ 12) :
    Calls Tryd.prog 49 #[.int .i64 (m : Int)] w fun e w' => e = .returned (.string (strB (markT m))) ∧ Below w.heap.size w w' := by
  have h0I : ¬ ((m : Int) ≤ 0) := by omega
  have hdl := dgt_len 12 m hm
  have HM : Hid (m < 1000000000000) := by show _; exact hm
  go_enter Tryd.func49, Tryd.ntmps49
  go_wp2
  go_loopw [0, 3] (fun i s wr => ∃ (n : Nat) (t : List UInt8), n ≤ m ∧ i = .int .i64 n ∧ s = .string (strB t) ∧ dgt n ++ t = dgt m ∧ Below w.heap.size w wr)
    (fun i _ _ => (intOf i).toNat)
  case atStart => exact ⟨m, [], Nat.le_refl _, rfl, rfl, by simp, Below.refl _ _⟩
  case round =>
    obtain ⟨n, t, hn, rfl, rfl, hd, BW⟩ := hrel
    have ht : t.length ≤ 12 := by have := congrArg List.length hd; rw [List.length_append] at this; omega
    by_cases hz : n = 0
    · subst hz
      rw [dgt_zero, List.nil_append] at hd
      subst hd
      have hs9 : ¬ 9223372036854775807 < 1 + (strB (dgt m)).size := by rw [strB_size]; omega
      have hE : Hid ((⟨#[109]⟩ : ByteArray) ++ strB (dgt m) = strB (markT m)) := by show _ = _; unfold strB markT; rw [ByteArray.mk_append_mk]; simp
      go_wp2_with fail
      go_ret
      exact ⟨by rw [← hE.out]; rfl, BW⟩
    · have hpos : (0 : Int) < (n : Int) := by omega
      rw [dgt_pos hz] at hd
      have HD : Hid (n % 10 < 10) := Nat.mod_lt _ (by decide)
      have es := str_digit (w := wr.alloc (.cells #[.int .u8 (48 + (n : Int) % 10)] 5)) (g := wr.heap.size) (d := 48 + n % 10) (by have := HD.out; omega) ((World.cell?_alloc_new _ _ _ _).trans (by simp))
      have ha := run_add (P := Tryd.prog) [UInt8.ofNat (48 + n % 10)] t (by simp; omega)
      have hd2 : Hid (dgt (n / 10) ++ ([UInt8.ofNat (48 + n % 10)] ++ t) = dgt m) := by show _ = _; rw [← List.append_assoc]; exact hd
      have B2 := Below.step BW (alloc_below wr (.cells #[.int .u8 (48 + (n : Int) % 10)] 5))
      generalize [UInt8.ofNat (48 + n % 10)] ++ t = T at *
      generalize strB [UInt8.ofNat (48 + n % 10)] = u at *
      clear BW hd ht
      go_wp2_with fail
      go_roundw
      case rel => exact ⟨n / 10, T, by omega, by go_num, rfl, hd2.out, B2⟩
      case measure => simp [intOf]; omega

set_option maxRecDepth 4000 in
set_option maxHeartbeats 1000000 in
theorem markStringS_c (B : Nat) (v : Value) (l : List (List UInt8)) (m : Nat) (w : World) (ho : OwnX w B v l) (h0 : 0 < m) (hm : m + l.length ≤ 10000000) :
    Calls Tryd.prog 33 #[v, .int .i64 m] w fun e w' => e = .returned (.int .i64 ((m : Int) + (l.length : Int))) ∧ OwnX w' B v (marksX m l.length) ∧ w.grownBy w' v.ownBlock := by
  obtain ⟨h1, h2⟩ := id ho
  rcases h2 with ⟨rfl, hn⟩ | ⟨g, cap, cur, rfl, hb, hg, hle, hcm, hs, ht⟩
  · have e : l = [] := List.length_eq_zero_iff.1 hn
    subst e
    go_enter Tryd.func33, Tryd.ntmps33
    go_wp2
    refine wp_loop_rounds 1 ?_
    rw [rounds_succ]
    go_wp2
    go_ret
    exact ⟨by simp, ho, World.grownBy.refl _ _⟩
  · clear h1 hb hg hs ht cur
    go_enter Tryd.func33, Tryd.ntmps33
    go_wp2
    go_loopw [1, 5] (fun q i wr => ∃ j : Nat, j ≤ l.length ∧ i = .int .i64 j ∧ q = .int .i64 ((m + j : Nat) : Int) ∧ OwnX wr B (.slice (some ⟨g, 0, none⟩) l.length cap) (markedX l m j) ∧ w.grownBy wr (some g))
      (fun _ i _ => l.length - (intOf i).toNat)
    case atStart => exact ⟨0, Nat.zero_le _, rfl, by simp, by rw [markedX_zero]; exact ho, World.grownBy.refl _ _⟩
    case round =>
      obtain ⟨j, hj, rfl, rfl, hown, hgr⟩ := hrel
      have hml := markedX_len l m j hj
      by_cases hlt : j < l.length
      · clear ho
        go_wp2_with fail
        refine (markText_c (m + j) _ (by omega) (Nat.lt_of_lt_of_le (show m + j < 10000001 by omega) (by decide))).mono ?_
        rintro e w2 ⟨rfl, hb⟩
        replace hgr := grownBy_trans hgr (below_grown hb _)
        replace hown := hown.stay hb
        unfold OwnX at hown
        rw [hml] at hown
        have hcy : w2.cell? ⟨g, j, none⟩ = some (.string (strB (atX (markedX l m j) j))) := by rw [World.ownsRow.cellAt hown j (by omega), txtV_at (by omega)]
        have hfy : w2.frozen? ⟨g, j, none⟩ = false := World.ownsRow.frozenAt hown j
        have R := World.ownsRow.stored hown j (.string (strB (markT (m + j))))
        rw [markedX_set l m j hlt] at R
        have hml2 := markedX_len l m (j + 1) hlt
        clear hown hml hb
        go_wp2
        go_roundw
        case rel => exact ⟨j + 1, by omega, by go_num, by go_num, by unfold OwnX; rw [hml2]; exact R.1, grownBy_trans hgr R.2⟩
        case measure => simp [intOf]; omega
      · have e : j = l.length := by omega
        subst e
        rw [markedX_all] at hown
        go_wp2
        go_ret
        exact ⟨by go_num, hown, hgr⟩

set_option maxRecDepth 4000 in
set_option maxHeartbeats 1000000 in
theorem heldStringS_c (a : Option Addr) (cap : Nat) (n m : Nat) (w : World) (hr : RdX w a cap (marksX m n)) (h0 : 0 < m) (hm : m + n ≤ 10000000) :
    Calls Tryd.prog 34 #[.slice a n cap, .int .i64 m] w fun e w' => e = .returned (.int .i64 ((m : Int) + (n : Int))) ∧ Below w.heap.size w w' := by
  unfold RdX at hr
  rw [marksX_len] at hr
  obtain ⟨h1, h2, h3, h4⟩ := hr
  unfold maxLen at h2
  go_enter Tryd.func34, Tryd.ntmps34
  go_wp2
  go_loopw [1, 5] (fun q i wr => ∃ j : Nat, j ≤ n ∧ i = .int .i64 j ∧ q = .int .i64 ((m + j : Nat) : Int) ∧ Below w.heap.size w wr)
    (fun _ i _ => n - (intOf i).toNat)
  case atStart => exact ⟨0, Nat.zero_le _, rfl, by simp, Below.refl _ _⟩
  case round =>
    obtain ⟨j, hj, rfl, rfl, BW⟩ := hrel
    by_cases hlt : j < n
    · obtain ⟨b, o, rfl, hc⟩ := h4 (by omega)
      have hcx : wr.cell? ⟨b, o + j, none⟩ = some (.string (strB (markT (m + j)))) := (BW.cell (World.block_lt_of_cell? w _ (hc j hlt))).trans ((hc j hlt).trans (by rw [atX_marks hlt]))
      have hjI : (j : Int) < (n : Int) := by omega
      clear hc h4
      go_wp2_with fail
      have hne := HW.some wr
      replace hcx := HW.at hcx
      refine wp_region_class rfl (by kernel_rfl) ?_
      repeat (go_big_quiet_step ((go_at_call 49; exact Calls.stay (markText_c (m + j) _ (by omega) (Nat.lt_of_lt_of_le (show m + j < 10000001 by omega) (by decide))))))
      refine wpQuiet_nil ?_
      intro w' hw'
      have BW2 := Below.step BW (HW.out hw')
      clear hcx hne hw' BW
      go_wp2_with fail
      go_roundw
      case rel => exact ⟨j + 1, by omega, by go_num, by go_num, BW2⟩
      case measure => simp [intOf]; omega
    · have e : j = n := by omega
      subst e
      go_wp2
      go_ret
      exact ⟨by go_num, BW⟩

set_option maxRecDepth 4000 in
set_option maxHeartbeats 1000000 in
theorem eqWords_c (c : Int) (a b : Option Addr) (ca cb : Nat) (l : List (List UInt8)) (w : World) (hra : RdX w a ca l) (hrb : RdX w b cb l) :
    Calls Tryd.prog 13 #[.agg #[.int .i64 c, .slice a l.length ca], .agg #[.int .i64 c, .slice b l.length cb]] w fun e w' => e = .returned (.bool true) ∧ Below w.heap.size w w' := by
  go_enter Tryd.func13, Tryd.ntmps13
  go_wp2_with fail
  refine (eqStringS_c _ _ _ _ l _ ?_ ?_).mono ?_
  · exact hra.keep (((Below.refl _ _).alloc (Nat.le_refl _) _).alloc (by simp) _)
  · exact hrb.keep (((Below.refl _ _).alloc (Nat.le_refl _) _).alloc (by simp) _)
  · rintro e w1 ⟨rfl, hb1⟩
    go_wp2
    go_ret
    exact ⟨rfl, Below.step (((Below.refl _ _).alloc (Nat.le_refl _) _).alloc (by simp) _) hb1⟩
set_option maxRecDepth 4000 in
set_option maxHeartbeats 1000000 in
theorem markWords_c (c : Int) (B : Nat) (v : Value) (l : List (List UInt8)) (w : World) (m : Nat) (ho : OwnX w B v l) (h0 : 0 < m) (hm : m + l.length ≤ 10000000) :
    Calls Tryd.prog 14 #[.agg #[.int .i64 c, v], .int .i64 m] w fun e w' => e = .returned (.int .i64 ((m : Int) + (l.length : Int))) ∧ OwnX w' B v (marksX m l.length) ∧ w.grownBy w' v.ownBlock := by
  go_enter Tryd.func14, Tryd.ntmps14
  go_wp2_with fail
  refine (markStringS_c B v l m _ (ho.stay ((Below.refl _ _).alloc (Nat.le_refl _) _)) h0 hm).mono ?_
  rintro e w1 ⟨rfl, ho1, hg1⟩
  go_wp2
  go_ret
  exact ⟨rfl, ho1, grownBy_trans (World.grownBy_alloc _ _ _) hg1⟩
set_option maxRecDepth 4000 in
set_option maxHeartbeats 1000000 in
theorem heldWords_c (c : Int) (a : Option Addr) (cap n m : Nat) (w : World) (hr : RdX w a cap (marksX m n)) (h0 : 0 < m) (hm : m + n ≤ 10000000) :
    Calls Tryd.prog 15 #[.agg #[.int .i64 c, .slice a n cap], .int .i64 m] w fun e w' => e = .returned (.int .i64 ((m : Int) + (n : Int))) ∧ Below w.heap.size w w' := by
  go_enter Tryd.func15, Tryd.ntmps15
  go_wp2_with fail
  refine (heldStringS_c a cap n m _ (hr.keep ((Below.refl _ _).alloc (Nat.le_refl _) _)) h0 hm).mono ?_
  rintro e w1 ⟨rfl, hb⟩
  have hne : ¬ ((m : Int) + (n : Int) < 0) := by omega
  go_wp2
  go_ret
  exact ⟨rfl, Below.step (alloc_below _ _) hb⟩
theorem OwnX.fr {w w' : World} {B : Nat} {v : Value} {l : List (List UInt8)} (h : OwnX w B v l) (hk : ∀ k, v.ownBlock = some k → w'.heap[k]? = w.heap[k]?) : OwnX w' B v l := ownsRow_fr h hk
theorem OwnX.ins {w : World} {B : Nat} {v : Value} {l : List (List UInt8)} (h : OwnX w B v l) : ∀ k, k ∈ v.ownBlock.toList → B ≤ k ∧ k < w.heap.size := fun k hk => World.ownsRow.lt h k (mem_opt.1 hk)
theorem OwnX.win {w : World} {B lo hi : Nat} {v : Value} {l : List (List UInt8)} (h : OwnX w B v l) (ht : hi ≤ w.heap.size) (hin : ∀ k, k ∈ v.ownBlock.toList → lo ≤ k ∧ k < hi) : Win (fun w => OwnX w B v l) lo hi w :=
  ⟨h, ht, fun _ hs => h.fr fun k hk => hs k (hin k (mem_opt.2 hk)).1 (hin k (mem_opt.2 hk)).2⟩
theorem eqWords2_c (c : Int) (B1 B2 : Nat) (a b : Option Addr) (ca cb : Nat) (l : List (List UInt8)) (w : World) (h1 : OwnX w B1 (.slice a l.length ca) l) (h2 : OwnX w B2 (.slice b l.length cb) l) :
    Calls Tryd.prog 13 #[.agg #[.int .i64 c, .slice a l.length ca], .agg #[.int .i64 c, .slice b l.length cb]] w fun e w' => e = .returned (.bool true) ∧ Below w.heap.size w w' :=
  eqWords_c c a b ca cb l w (RdX.own h1) (RdX.own h2)
theorem markWords1_c (c : Int) (B : Nat) (v : Value) (l : List (List UInt8)) (w : World) (ho : OwnX w B v l) (hm : l.length ≤ 1048577) :
    Calls Tryd.prog 14 #[.agg #[.int .i64 c, v], .int .i64 1] w fun e w' => e = .returned (.int .i64 (1 + (l.length : Int))) ∧ OwnX w' B v (marksX 1 l.length) ∧ w.grownBy w' v.ownBlock :=
  markWords_c c B v l w 1 ho (by decide) (by omega)
theorem heldWords1_c (c : Int) (B : Nat) (a : Option Addr) (cap n : Nat) (w : World) (ho : OwnX w B (.slice a n cap) (marksX 1 n)) (hm : n ≤ 1048577) :
    Calls Tryd.prog 15 #[.agg #[.int .i64 c, .slice a n cap], .int .i64 1] w fun e w' => e = .returned (.int .i64 (1 + (n : Int))) ∧ Below w.heap.size w w' :=
  heldWords_c c a cap n 1 w (RdX.own ho) (by decide) (by omega)
end Go.Proofs.YtgjmhlolbjmibaaDoor
