/- The decimal digits of a number in the specification (l1Digits). What was there stays. -/
import Derived.Test.YtgjmhlolbjmibaaDoorTxt
import Derived.Test.YtgjmhlolbjmibaaDoorClass
import Derived.Test.YtgjmhlolbjmibaaDoorPick
import Derived.Test.YtgjmhlolbjmibaaDoorHexSpec
import Derived.Lib.ItoaNum
namespace Go.Proofs.YtgjmhlolbjmibaaDoor
open Go.ChangeShapes Go.WideShapes Go.ChangeAt Go.RowKit

/-- A number's digits: in decimal. -/
def decL (n : Nat) : List UInt8 := Go.Lib.decDigits n
theorem decL_small {n : Nat} (h : n < 10) : decL n = [UInt8.ofNat (48 + n)] := Go.Lib.decDigits_one h
theorem decL_great {n : Nat} (h : ¬ n < 10) : decL n = decL (n / 10) ++ [UInt8.ofNat (48 + n % 10)] := by unfold decL; rw [Go.Lib.decDigits, dif_neg h]
theorem decL_len : ∀ k n : Nat, n < 10 ^ (k + 1) → (decL n).length ≤ k + 1 := by
  intro k
  induction k with
  | zero => intro n h; rw [decL_small (by omega)]; simp
  | succ k ih =>
    intro n h
    by_cases hn : n < 10
    · rw [decL_small hn]; simp
    · rw [decL_great hn, List.length_append]
      have := ih (n / 10) (by rw [Nat.pow_succ] at h; omega)
      simp; omega
theorem rd_digit {w : World} {g : Nat} {d : Nat} (hd : d < 256) (h : w.cell? ⟨g, 0, none⟩ = some (.int .u8 (d : Int))) : Rd w (some ⟨g, 0, none⟩) 1 [UInt8.ofNat d] := by
  refine ⟨Nat.le_refl _, by unfold maxLen; decide, fun e => by simp at e, fun _ => ⟨g, 0, rfl, fun i hi => ?_⟩⟩
  have e : i = 0 := by simpa using hi
  subst e
  rw [h]
  simp [at8, Nat.mod_eq_of_lt hd]
theorem str_digit {w : World} {g : Nat} {d : Nat} (hd : d < 256) (h : w.cell? ⟨g, 0, none⟩ = some (.int .u8 (d : Int))) :
    (convert 22 9 (.slice (some ⟨g, 0, none⟩) 1 1)).run Tryd.prog w = .ok (.string (strB [UInt8.ofNat d])) w :=
  run_str (P := Tryd.prog) (rd_digit hd h) (src := 22) (dst := 9) (e := 5) Tryd.underlying22 Tryd.underlying5 Tryd.underlying9

set_option maxRecDepth 4000 in
set_option maxHeartbeats 1000000 in
theorem l1Digits_c : ∀ (k n : Nat) (w : World), n < 10 ^ (k + 1) → k ≤ 8 →
    Calls Tryd.prog 35 #[.int .i64 (n : Int)] w fun e w' => e = .returned (.string (strB (decL n))) ∧ Below w.heap.size w w' := by
  intro k
  induction k with
  | zero =>
    intro n w h hk
    have hn : n < 10 := by simpa using h
    rw [decL_small hn]
    have h10 : (n : Int) < 10 := by omega
    have es := str_digit (w := w.alloc (.cells #[.int .u8 (48 + (n : Int))] 5)) (g := w.heap.size) (d := 48 + n) (by omega) ((World.cell?_alloc_new _ _ _ _).trans (by simp))
    generalize strB [UInt8.ofNat (48 + n)] = t at *
    go_enter Tryd.func35, Tryd.ntmps35
    go_wp2
    go_ret
    exact ⟨rfl, alloc_below _ _⟩
  | succ k ih =>
    intro n w h hk
    by_cases hn : n < 10
    · exact ih n w (Nat.lt_of_lt_of_le hn (by rw [Nat.pow_succ]; have := Nat.pow_pos (n := k) (show 0 < 10 by decide); omega)) (by omega)
    · have h10 : ¬ (n : Int) < 10 := by omega
      have HN : Hid (n < 1000000000) := Nat.lt_of_lt_of_le h (Nat.pow_le_pow_right (n := 10) (by decide) (show k + 1 + 1 ≤ 9 by omega))
      have hq := fun w => ih (n / 10) w (by rw [Nat.pow_succ] at h; omega) (by omega)
      have hl := decL_len k (n / 10) (by rw [Nat.pow_succ] at h; omega)
      rw [decL_great hn]
      have ha := run_add (P := Tryd.prog) (decL (n / 10)) [UInt8.ofNat (48 + n % 10)] (by simp; omega)
      have HD : Hid (n % 10 < 10) := Nat.mod_lt _ (by decide)
      have e1 : Hid (wrap64 ((n : Int) / 10) = ((n / 10 : Nat) : Int)) := by show _ = _; have := HN.out; unfold wrap64; omega
      have es : Hid (∀ (W : World) (g : Nat), W.cell? ⟨g, 0, none⟩ = some (.int .u8 (48 + (n : Int) % 10)) → (convert 22 9 (.slice (some ⟨g, 0, none⟩) 1 1)).run Tryd.prog W = .ok (.string (strB [UInt8.ofNat (48 + n % 10)])) W) := fun W g hc => str_digit (by omega) (hc.trans (by simp))
      generalize hT : decL (n / 10) ++ [UInt8.ofNat (48 + n % 10)] = T at *
      go_enter Tryd.func35, Tryd.ntmps35
      go_wp2_with fail
      have hne := HW.some w
      refine wp_region_pick [0, 1, 3, 4, 5, 6] 9 3 2 rfl rfl rfl (by kernel_rfl) (by kernel_rfl) (by kernel_rfl) (by kernel_rfl) ?_
      simp only [opsAt, List.getElem?_toArray, List.getElem?_cons_zero, List.getElem?_cons_succ]
      repeat (go_big_quiet_step (fail))
      refine wpQuiet_nil ?_
      generalize hu : strB [UInt8.ofNat (48 + n % 10)] = u at *
      clear hu
      refine wpM_two (i := 2) (j := 7) (by kernel_rfl) ?_ ?_
      · refine mOp_call rfl (by go_simp) 35 _ #[.int .i64 (wrap64 ((n : Int) / 10))] (fun w => by go_simp) rfl ?_
        rintro _ ⟨s1, rfl⟩
        rw [e1.out]
        refine (hq s1.w).mono ?_
        rintro e w1 ⟨rfl, hb1⟩
        refine ⟨_, rfl, ⟨⟨_, hb1⟩, rfl⟩, ?_⟩
        replace hne := HW.some w1
        refine wpM_only (i := 7) (by kernel_rfl) ?_
        refine mOp_make rfl (by go_simp) ?_
        rintro _ ⟨s2, rfl⟩
        refine ⟨.slice (some ⟨s2.w.heap.size, 0, none⟩) 1 1, s2.w.alloc (.cells #[.int .u8 (48 + (n : Int) % 10)] 5), by go_simp, ⟨⟨_, alloc_below _ _⟩, rfl⟩, ?_⟩
        have BW := Below.step (Below.step (Below.step s1.h hb1) s2.h) (alloc_below s2.w (.cells #[.int .u8 (48 + (n : Int) % 10)] 5))
        have hc : (s2.w.alloc (.cells #[.int .u8 (48 + (n : Int) % 10)] 5)).cell? ⟨s2.w.heap.size, 0, none⟩ = some (.int .u8 (48 + (n : Int) % 10)) := (World.cell?_alloc_new _ _ _ _).trans (by simp)
        generalize s2.w.heap.size = g at *
        generalize s2.w.alloc (.cells #[.int .u8 (48 + (n : Int) % 10)] 5) = w2 at *
        have ez := fun s : HW w2 => es.out s.w g (HW.at hc s)
        replace hne := HW.some w2
        refine wpM_more [8] 1 0 rfl (by kernel_rfl) (by kernel_rfl) (by kernel_rfl) (by kernel_rfl) ?_
        simp only [opsAt, List.getElem?_toArray, List.getElem?_cons_zero, List.getElem?_cons_succ]
        go_simp
        repeat (go_big_quiet_step (fail))
        refine wpQuiet_nil ?_
        refine wpM_end (by kernel_rfl) rfl (by kernel_rfl) (by decide) ?_
        rintro _ ⟨sz, rfl⟩
        replace BW := Below.step BW sz.h
        simp only [List.drop_succ_cons, List.drop_zero]
        clear hc ez hne
        generalize sz.w = w9 at *
        clear sz
        go_wp2
        go_ret
        exact ⟨rfl, BW⟩
      · refine mOp_make rfl (by go_simp) ?_
        rintro _ ⟨s2, rfl⟩
        refine ⟨.slice (some ⟨s2.w.heap.size, 0, none⟩) 1 1, s2.w.alloc (.cells #[.int .u8 (48 + (n : Int) % 10)] 5), by go_simp, ⟨⟨_, alloc_below _ _⟩, rfl⟩, ?_⟩
        have BW := Below.step s2.h (alloc_below s2.w (.cells #[.int .u8 (48 + (n : Int) % 10)] 5))
        have hc : (s2.w.alloc (.cells #[.int .u8 (48 + (n : Int) % 10)] 5)).cell? ⟨s2.w.heap.size, 0, none⟩ = some (.int .u8 (48 + (n : Int) % 10)) := (World.cell?_alloc_new _ _ _ _).trans (by simp)
        generalize s2.w.heap.size = g at *
        generalize s2.w.alloc (.cells #[.int .u8 (48 + (n : Int) % 10)] 5) = w2 at *
        have ez := fun s : HW w2 => es.out s.w g (HW.at hc s)
        replace hne := HW.some w2
        refine wpM_more [8] 2 1 rfl (by kernel_rfl) (by kernel_rfl) (by kernel_rfl) (by kernel_rfl) ?_
        simp only [opsAt, List.getElem?_toArray, List.getElem?_cons_zero, List.getElem?_cons_succ]
        go_simp
        repeat (go_big_quiet_step (fail))
        refine wpQuiet_nil ?_
        refine wpM_only (i := 2) (by kernel_rfl) ?_
        refine mOp_call rfl (by go_simp) 35 _ #[.int .i64 (wrap64 ((n : Int) / 10))] (fun w => by go_simp) rfl ?_
        rintro _ ⟨s1, rfl⟩
        rw [e1.out]
        refine (hq s1.w).mono ?_
        rintro e w1 ⟨rfl, hb1⟩
        refine ⟨_, rfl, ⟨⟨_, hb1⟩, rfl⟩, ?_⟩
        replace BW := Below.step (Below.step BW s1.h) hb1
        refine wpM_end (by kernel_rfl) rfl (by kernel_rfl) (by decide) ?_
        rintro _ ⟨sz, rfl⟩
        replace BW := Below.step BW sz.h
        simp only [List.drop_succ_cons, List.drop_zero]
        clear hc ez hne
        generalize sz.w = w9 at *
        clear sz
        go_wp2
        go_ret
        exact ⟨rfl, BW⟩
end Go.Proofs.YtgjmhlolbjmibaaDoor
