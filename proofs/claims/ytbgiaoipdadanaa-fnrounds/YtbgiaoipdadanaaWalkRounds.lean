/- The walk of FnRounds. -/
import Derived.Test.YtbgiaoipdadanaaDrawR
import Derived.Test.YtbgiaoipdadanaaMixR
import Derived.Test.YtbgiaoipdadanaaBig
import Derived.Test.YtbgiaoipdadanaaOdd
namespace Go.Proofs.Ytbgiaoipdadanaa
open Go.ChangeShapes Go.WideShapes Go.ChangeAt Go.RowKit

theorem ints_f0 (c : Int) (a : Option Addr) (n m : Nat) (w : World) : (Instr.field 44 (.agg #[.int .i64 c, .slice a n m]) 0).run Try.prog w = .ok (.int .i64 c) w := by kernel_rfl
theorem ints_f1 (c : Int) (a : Option Addr) (n m : Nat) (w : World) : (Instr.field 44 (.agg #[.int .i64 c, .slice a n m]) 1).run Try.prog w = .ok (.slice a n m) w := by kernel_rfl

/-- A round's six numbers that are moved on; the first and the fifth hang on the sum of word and key alone. -/
theorem mix_swap (s : S8) (x y : Nat) : roundN s x y = roundN s y x := by
  have e : t1N s x y = t1N s y x := by unfold t1N; congr 1; omega
  simp only [roundN, e]
theorem mixCode_zero {l : List Int} {x y : Int} (h : mixCode l x y = 0) : l.length = 8 ∧ mixOk l x y = true := by
  unfold mixCode at h
  split at h
  · rename_i h8
    refine ⟨h8, ?_⟩
    split at h
    · assumption
    · simp at h
  · simp at h
theorem mixList_form {l : List Int} {x y : Int} (h8 : l.length = 8) (hok : mixOk l x y = true) :
    mixCode l y x = 0 ∧ ∃ a b : Int, mixList l x y = [a, atI l 0, atI l 1, atI l 2, b, atI l 4, atI l 5, atI l 6] ∧ mixList l y x = [a, atI l 0, atI l 1, atI l 2, b, atI l 4, atI l 5, atI l 6] := by
  have hok2 : mixOk l y x = true := by simp only [mixOk, Bool.and_eq_true] at hok ⊢; exact ⟨⟨hok.1.1, hok.2⟩, hok.1.2⟩
  have hall : l.all isW = true := by simp only [mixOk, Bool.and_eq_true] at hok; exact hok.1.1
  have e : ∀ i, Int.ofNat (atI l i).toNat = atI l i := fun i => Int.toNat_of_nonneg (isW_at hall i).1
  refine ⟨by simp [mixCode, h8, hok2], Int.ofNat (roundN (s8 l) x.toNat y.toNat).a, Int.ofNat (roundN (s8 l) x.toNat y.toNat).e, ?_, ?_⟩
  · rw [mixList, if_pos h8, if_pos hok, ← e 0, ← e 1, ← e 2, ← e 4, ← e 5, ← e 6]
    rfl
  · rw [mixList, if_pos h8, if_pos hok2, mix_swap, ← e 0, ← e 1, ← e 2, ← e 4, ← e 5, ← e 6]
    rfl
/-- What can be read of eight numbers, cell by cell. -/
theorem rdI_cells {w : World} {p : Option Addr} {q : Nat} {l : List Int} (h : RdI w p q l) (hp : 0 < l.length) : ∃ b o, p = some ⟨b, o, none⟩ ∧ ∀ w', Below w.heap.size w w' → ∀ i, i < l.length → w'.cell? ⟨b, o + i, none⟩ = some (.int .i64 (atI l i)) := by
  obtain ⟨b, o, rfl, hc⟩ := h.2.2.2 hp
  exact ⟨b, o, rfl, fun w' hb i hi => cell_keep (hc i hi) hb⟩

set_option maxHeartbeats 4000000 in
theorem fnRounds_walk (a : Option Addr) (cap : Nat) (bs0 : List UInt8) (w : World) (r0 : Rd w a cap bs0) :
    Calls Try.prog 5 #[.slice a bs0.length cap] w fun e w' => e = .returned (.bool true) ∧ Below w.heap.size w w' := by
  by_cases hl0 : 1048576 < bs0.length
  · go_enter Try.func5, Try.ntmps5
    go_wp2_with fail
    refine (lwBig_yes _ _ _ _ hl0).mono ?_
    rintro e w1 ⟨rfl, rfl⟩
    go_wp2
    go_ret
    exact ⟨rfl, Below.refl _ _⟩
  replace hl0 : bs0.length ≤ 1048576 := by omega
  go_enter Try.func5, Try.ntmps5
  go_wp2_with fail
  refine (lwBig_no _ _ _ _ hl0).mono ?_
  rintro e w1 ⟨rfl, hw1⟩
  rw [hw1]
  clear hw1 w1
  go_wp2_with fail
  refine (drawMix_c _ _ bs0 _ r0).mono ?_
  rintro e w2 ⟨u, l, x, y, rfl, ks, BW⟩
  obtain ⟨p, q, rfl, rs⟩ := ks.rd
  clear r0
  go_wp2_with fail
  refine (implMix_c p q l x y _ rs).mono ?_
  rintro e w3 ⟨u3, rfl, k3, hb3⟩
  obtain ⟨p3, q3, rfl, r3⟩ := k3.rd
  replace rs := rs.keep hb3
  replace BW := Below.step BW hb3
  clear hb3 k3 ks
  have hf0 := ints_f0
  have hf1 := ints_f1
  by_cases hc : mixCode l x y = 0
  · obtain ⟨h8, hok⟩ := mixCode_zero hc
    obtain ⟨hc2, A, B, e1, e2⟩ := mixList_form h8 hok
    rw [hc, e1]
    rw [e1] at r3
    obtain ⟨b, o, rfl, cs⟩ := rdI_cells rs (by omega)
    obtain ⟨b3, o3, rfl, c3⟩ := rdI_cells r3 (by simp)
    have HL : Hid (l.length = 8) := h8
    have HC : Hid (mixCode l y x = 0 ∧ mixCode l x y = 0 ∧ mixList l x y = [A, atI l 0, atI l 1, atI l 2, B, atI l 4, atI l 5, atI l 6] ∧ mixList l y x = [A, atI l 0, atI l 1, atI l 2, B, atI l 4, atI l 5, atI l 6]) := ⟨hc2, hc, e1, e2⟩
    have hq3 : 8 ≤ q3 := r3.1
    have hlc : (8 : Int) ≤ (l.length : Int) := by omega
    clear hc2 hc e1 e2 h8 hok r3
    go_wp2_with fail
    refine (implMix_c _ q l y x _ (rs.keep (alloc_below _ _))).mono ?_
    rintro e w4 ⟨u4, rfl, k4, hb4⟩
    have sR := Has.new hb4
    replace hb4 := Below.res hb4
    rw [HC.out.1]
    rw [HC.out.2.2.2] at k4
    obtain ⟨p4, q4, rfl, r4⟩ := k4.rd
    obtain ⟨b4, o4, rfl, c4⟩ := rdI_cells r4 (by simp)
    have hB4 := Below.step BW hb4
    have n4 := alloc_below w4 (Obj.cells #[Value.int IntKind.i64 0, Value.slice (some ⟨b4, o4, none⟩) 8 q4] 44)
    have hB5 := Below.step hb4 n4
    have sR1 := sR 1 _ rfl
    have t1 := cell_keep sR1 n4
    have v0 := c3 _ hB5 0 (by simp)
    have v1 := c3 _ hB5 1 (by simp)
    have v2 := c3 _ hB5 2 (by simp)
    have v3 := c3 _ hB5 3 (by simp)
    have v4 := c3 _ hB5 4 (by simp)
    have v5 := c3 _ hB5 5 (by simp)
    have v6 := c3 _ hB5 6 (by simp)
    have v7 := c3 _ hB5 7 (by simp)
    have s0 := cs _ hB5 0 (by have := HL.out; omega)
    have s1 := cs _ hB5 1 (by have := HL.out; omega)
    have s2 := cs _ hB5 2 (by have := HL.out; omega)
    have s4 := cs _ hB5 4 (by have := HL.out; omega)
    have s5 := cs _ hB5 5 (by have := HL.out; omega)
    have s6 := cs _ hB5 6 (by have := HL.out; omega)
    have x0 := c4 _ n4 0 (by simp)
    have x4 := c4 _ n4 4 (by simp)
    have q4' : 8 ≤ q4 := r4.1
    have rs5 := rs.keep hB5
    simp only [atI, List.getD_cons_zero, List.getD_cons_succ, Nat.add_zero] at v0 v1 v2 v3 v4 v5 v6 v7 x0 x4 s0 s1 s2 s4 s5 s6
    have y1 : (w4.alloc (Obj.cells #[Value.int IntKind.i64 0, Value.slice (some ⟨b4, o4, none⟩) 8 q4] 44)).cell? ⟨w4.heap.size, 1, none⟩ = some (.slice (some ⟨b4, o4, none⟩) 8 q4) := World.cell?_alloc_new _ _ _ _
    have BW5 := Below.step BW hB5
    clear cs c3 c4 sR rs sR1 k4 r4
    go_wp2_with fail
    simp only [List.append_eq, List.cons_append, List.nil_append]
    generalize w4.alloc (Obj.cells #[Value.int IntKind.i64 0, Value.slice (some ⟨b4, o4, none⟩) 8 q4] 44) = W at *
    replace t1 := HW.at t1
    replace y1 := HW.at y1
    replace v0 := HW.at v0
    replace v1 := HW.at v1
    replace v2 := HW.at v2
    replace v3 := HW.at v3
    replace v4 := HW.at v4
    replace v5 := HW.at v5
    replace v6 := HW.at v6
    replace v7 := HW.at v7
    replace s0 := HW.at s0
    replace s1 := HW.at s1
    replace s2 := HW.at s2
    replace s4 := HW.at s4
    replace s5 := HW.at s5
    replace s6 := HW.at s6
    replace x0 := HW.at x0
    replace x4 := HW.at x4
    have hne := HW.some W
    clear n4 hB5 hb4 hB4
    refine wp_region_odd_seg 94 7 rfl (by kernel_rfl) (by kernel_rfl) (by kernel_rfl) (by kernel_rfl) ?_
    simp only [List.take_succ_cons, List.take_zero]
    repeat (go_big_quiet_step (fail))
    refine wpQuiet_nil ?_
    refine wpG_call (k := 94) rfl (by kernel_rfl) (by kernel_rfl) (by go_simp) 25 _ #[.slice (some ⟨b, o, none⟩) l.length q, .int .i64 x, .int .i64 y] (fun w => by go_simp) rfl ?_
    rintro _ ⟨s', rfl⟩
    refine (specMix_c _ q l x y _ (rs5.keep s'.h)).mono ?_
    rintro e w7 ⟨u7, rfl, k7, hb7⟩
    rw [HC.out.2.1]
    rw [HC.out.2.2.1] at k7
    obtain ⟨p7, q7, rfl, r7⟩ := k7.rd
    obtain ⟨b7, o7, rfl, c7⟩ := rdI_cells r7 (by simp)
    have hq7 : 8 ≤ q7 := r7.1
    have z0 := c7 w7 (Below.refl _ _) 0 (by simp)
    simp only [atI, List.getD_cons_zero, Nat.add_zero] at z0
    have g7 := HW.at z0
    have hne7 := HW.some w7
    have BW7 := Below.step (Below.step BW5 s'.h) hb7
    refine ⟨_, rfl, ⟨⟨w7, hb7⟩, rfl⟩, ?_⟩
    clear z0 c7 r7 k7 hb7 t1 y1 v0 v1 v2 v3 v4 v5 v6 v7 s0 s1 s2 s4 s5 s6 x0 x4 hne rs5
    refine wpG_next 95 6 0 (by decide) (by kernel_rfl) (by kernel_rfl) (by kernel_rfl) ?_
    simp only [List.drop_succ_cons, List.drop_zero, List.take_succ_cons, List.take_zero]
    go_simp
    repeat (go_big_quiet_step (fail))
    refine wpQuiet_nil ?_
    refine wpG_end rfl ?_
    rintro _ ⟨s8, rfl⟩
    go_wp2
    go_ret
    exact ⟨rfl, Below.step BW7 s8.h⟩
  · have HB : Hid (∀ w', RdI w' p q l → Calls Try.prog 25 #[.slice p l.length q, .int .i64 x, .int .i64 y] w' fun e w'' => e = .returned (.agg #[.int .i64 (mixCode l x y), .slice none 0 0]) ∧ Below w'.heap.size w' w'') :=
      fun w' h => (specMix_s p q l x y w' h).mono fun _ _ ⟨u, h1, h2, h3, h4⟩ => ⟨by rw [h1, h4 hc], h3⟩
    have L1 := alloc_below w3 (Obj.cells #[Value.int IntKind.i64 (mixCode l x y), Value.slice p3 (mixList l x y).length q3] 44)
    generalize mixCode l x y = c at *
    have cz0 : (c == 0) = false := by rw [beq_eq_false_iff_ne]; exact hc
    have cz1 : (c != 0) = true := by rw [bne_iff_ne]; exact hc
    clear hc r3
    go_wp2
    have d0 : (w3.alloc (Obj.cells #[Value.int IntKind.i64 c, Value.slice p3 (mixList l x y).length q3] 44)).cell? ⟨w3.heap.size, 0, none⟩ = some (.int .i64 c) := World.cell?_alloc_new _ _ _ _
    replace rs := rs.keep L1
    replace BW := Below.step BW L1
    clear L1
    generalize w3.alloc (Obj.cells #[Value.int IntKind.i64 c, Value.slice p3 (mixList l x y).length q3] 44) = W at *
    have g0 := HW.at d0
    have hne := HW.some W
    refine wp_region_class (by kernel_rfl) (by kernel_rfl) ?_
    clear d0
    repeat (go_big_quiet_step ((go_at_call 25; exact Calls.stay (HB.out _ (rs.keep (HW.h _))))))
    refine wpQuiet_nil ?_
    intro w5 hw5
    have hs5 := HW.out hw5
    go_wp2
    go_ret
    exact ⟨rfl, Below.step BW hs5⟩
end Go.Proofs.Ytbgiaoipdadanaa
