/- The contract of readHex, the program's machine of two states. -/
import Derived.Test.YtgdbbadmfddfbaaDigits
import Derived.Test.YtgdbbadmfddfbaaJumps
import Derived.Test.YtgdbbadmfddfbaaCopy
import Derived.Deep.AppendLies
namespace Go.Proofs.Ytgdbbadmfddfbaa
open Go.ChangeShapes Go.WideShapes Go.ChangeAt Go.RowKit

def jr (l : List UInt8) (w : World) : Nat → Act → World → Prop := fun n a' w' =>
    (n = 0 ∧ ∃ (k : Nat) (v u5 u6 u7 u9 u10 u11 u12 u13 u14 u15 u16 u17 u18 u19 u20 u21 u22 u23 u24 u25 u26 u27 u28 u29 u30 u31 u32 u33 u34 u35 u36 u37 u38 u39 u40 u41 u42 u43 u44 u45 u46 u47 u48 : Value), a' = { tmps := #[.string (strB l), undef, .slice none 0 0, .bool false, v, u5, u6, u7, .int .i64 (2 * (k : Int)), u9, u10, u11, u12, u13, u14, u15, u16, u17, u18, u19, u20, u21, u22, u23, u24, u25, u26, u27, u28, u29, u30, u31, u32, u33, u34, u35, u36, u37, u38, u39, u40, u41, u42, u43, u44, u45, u46, u47, u48], defers := [] } ∧ 2 * k ≤ l.length ∧ allOk l k = true ∧ Own w' w.heap.size v (outTo l k) ∧ Below w.heap.size w w') ∨
    (n = 1 ∧ ∃ (k : Nat) (v u6 u7 u9 u10 u11 u12 u13 u14 u15 u16 u17 u18 u19 u20 u21 u22 u23 u24 u25 u26 u27 u28 u29 u30 u31 u32 u33 u34 u35 u36 u37 u38 u39 u40 u41 u42 u43 u44 u45 u46 u47 u48 : Value), a' = { tmps := #[.string (strB l), undef, .slice none 0 0, .bool false, v, .int .u8 (dv (at8 l (2 * k))), u6, u7, .int .i64 (2 * (k : Int) + 1), u9, u10, u11, u12, u13, u14, u15, u16, u17, u18, u19, u20, u21, u22, u23, u24, u25, u26, u27, u28, u29, u30, u31, u32, u33, u34, u35, u36, u37, u38, u39, u40, u41, u42, u43, u44, u45, u46, u47, u48], defers := [] } ∧ 2 * k + 1 ≤ l.length ∧ 0 ≤ dv (at8 l (2 * k)) ∧ allOk l k = true ∧ Own w' w.heap.size v (outTo l k) ∧ Below w.heap.size w w')
def mr (l : List UInt8) : Nat → Act → World → Nat := fun _ a' _ => l.length - (intOf (a'.tmps.getD 8 undef)).toNat

set_option maxHeartbeats 2000000 in
theorem readHex_c (l : List UInt8) (w : World) (hl : l.length ≤ 1200) :
    Calls Try.prog 33 #[.string (strB l)] w fun e w' => ∃ u, e = .returned (.tuple #[u, .bool (bohOk l)]) ∧ Own w' w.heap.size u (bohBytes l) ∧ Below w.heap.size w w' := by
  obtain ⟨i0, hi, hz0, hz1, hz2⟩ := info_parts info8
  have hm : l.length / 2 ≤ maxLen := by unfold maxLen; omega
  have hss := strB_size l
  go_enter Try.func33, Try.ntmps33
  go_wp2
  refine wp_scope_many (jr l w) (mr l) ?_ ?_
  · go_wp2_with (first
      | (at_make; refine wpList_make_own _ rfl (.const (.int .i64 0)) (.tmp 11) 22 rfl w.heap.size 5 i0 (.int .u8 0) 1 Try.underlying22 hi hz0 hz1 .i64 .i64 _ (l.length / 2) rfl rfl (by simp) (by rw [hz2]; omega) hm (Nat.le_refl _) ?_; intro w1 hown hgrow)
      | go_in)
    have hbel : Below w.heap.size w w1 := (Below.refl _ _).grown hgrow (Nat.le_refl _) (fun k hk => by simp at hk)
    obtain ⟨k, hk0⟩ : ∃ k : Nat, k = 0 := ⟨0, rfl⟩
    have ho : Own w1 w.heap.size (.slice (some ⟨w.heap.size, 0, none⟩) 0 (l.length / 2)) (outTo l k) := by subst hk0; exact hown
    have hall : allOk l k = true := by subst hk0; rfl
    have hk : 2 * k ≤ l.length := by omega
    rw [show (Value.int IntKind.i64 0) = Value.int IntKind.i64 (2 * (k : Int)) by subst hk0; rfl]
    generalize (Value.slice (some ⟨w.heap.size, 0, none⟩) 0 (l.length / 2)) = v at *
    clear hown hgrow hk0
    go_step3
    by_cases hend : 2 * k = l.length
    · have hq : (2 * (k : Int) == (l.length : Int)) = true := by rw [beq_iff_eq]; omega
      obtain ⟨b1, b2⟩ := bohOk_all hl hend hall
      have B1 : Hid (bohOk l = true) := b1
      have B2 : Hid (bohBytes l = outTo l k) := b2
      clear b1 b2 hend
      go_wp2
      simp only [exitJumps]
      go_ret2
      exact ⟨v, by rw [B1.out]; rfl, by rw [B2.out]; exact ho, hbel⟩
    · have hq : (2 * (k : Int) == (l.length : Int)) = false := by rw [beq_eq_false_iff_ne]; omega
      have hlt : 2 * (k : Int) < (l.length : Int) := by omega
      have hat := strB_at l (2 * k)
      have h0 := at8_lo l (2 * k)
      have h1 := at8_hi l (2 * k)
      by_cases hd : 0 ≤ dv (at8 l (2 * k))
      · go_wp2_with fail
        refine (digitValue_yes _ _ h0 h1 hd).mono ?_
        rintro e w2 ⟨rfl, rfl⟩
        go_wp2
        go_step3
        exact .inr ⟨rfl, k, v, _, _, _, _, _, _, _, _, _, _, _, _, _, _, _, _, _, _, _, _, _, _, _, _, _, _, _, _, _, _, _, _, _, _, _, _, _, _, _, _, _, _, rfl, by omega, hd, hall, ho, hbel⟩
      · have b0 : bohOk l = false ∧ bohBytes l = [] := by
          by_cases hodd : 2 * k + 1 < l.length
          · exact bohOk_bad hodd (okB_no1 hd)
          · exact bohOk_odd (by omega)
        have B1 : Hid (bohOk l = false) := b0.1
        have B2 : Hid (bohBytes l = []) := b0.2
        clear b0
        go_wp2_with fail
        refine (digitValue_no _ _ h0 h1 (by omega)).mono ?_
        rintro e w2 ⟨rfl, rfl⟩
        go_wp2
        simp only [exitJumps]
        go_ret2
        exact ⟨_, by rw [B1.out]; rfl, by rw [B2.out]; exact World.ownsRow_nil _ _ _ _, hbel⟩
  · rintro n a' w' (⟨rfl, k, v, u5, u6, u7, u9, u10, u11, u12, u13, u14, u15, u16, u17, u18, u19, u20, u21, u22, u23, u24, u25, u26, u27, u28, u29, u30, u31, u32, u33, u34, u35, u36, u37, u38, u39, u40, u41, u42, u43, u44, u45, u46, u47, u48, rfl, hk, hall, ho, hbel⟩ | ⟨rfl, k, v, u6, u7, u9, u10, u11, u12, u13, u14, u15, u16, u17, u18, u19, u20, u21, u22, u23, u24, u25, u26, u27, u28, u29, u30, u31, u32, u33, u34, u35, u36, u37, u38, u39, u40, u41, u42, u43, u44, u45, u46, u47, u48, rfl, hk, hd, hall, ho, hbel⟩)
    · refine ⟨_, by rfl, ?_⟩
      by_cases hend : 2 * k = l.length
      · have hq : (2 * (k : Int) == (l.length : Int)) = true := by rw [beq_iff_eq]; omega
        obtain ⟨b1, b2⟩ := bohOk_all hl hend hall
        have B1 : Hid (bohOk l = true) := b1
        have B2 : Hid (bohBytes l = outTo l k) := b2
        clear b1 b2 hend
        go_wp2
        simp only [exitJumps]
        go_ret2
        exact ⟨v, by rw [B1.out]; rfl, by rw [B2.out]; exact ho, hbel⟩
      · have hq : (2 * (k : Int) == (l.length : Int)) = false := by rw [beq_eq_false_iff_ne]; omega
        have hlt : 2 * (k : Int) < (l.length : Int) := by omega
        have hat := strB_at l (2 * k)
        have h0 := at8_lo l (2 * k)
        have h1 := at8_hi l (2 * k)
        by_cases hd : 0 ≤ dv (at8 l (2 * k))
        · go_wp2_with fail
          refine (digitValue_yes _ _ h0 h1 hd).mono ?_
          rintro e w2 ⟨rfl, rfl⟩
          go_wp2
          go_step3
          refine And.intro (a := jr l w 1 _ _) ?_ ?_
          · exact .inr ⟨rfl, k, v, _, _, _, _, _, _, _, _, _, _, _, _, _, _, _, _, _, _, _, _, _, _, _, _, _, _, _, _, _, _, _, _, _, _, _, _, _, _, _, _, _, _, rfl, by omega, hd, hall, ho, hbel⟩
          · simp [mr, intOf]; omega
        · have b0 : bohOk l = false ∧ bohBytes l = [] := by
            by_cases hodd : 2 * k + 1 < l.length
            · exact bohOk_bad hodd (okB_no1 hd)
            · exact bohOk_odd (by omega)
          have B1 : Hid (bohOk l = false) := b0.1
          have B2 : Hid (bohBytes l = []) := b0.2
          clear b0
          go_wp2_with fail
          refine (digitValue_no _ _ h0 h1 (by omega)).mono ?_
          rintro e w2 ⟨rfl, rfl⟩
          go_wp2
          simp only [exitJumps]
          go_ret2
          exact ⟨_, by rw [B1.out]; rfl, by rw [B2.out]; exact World.ownsRow_nil _ _ _ _, hbel⟩
    · refine ⟨_, by rfl, ?_⟩
      by_cases hend : 2 * k + 1 = l.length
      · have hq : (2 * (k : Int) + 1 == (l.length : Int)) = true := by rw [beq_iff_eq]; omega
        have b0 := bohOk_odd (l := l) (by omega)
        have B1 : Hid (bohOk l = false) := b0.1
        have B2 : Hid (bohBytes l = []) := b0.2
        clear b0 hend
        go_wp2
        simp only [exitJumps]
        go_ret2
        exact ⟨_, by rw [B1.out]; rfl, by rw [B2.out]; exact World.ownsRow_nil _ _ _ _, hbel⟩
      · have hq : (2 * (k : Int) + 1 == (l.length : Int)) = false := by rw [beq_eq_false_iff_ne]; omega
        have hlt : 2 * (k : Int) + 1 < (l.length : Int) := by omega
        have hnat : (2 * (k : Int) + 1).toNat = 2 * k + 1 := by omega
        have hat := strB_at l (2 * k + 1)
        have h0 := at8_lo l (2 * k + 1)
        have h1 := at8_hi l (2 * k + 1)
        by_cases hd2 : 0 ≤ dv (at8 l (2 * k + 1))
        · have HB : Hid (((byteAt l k).toNat : Int) = 16 * dv (at8 l (2 * k)) + dv (at8 l (2 * k + 1))) := byteAt_val (okB_yes hd hd2)
          have HA : Hid (allOk l (k + 1) = true) := by show _ = _; rw [allOk_succ, hall, okB_yes hd hd2]; rfl
          have g1 := dv_hi (at8 l (2 * k))
          have g2 := dv_hi (at8 l (2 * k + 1))
          have hor := or4 _ _ hd g1 hd2 g2
          have hlen := outTo_len l k
          have HO : Hid (outTo l (k + 1) = outTo l k ++ [byteAt l k]) := outTo_succ l k
          obtain ⟨p, c, rfl, -⟩ := ho.rd
          rw [hlen]
          go_wp2_with fail
          refine (digitValue_yes _ _ h0 h1 hd2).mono ?_
          rintro e w2 ⟨rfl, rfl⟩
          have ho2 : w2.ownsRow w.heap.size 5 1 (.slice p k c) k ((outTo l k).map u8v) := by have h := ho; unfold Own at h; rw [hlen] at h; exact h
          clear hlen
          have hge : Hid (∀ j, (Value.slice p k c).ownBlock = some j → w.heap.size ≤ j) := fun j hj => (World.ownsRow.lt ho2 j hj).1
          have hsz := hbel.size
          go_wp2_with (first
            | (at_builtin; refine wpList_append_lies _ rfl (.tmp 42) (.tmp 47) 22 rfl w.heap.size 5 i0 (.int .u8 0) 1 1 Try.underlying22 hi hz0 hz1 hz2 rfl (by decide) (.slice p k c) k ((outTo l k).map u8v) rfl (World.ownsRow.alloc ho2 _) ⟨w2.heap.size, 0, none⟩ 1 1 [.int .u8 (16 * dv (at8 l (2 * k)) + dv (at8 l (2 * k + 1)))] rfl rfl (cell_one_new w2 _ _) (by intro u hu; simp at hu; subst hu; rfl) (by decide) (by unfold maxLen; omega) (by omega) (by simp; omega) (w2.heap.size + 1) (by simp) ?_; intro g cap2 w3 hown3 hgrow3 hat3 hlt3)
            | go_in)
          go_step3
          rw [← HB.out] at hown3
          have R : Own w3 w.heap.size (.slice (some ⟨g, 0, none⟩) (k + 1) cap2) (outTo l (k + 1)) := by
            rw [HO.out]
            exact own_one (by rw [outTo_len]; exact hown3)
          have RB := (hbel.alloc hsz _).grown hgrow3 (by simp; omega) hge.out
          refine And.intro (a := jr l w 0 _ _) ?_ ?_
          · rw [show (2 * (k : Int) + 1 + 1) = 2 * ((k + 1 : Nat) : Int) by omega]
            exact .inl ⟨rfl, k + 1, _, _, _, _, _, _, _, _, _, _, _, _, _, _, _, _, _, _, _, _, _, _, _, _, _, _, _, _, _, _, _, _, _, _, _, _, _, _, _, _, _, _, _, _, rfl, by omega, HA.out, R, RB⟩
          · simp [mr, intOf]; omega
        · have b0 := bohOk_bad (l := l) (k := k) (by omega) (okB_no2 hd2)
          have B1 : Hid (bohOk l = false) := b0.1
          have B2 : Hid (bohBytes l = []) := b0.2
          clear b0
          go_wp2_with fail
          refine (digitValue_no _ _ h0 h1 (by omega)).mono ?_
          rintro e w2 ⟨rfl, rfl⟩
          go_wp2
          simp only [exitJumps]
          go_ret2
          exact ⟨_, by rw [B1.out]; rfl, by rw [B2.out]; exact World.ownsRow_nil _ _ _ _, hbel⟩
end Go.Proofs.Ytgdbbadmfddfbaa
