/- The contract of BytesOfHex in the specification. -/
import Derived.Test.YtgdbbadmfddfbaaBohImpl
import Derived.Deep.AppendLies
namespace Go.Proofs.Ytgdbbadmfddfbaa
open Go.ChangeShapes Go.WideShapes Go.ChangeAt Go.RowKit

set_option maxHeartbeats 2000000 in
theorem specBoh2_c (l : List UInt8) (w : World) (hm : l.length ≤ 1048576) :
    Calls Try.prog 17 #[.string (strB l)] w fun e w' => ∃ u, e = .returned (.agg #[.int .i64 (bohCode l), u]) ∧ Own w' w.heap.size u (bohBytes l) ∧ Below w.heap.size w w' ∧ (bohOk l = false → u = .slice none 0 0) := by
  have hss := strB_size l
  by_cases hl : l.length ≤ 1200
  · by_cases hodd : l.length % 2 = 1
    · obtain ⟨e1, e2⟩ := bohCode_bad hl (bohOk_odd hodd).1
      rw [e1, e2]
      have hq : ((l.length : Int) % 2 == 1) = true := by rw [beq_iff_eq]; omega
      clear e1 e2 hodd
      go_enter Try.func17, Try.ntmps17
      go_wp2
      exact bodyPost_ret (v := .agg #[.int .i64 5, .slice none 0 0]) (by simp [results, Try.results17, go_sem]) rfl ⟨_, rfl, World.ownsRow_nil _ _ _ _, alloc_below _ _, fun _ => rfl⟩
    · have hq : ((l.length : Int) % 2 == 1) = false := by rw [beq_eq_false_iff_ne]; omega
      obtain ⟨i0, hi, hz0, hz1, hz2⟩ := info_parts info8
      go_enter Try.func17, Try.ntmps17
      go_wp2
      have hs1 := (Loc.new w #[Value.int IntKind.i64 0, Value.slice none 0 0] 30).keep (alloc_below _ (Obj.cells #[Value.int IntKind.i64 0, Value.slice none 0 0] 30)) (by simp)
      have hs2 := Loc.new (w.alloc (Obj.cells #[Value.int IntKind.i64 0, Value.slice none 0 0] 30)) #[Value.int IntKind.i64 0, Value.slice none 0 0] 30
      rw [size_alloc] at hs2
      have hb0 : Below w.heap.size w ((w.alloc (Obj.cells #[Value.int IntKind.i64 0, Value.slice none 0 0] 30)).alloc (Obj.cells #[Value.int IntKind.i64 0, Value.slice none 0 0] 30)) := Below.mk (alloc_below _ _) _
      have hz : ((w.alloc (Obj.cells #[Value.int IntKind.i64 0, Value.slice none 0 0] 30)).alloc (Obj.cells #[Value.int IntKind.i64 0, Value.slice none 0 0] 30)).heap.size = w.heap.size + 2 := by simp
      go_loopw [4] (fun i wr => ∃ (k : Nat) (v : Value), 2 * k ≤ l.length ∧ i = .int .i64 (2 * (k : Int)) ∧ allOk l k = true ∧ Own wr (w.heap.size + 2) v (outTo l k) ∧ Loc wr w.heap.size [.int .i64 0, .slice none 0 0] ∧ Loc wr (w.heap.size + 1) [.int .i64 0, v] ∧ Below w.heap.size w wr ∧ w.heap.size + 2 ≤ wr.heap.size)
        (fun i _ => l.length - (intOf i).toNat)
      case atStart => exact ⟨0, _, Nat.zero_le _, rfl, rfl, World.ownsRow_nil _ _ _ _, hs1, hs2, hb0, by omega⟩
      case round =>
        clear hs1 hs2 hb0 hz
        obtain ⟨k, v, hk, rfl, hall, ho, l1, l2, hbel, hsz⟩ := hrel
        by_cases hend : 2 * k = l.length
        · obtain ⟨b1, b2⟩ := bohOk_all hl hend hall
          have B0 : Hid (bohOk l = true) := b1
          have B1 : Hid (bohCode l = 0) := bohCode_ok hl b1
          have B2 : Hid (bohBytes l = outTo l k) := b2
          have hge : (l.length : Int) ≤ 2 * (k : Int) := by omega
          have c0 := l1.1 0 _ rfl
          have c1 := l1.1 1 _ rfl
          have d0 := l2.1 0 _ rfl
          have d1 := l2.1 1 _ rfl
          have f1 := l1.2
          obtain ⟨p, c, rfl, -⟩ := ho.rd
          clear b1 b2 hend
          go_wp2
          refine bodyPost_ret (v := .agg #[.int .i64 0, .slice p (outTo l k).length c]) (by simp [results, Try.results17, go_sem, c0, c1]) rfl ⟨_, by rw [B1.out], ?_, (hbel.setCell (Nat.le_refl _) _).setCell (Nat.le_refl _) _, fun h => by rw [B0.out] at h; exact absurd h (by decide)⟩
          rw [B2.out]
          exact ((ho.set (by show w.heap.size < w.heap.size + 2; omega) _).set (by show w.heap.size < w.heap.size + 2; omega) _).lower (by omega)
        · have hlt : 2 * (k : Int) < (l.length : Int) := by omega
          have hlt2 : 2 * (k : Int) + 1 < (l.length : Int) := by omega
          have hnat : (2 * (k : Int) + 1).toNat = 2 * k + 1 := by omega
          have hat := strB_at l (2 * k)
          have hat2 := strB_at l (2 * k + 1)
          have h0 := at8_lo l (2 * k)
          have h1 := at8_hi l (2 * k)
          have h2 := at8_lo l (2 * k + 1)
          have h3 := at8_hi l (2 * k + 1)
          have c0 := l1.1 0 _ rfl
          have c1 := l1.1 1 _ rfl
          have f1 := l1.2
          have z1 : w.heap.size < wr.heap.size := by omega
          by_cases hd : 0 ≤ dv (at8 l (2 * k))
          · by_cases hd2 : 0 ≤ dv (at8 l (2 * k + 1))
            · have HB : Hid (((byteAt l k).toNat : Int) = 16 * dv (at8 l (2 * k)) + dv (at8 l (2 * k + 1))) := byteAt_val (okB_yes hd hd2)
              have HA : Hid (allOk l (k + 1) = true) := by show _ = _; rw [allOk_succ, hall, okB_yes hd hd2]; rfl
              have g1 := dv_hi (at8 l (2 * k))
              have g2 := dv_hi (at8 l (2 * k + 1))
              have hlen := outTo_len l k
              have HO : Hid (outTo l (k + 1) = outTo l k ++ [byteAt l k]) := outTo_succ l k
              obtain ⟨p, c, rfl, -⟩ := ho.rd
              rw [hlen] at l2
              have ho2 : wr.ownsRow (w.heap.size + 2) 5 1 (.slice p k c) k ((outTo l k).map u8v) := by have h := ho; unfold Own at h; rw [hlen] at h; exact h
              clear hlen ho
              have d1 := l2.1 1 _ rfl
              have f2 := l2.2
              have z2 : w.heap.size + 1 < wr.heap.size := by omega
              have hge : Hid (∀ j, (Value.slice p k c).ownBlock = some j → w.heap.size + 2 ≤ j) := fun j hj => (World.ownsRow.lt ho2 j hj).1
              go_wp2_with fail
              refine (l1Value_c _ _ h0 h1).mono ?_
              rintro e w2 ⟨rfl, rfl⟩
              go_wp2_with fail
              refine (l1Value_c _ _ h2 h3).mono ?_
              rintro e w3 ⟨rfl, rfl⟩
              have neL1 : Hid ((Value.slice p k c).ownBlock ≠ some w.heap.size) := fun e => by have := hge.out _ e; omega
              have neL2 : Hid ((Value.slice p k c).ownBlock ≠ some (w.heap.size + 1)) := fun e => by have := hge.out _ e; omega
              go_wp2_with (first
                | (at_builtin; refine wpList_append_lies _ rfl (.tmp 40) (.tmp 46) 22 rfl (w.heap.size + 2) 5 i0 (.int .u8 0) 1 1 Try.underlying22 hi hz0 hz1 hz2 rfl (by decide) (.slice p k c) k ((outTo l k).map u8v) rfl (World.ownsRow.alloc ho2 _) ⟨w3.heap.size, 0, none⟩ 1 1 [.int .u8 (16 * dv (at8 l (2 * k)) + dv (at8 l (2 * k + 1)))] rfl rfl (cell_one_new w3 _ _) (by intro u hu; simp at hu; subst hu; rfl) (by decide) (by unfold maxLen; omega) (by omega) (by simp; omega) (w3.heap.size + 1) (by simp) ?_; intro g cap2 w4 hown4 hgrow4 hat4 hlt4; have m1 := (l1.keep (alloc_below w3 _) z1).other hgrow4 neL1.out; have m2 := (l2.keep (alloc_below w3 _) z2).other hgrow4 neL2.out; have e1 := m2.1 1 _ rfl; have e2 := m2.2; clear c0 c1 d1 f1 f2 l1 l2)
                | go_in)
              rw [← HB.out] at hown4
              have R : Own w4 (w.heap.size + 2) (.slice (some ⟨g, 0, none⟩) (k + 1) cap2) (outTo l (k + 1)) := by
                rw [HO.out]
                exact own_one (by rw [outTo_len]; exact hown4)
              have RB := (hbel.alloc hbel.size _).grown hgrow4 (by simp; omega) (fun j hj => by have := hge.out j hj; omega)
              have hs4 := hgrow4.size
              rw [size_alloc] at hs4
              go_roundw
              case rel => exact ⟨k + 1, _, by omega, by go_num, HA.out, R.set (by show w.heap.size + 1 < w.heap.size + 2; omega) _, m1.setOther (by show w.heap.size + 1 ≠ w.heap.size; omega) _, m2.set1 _, RB.setCell (by show w.heap.size ≤ w.heap.size + 1; omega) _, by simp [World.setCell]; omega⟩
              case measure => simp [intOf]; omega
            · have b0 := bohOk_bad (l := l) (k := k) (by omega) (okB_no2 hd2)
              obtain ⟨e1, e2⟩ := bohCode_bad hl b0.1
              have E1 : Hid (bohCode l = 5) := e1
              have E2 : Hid (bohBytes l = []) := e2
              clear e1 e2
              go_wp2_with fail
              refine (l1Value_c _ _ h0 h1).mono ?_
              rintro e w2 ⟨rfl, rfl⟩
              go_wp2_with fail
              refine (l1Value_c _ _ h2 h3).mono ?_
              rintro e w3 ⟨rfl, rfl⟩
              go_wp2
              exact bodyPost_ret (v := .agg #[.int .i64 5, .slice none 0 0]) (by simp [results, Try.results17, go_sem, c0, c1]) rfl ⟨_, by rw [E1.out], by rw [E2.out]; exact World.ownsRow_nil _ _ _ _, (hbel.setCell (Nat.le_refl _) _).setCell (Nat.le_refl _) _, fun _ => rfl⟩
          · have b0 := bohOk_bad (l := l) (k := k) (by omega) (okB_no1 hd)
            obtain ⟨e1, e2⟩ := bohCode_bad hl b0.1
            have E1 : Hid (bohCode l = 5) := e1
            have E2 : Hid (bohBytes l = []) := e2
            clear e1 e2
            go_wp2_with fail
            refine (l1Value_c _ _ h0 h1).mono ?_
            rintro e w2 ⟨rfl, rfl⟩
            go_wp2_with fail
            refine (l1Value_c _ _ h2 h3).mono ?_
            rintro e w3 ⟨rfl, rfl⟩
            go_wp2
            exact bodyPost_ret (v := .agg #[.int .i64 5, .slice none 0 0]) (by simp [results, Try.results17, go_sem, c0, c1]) rfl ⟨_, by rw [E1.out], by rw [E2.out]; exact World.ownsRow_nil _ _ _ _, (hbel.setCell (Nat.le_refl _) _).setCell (Nat.le_refl _) _, fun _ => rfl⟩
  · obtain ⟨e1, e2⟩ := bohCode_many hl
    rw [e1, e2]
    clear e1 e2
    go_enter Try.func17, Try.ntmps17
    go_wp2
    exact bodyPost_ret (v := .agg #[.int .i64 2, .slice none 0 0]) (by simp [results, Try.results17, go_sem]) rfl ⟨_, rfl, World.ownsRow_nil _ _ _ _, alloc_below _ _, fun _ => rfl⟩

theorem specBoh_c (l : List UInt8) (w : World) (hm : l.length ≤ 1048576) :
    Calls Try.prog 17 #[.string (strB l)] w fun e w' => ∃ u, e = .returned (.agg #[.int .i64 (bohCode l), u]) ∧ Own w' w.heap.size u (bohBytes l) ∧ Below w.heap.size w w' :=
  (specBoh2_c l w hm).mono fun _ _ ⟨u, h1, h2, h3, _⟩ => ⟨u, h1, h2, h3⟩
theorem specBohBad_c (l : List UInt8) (w : World) (hm : l.length ≤ 1048576) (hb : bohOk l = false) :
    Calls Try.prog 17 #[.string (strB l)] w fun e w' => e = .returned (.agg #[.int .i64 (bohCode l), .slice none 0 0]) ∧ Below w.heap.size w w' :=
  (specBoh2_c l w hm).mono fun _ _ ⟨u, h1, _, h3, h4⟩ => ⟨by rw [h1, h4 hb], h3⟩
end Go.Proofs.Ytgdbbadmfddfbaa
