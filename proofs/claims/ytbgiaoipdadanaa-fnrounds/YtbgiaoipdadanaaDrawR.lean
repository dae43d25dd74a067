/- The contract of spec.DrawMixRound: some numbers, a word, a key; and a law of our own: append of numbers that can be read to a row of one's own. -/
import Derived.Test.YtbgiaoipdadanaaDraws2
import Derived.Test.YtbgiaoipdadanaaCopyI
import Derived.Test.YtbgiaoipdadanaaArr
import Derived.Laws.AppendOwnNone
namespace Go.Proofs.Ytbgiaoipdadanaa
open Go.ChangeShapes Go.WideShapes Go.ChangeAt Go.RowKit

theorem wpList_append_rdI {w : World} {ops : Array Oper} {rest : List Oper} {o : Oper} {a : Act} {Q : Exit → Act → World → Prop} (hgd : o.guard = none) (s x : Operand)
    (ho : o.op = .call { callee := .builtin .append, args := #[s, x], argTypes := #[40, 40] })
    (B : Nat) (v : Value) (xs : List Int) (hs : a.eval s = v) (hown : OwnI w B v xs) (p : Option Addr) (q : Nat) (bs : List Int) (hx : a.eval x = .slice p bs.length q) (hr : RdI w p q bs)
    (hl : xs.length + bs.length ≤ 100000000) (hB : B ≤ w.heap.size)
    (h : ∀ v' w', OwnI w' B v' (xs ++ bs) → w.grownBy w' v.ownBlock → wpList Try.prog ops Q rest (a.put o.dst v') w') : wpList Try.prog ops Q (o :: rest) a w := by
  obtain ⟨i0, hi, hz0, hz1, hz2⟩ := info_parts info64
  obtain ⟨h1, h2, h3, h4⟩ := hr
  cases p with
  | none =>
    have hq := h3 rfl
    subst hq
    have hb : bs = [] := List.eq_nil_of_length_eq_zero (by omega)
    subst hb
    refine wpList_append_own_none hgd s x _ ho B _ i0 1 Try.underlying40 hi v xs.length _ hs hown hx ?_
    exact h v w (by rw [List.append_nil]; exact hown) (World.grownBy.refl _ _)
  | some ad =>
    refine wpList_append_own _ hgd s x _ ho B 2 i0 (.int .i64 0) 1 8 Try.underlying40 hi hz0 hz1 hz2 rfl (by decide) v xs.length (xs.map i64z) hs hown ad bs.length q (bs.map i64z) hx (by simp) ?_ (by intro u hu; obtain ⟨n, -, rfl⟩ := List.mem_map.1 hu; rfl) (by unfold maxLen; omega) (by omega) hB ?_
    · intro j u hu
      have hj : j < bs.length := by have := (List.getElem?_eq_some_iff.1 hu).1; simpa using this
      obtain ⟨b, off, e, hc⟩ := h4 (by omega)
      simp at e
      subst e
      rw [addr_add, hc j hj, ← hu, i64z_at hj]
    · intro v' w' ho' hg' _
      refine h v' w' ?_ hg'
      unfold OwnI
      rw [List.length_append, List.map_append]
      exact ho'
theorem rdI_one (w : World) (b : Int) (t : TypeId) : RdI (w.alloc (.cells #[.int .i64 b] t)) (some ⟨w.heap.size, 0, none⟩) 1 [b] := by
  refine ⟨by simp, by unfold maxLen; decide, fun e => by simp at e, fun _ => ⟨w.heap.size, 0, rfl, fun i hi => ?_⟩⟩
  have : i = 0 := by simp at hi; omega
  subst this
  rw [World.cell?_alloc_new]
  rfl

set_option maxHeartbeats 2000000 in
theorem drawMix_c (p : Option Addr) (q : Nat) (cs : List UInt8) (w : World) (hr : Rd w p q cs) :
    Calls Try.prog 23 #[.slice p cs.length q] w fun e w' => ∃ (u : Value) (l : List Int) (x y : Int), e = .returned (.tuple #[u, .int .i64 x, .int .i64 y]) ∧ OwnI w' w.heap.size u l ∧ Below w.heap.size w w' := by
  go_enter Try.func23, Try.ntmps23
  go_wp2_with fail
  refine (l1Source_c p q cs w hr).mono ?_
  rintro e w1 ⟨rfl, hs1, hb1, hz1⟩
  have ho1 : OwnI (w1.alloc (.cells #[] 2)) (w.heap.size + 1) (.slice (some ⟨w1.heap.size, 0, none⟩) 0 0) [] :=
    World.ownsRow_lit (base := w.heap.size + 1) (e := 2) (size := 1) w1 #[] 0 hz1 (by unfold maxLen; decide) (by simp)
  have hs2 := hs1.keep (alloc_below w1 (Obj.cells #[] 2))
  have hb2 := Below.mk hb1 (Obj.cells #[] 2)
  clear hs1 hb1
  go_wp2_with fail
  refine (l1Pick_c _ p q cs 0 (w1.heap.size + 1) [8, 8, 8, 8, 8, 8, 7, 9, 0] 9 _ (hs2.keep (alloc_below _ _)) (by omega) (by omega) rfl (by decide) (by decide) (by omega) (by have h := new_ints (w1.alloc (.cells #[] 2)) #[.int .i64 8, .int .i64 8, .int .i64 8, .int .i64 8, .int .i64 8, .int .i64 8, .int .i64 7, .int .i64 9, .int .i64 0] 2 [8, 8, 8, 8, 8, 8, 7, 9, 0] rfl; rw [size_alloc] at h; exact h)).mono ?_
  rintro e w3 ⟨k0, hk0, rfl, hs3, hg3⟩
  have hK : 0 ≤ k0 ∧ k0 ≤ 9 := by
    simp only [List.mem_cons, List.not_mem_nil, or_false] at hk0
    omega
  have hg3' := grownBy_trans (World.grownBy_alloc (w1.alloc (.cells #[] 2)) _ _) hg3
  have ho3 := ho1.other hg3' (fun j hj e => by have := ho1.ge j hj; simp at e; omega)
  have hb3 := below_of_grown hb2 hg3'
  clear hk0 hg3 hg3' ho1 hs2 hb2 hr
  go_wp2
  go_loopw [6, 7] (fun v i wr => ∃ (l : List Int) (k : Int), 0 ≤ k ∧ k + l.length = k0 ∧ i = .int .i64 k ∧ OwnI wr (w.heap.size + 1) v l ∧ Src wr w.heap.size p q cs (0 + 1 + 3 * (l.length : Int)) ∧ Below w.heap.size w wr)
    (fun _ i _ => (intOf i).toNat)
  case atStart => exact ⟨[], k0, hK.1, by simp, rfl, ho3, by simpa using hs3, hb3⟩
  case round =>
    clear ho3 hs3 hb3
    obtain ⟨l, k, hk, hlk, rfl, ho, hs, hbel⟩ := hrel
    obtain ⟨a2, c2, rfl, -⟩ := ho.rd
    have hl9 : l.length ≤ 9 := by omega
    by_cases hpos : 0 < k
    · go_wp2_with fail
      refine (l1Draw_c _ p q cs (0 + 1 + 3 * (l.length : Int)) _ hs (by omega) (by omega)).mono ?_
      rintro e w4 ⟨r, rfl, -, -, hs4, hg4⟩
      have ho4 := ho.other hg4 (fun j hj e => by have := ho.ge j hj; simp at e; omega)
      have hb4 := below_of_grown hbel hg4
      have hs5 := hs4.keep (alloc_below w4 (Obj.cells #[.int .i64 r] 2))
      have ho5 := ho4.stay (alloc_below w4 (Obj.cells #[.int .i64 r] 2))
      have hb5 := Below.mk hb4 (Obj.cells #[.int .i64 r] 2)
      have hz5 := hs5.lt
      clear ho hs hbel hg4 hs4 hb4
      go_wp2_with (first
        | (at_builtin; refine wpList_append_rdI rfl (.tmp 18) (.tmp 21) rfl (w.heap.size + 1) _ l rfl ho5 _ 1 [r] rfl (rdI_one w4 r _) (by simp; omega) hz5 ?_; intro v6 w6 ho6 hg6)
        | go_in)
      have hs6 := hs5.other hg6 (fun j hj => by have := ho5.ge j hj; omega)
      have hb6 := hb5.grown hg6 hb5.size (fun j hj => by have := ho5.ge j hj; omega)
      rw [show (0 + 1 + 3 * (l.length : Int) + 3) = 0 + 1 + 3 * ((l ++ [r]).length : Int) by simp; omega] at hs6
      clear ho4 ho5 hs5 hb5 hg6
      go_roundw
      case rel => exact ⟨l ++ [r], k - 1, by omega, by simp; omega, by go_num, ho6, hs6, hb6⟩
      case measure => simp [intOf]; omega
    · by_cases h0 : l.length = 0
      · have hgd : ¬ ((0 : Int) < (l.length : Int)) := by omega
        have HL0 : Hid (l.length = 0) := h0
        clear h0
        go_wp2_with fail
        refine (l1Draw_c _ p q cs (0 + 1 + 3 * (l.length : Int)) _ hs (by omega) (by omega)).mono ?_
        rintro e x1 ⟨r1, rfl, -, -, s1, g1⟩
        go_wp2_with fail
        refine (l1Draw_c _ p q cs ((0 + 1 + 3 * (l.length : Int)) + 3) _ s1 (by omega) (by omega)).mono ?_
        rintro e x2 ⟨r2, rfl, -, -, s2, g2⟩
        go_wp2_with fail
        refine (l1Draw_c _ p q cs ((0 + 1 + 3 * (l.length : Int)) + 3 + 3) _ s2 (by omega) (by omega)).mono ?_
        rintro e x3 ⟨r3, rfl, -, -, s3, g3⟩
        go_wp2_with fail
        refine (l1Bent_c _ p q cs ((0 + 1 + 3 * (l.length : Int)) + 3 + 3 + 3) _ s3 (by omega) (by omega)).mono ?_
        rintro e x4 ⟨r4, rfl, -, -, s4, g4⟩
        go_wp2_with fail
        refine (l1Pick_c _ p q cs ((0 + 1 + 3 * (l.length : Int)) + 3 + 3 + 3 + 13) x4.heap.size [r1, r2, r3, r4] 4 _ (s4.keep (alloc_below _ _)) (by omega) (by omega) rfl (by decide) (by decide) (by have := s4.lt; omega) (new_ints _ _ _ [r1, r2, r3, r4] rfl)).mono ?_
        rintro e x5 ⟨r5, -, rfl, s5, g5⟩
        go_wp2_with fail
        refine (l1Draw_c _ p q cs ((0 + 1 + 3 * (l.length : Int)) + 3 + 3 + 3 + 13 + 1) _ s5 (by omega) (by omega)).mono ?_
        rintro e x6 ⟨r6, rfl, -, -, -, g6⟩
        have GG := grownBy_trans g1 (grownBy_trans g2 (grownBy_trans g3 (grownBy_trans g4 (grownBy_trans (World.grownBy_alloc _ _ _) (grownBy_trans g5 g6)))))
        have OO := ho.other GG (fun j hj e => by have := ho.ge j hj; simp at e; omega)
        clear g1 g2 g3 g4 g5 g6 s1 s2 s3 s4 s5
        go_wp2
        exact bodyPost_ret (v := .tuple #[.slice a2 l.length c2, .int .i64 r5, .int .i64 r6]) (by simp [results, Try.results23, go_sem]) rfl ⟨_, _, r5, r6, rfl, OO.lower (Nat.le_succ _), below_of_grown hbel GG⟩
      · have hgd : (0 : Int) < (l.length : Int) := by omega
        go_wp2_with fail
        refine (l1Chance_c _ p q cs (0 + 1 + 3 * (l.length : Int)) 12 _ hs (by omega) (by omega) (by decide) (by decide)).mono ?_
        rintro e w4 ⟨c, rfl, hs4, hg4⟩
        have ho4 := ho.other hg4 (fun j hj e => by have := ho.ge j hj; simp at e; omega)
        have hb4 := below_of_grown hbel hg4
        clear ho hs hbel hg4
        cases c
        · skip
          go_wp2_with fail
          refine (l1Draw_c _ p q cs (0 + 1 + 3 * (l.length : Int) + 1) _ hs4 (by omega) (by omega)).mono ?_
          rintro e x1 ⟨r1, rfl, -, -, s1, g1⟩
          go_wp2_with fail
          refine (l1Draw_c _ p q cs ((0 + 1 + 3 * (l.length : Int) + 1) + 3) _ s1 (by omega) (by omega)).mono ?_
          rintro e x2 ⟨r2, rfl, -, -, s2, g2⟩
          go_wp2_with fail
          refine (l1Draw_c _ p q cs ((0 + 1 + 3 * (l.length : Int) + 1) + 3 + 3) _ s2 (by omega) (by omega)).mono ?_
          rintro e x3 ⟨r3, rfl, -, -, s3, g3⟩
          go_wp2_with fail
          refine (l1Bent_c _ p q cs ((0 + 1 + 3 * (l.length : Int) + 1) + 3 + 3 + 3) _ s3 (by omega) (by omega)).mono ?_
          rintro e x4 ⟨r4, rfl, -, -, s4, g4⟩
          go_wp2_with fail
          refine (l1Pick_c _ p q cs ((0 + 1 + 3 * (l.length : Int) + 1) + 3 + 3 + 3 + 13) x4.heap.size [r1, r2, r3, r4] 4 _ (s4.keep (alloc_below _ _)) (by omega) (by omega) rfl (by decide) (by decide) (by have := s4.lt; omega) (new_ints _ _ _ [r1, r2, r3, r4] rfl)).mono ?_
          rintro e x5 ⟨r5, -, rfl, s5, g5⟩
          go_wp2_with fail
          refine (l1Draw_c _ p q cs ((0 + 1 + 3 * (l.length : Int) + 1) + 3 + 3 + 3 + 13 + 1) _ s5 (by omega) (by omega)).mono ?_
          rintro e x6 ⟨r6, rfl, -, -, -, g6⟩
          have GG := grownBy_trans g1 (grownBy_trans g2 (grownBy_trans g3 (grownBy_trans g4 (grownBy_trans (World.grownBy_alloc _ _ _) (grownBy_trans g5 g6)))))
          have OO := ho4.other GG (fun j hj e => by have := ho4.ge j hj; simp at e; omega)
          clear g1 g2 g3 g4 g5 g6 s1 s2 s3 s4 s5
          go_wp2
          exact bodyPost_ret (v := .tuple #[.slice a2 l.length c2, .int .i64 r5, .int .i64 r6]) (by simp [results, Try.results23, go_sem]) rfl ⟨_, _, r5, r6, rfl, OO.lower (Nat.le_succ _), below_of_grown hb4 GG⟩
        · go_wp2_with fail
          refine (l1Pick_c _ p q cs (0 + 1 + 3 * (l.length : Int) + 1) w4.heap.size [-1, 4294967296] 2 _ (hs4.keep (alloc_below _ _)) (by omega) (by omega) rfl (by decide) (by decide) (by have := hs4.lt; omega) (new_ints _ _ _ [-1, 4294967296] rfl)).mono ?_
          rintro e w5 ⟨r, -, rfl, hs5, hg5⟩
          have hg5' := grownBy_trans (World.grownBy_alloc w4 _ _) hg5
          have ho5 := ho4.other hg5' (fun j hj e => by have := ho4.ge j hj; simp at e; omega)
          have hb5 := below_of_grown hb4 hg5'
          clear ho4 hs4 hb4 hg5 hg5'
          obtain ⟨g, rfl⟩ : ∃ g, a2 = some ⟨g, 0, none⟩ := by
            rcases ho5.2 with ⟨e, -⟩ | ⟨g, cap, cur, e, -⟩
            · have h2 := (Value.slice.inj e).2.1; omega
            · simp at e; exact ⟨g, e.1⟩
          have hcx : w5.cell? ⟨g, 0, none⟩ = some (.int .i64 (atI l 0)) := by rw [World.ownsRow.cellAt ho5 0 (by omega), i64z_at (by omega)]
          have hfx := World.ownsRow.frozenAt ho5 0
          have R := World.ownsRow.stored ho5 0 (.int .i64 r)
          have hR : OwnI (w5.setCell ⟨g, 0, none⟩ (.int .i64 r)) (w.heap.size + 1) (.slice (some ⟨g, 0, none⟩) l.length c2) (l.set 0 r) := by
            unfold OwnI; rw [List.length_set, List.map_set]; exact R.1
          have hge : w.heap.size + 1 ≤ g := ho5.ge g rfl
          have hS := hs5.other R.2 (fun j hj => by simp at hj; omega)
          have hB := hb5.grown R.2 hb5.size (fun j hj => by simp at hj; omega)
          clear R ho5 hs5 hb5
          go_wp2_with fail
          refine (l1Draw_c _ p q cs (0 + 1 + 3 * (l.length : Int) + 1 + 1) _ hS (by omega) (by omega)).mono ?_
          rintro e x1 ⟨r1, rfl, -, -, s1, g1⟩
          go_wp2_with fail
          refine (l1Draw_c _ p q cs ((0 + 1 + 3 * (l.length : Int) + 1 + 1) + 3) _ s1 (by omega) (by omega)).mono ?_
          rintro e x2 ⟨r2, rfl, -, -, s2, g2⟩
          go_wp2_with fail
          refine (l1Draw_c _ p q cs ((0 + 1 + 3 * (l.length : Int) + 1 + 1) + 3 + 3) _ s2 (by omega) (by omega)).mono ?_
          rintro e x3 ⟨r3, rfl, -, -, s3, g3⟩
          go_wp2_with fail
          refine (l1Bent_c _ p q cs ((0 + 1 + 3 * (l.length : Int) + 1 + 1) + 3 + 3 + 3) _ s3 (by omega) (by omega)).mono ?_
          rintro e x4 ⟨r4, rfl, -, -, s4, g4⟩
          go_wp2_with fail
          refine (l1Pick_c _ p q cs ((0 + 1 + 3 * (l.length : Int) + 1 + 1) + 3 + 3 + 3 + 13) x4.heap.size [r1, r2, r3, r4] 4 _ (s4.keep (alloc_below _ _)) (by omega) (by omega) rfl (by decide) (by decide) (by have := s4.lt; omega) (new_ints _ _ _ [r1, r2, r3, r4] rfl)).mono ?_
          rintro e x5 ⟨r5, -, rfl, s5, g5⟩
          go_wp2_with fail
          refine (l1Draw_c _ p q cs ((0 + 1 + 3 * (l.length : Int) + 1 + 1) + 3 + 3 + 3 + 13 + 1) _ s5 (by omega) (by omega)).mono ?_
          rintro e x6 ⟨r6, rfl, -, -, -, g6⟩
          have GG := grownBy_trans g1 (grownBy_trans g2 (grownBy_trans g3 (grownBy_trans g4 (grownBy_trans (World.grownBy_alloc _ _ _) (grownBy_trans g5 g6)))))
          have OO := hR.other GG (fun j hj e => by have := hR.ge j hj; simp at e; omega)
          clear g1 g2 g3 g4 g5 g6 s1 s2 s3 s4 s5
          go_wp2
          exact bodyPost_ret (v := .tuple #[.slice (some ⟨g, 0, none⟩) l.length c2, .int .i64 r5, .int .i64 r6]) (by simp [results, Try.results23, go_sem]) rfl ⟨_, _, r5, r6, rfl, OO.lower (Nat.le_succ _), below_of_grown hB GG⟩
end Go.Proofs.Ytbgiaoipdadanaa
