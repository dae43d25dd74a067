/- The contracts of chapter 4's functions in the program, at every argument: startOf, StreamBlock, StartState, hidden, StreamXor, NonceFor, allPlaces, twoAlike, QuarterRound: code and bytes or list, as in the specification. -/
import Derived.Test.YtbgdhjeccdooiaaStrH
namespace Go.Proofs.Ytbgdhjeccdooiaa
open Go.ChangeShapes Go.WideShapes Go.ChangeAt Go.RowKit
/-- Words, then zeros, 16 in all. -/
def fill16 (ws : List Nat) : List Nat := ws ++ List.replicate (16 - ws.length) 0
theorem fill16_len {ws : List Nat} (h : ws.length ≤ 16) : (fill16 ws).length = 16 := by simp [fill16]; omega
theorem fill16_set (ws : List Nat) (x i : Nat) (hi : ws.length = i) (h : i < 16) : (fill16 ws).set i x = fill16 (ws ++ [x]) := by
  unfold fill16
  subst hi
  rw [List.set_append_right _ _ (Nat.le_refl _), Nat.sub_self, show 16 - ws.length = (16 - (ws ++ [x]).length) + 1 by simp; omega, List.replicate_succ, List.set_cons_zero, List.append_assoc]
  rfl
theorem fill16_all {ws : List Nat} (h : ws.length = 16) : fill16 ws = ws := by simp [fill16, h]
theorem fill16_head : (fill16 headS).map u32v = [.int .u32 1634760805, .int .u32 857760878, .int .u32 2036477234, .int .u32 1797285236, .int .u32 0, .int .u32 0, .int .u32 0, .int .u32 0, .int .u32 0, .int .u32 0, .int .u32 0, .int .u32 0, .int .u32 0, .int .u32 0, .int .u32 0, .int .u32 0] := by rfl




theorem ownsRow_stay {w w' : World} {B : Nat} {t : TypeId} {z n : Nat} {v : Value} {vs : List Value} (h : w.ownsRow B t z v n vs) (hb : Below w.heap.size w w') : w'.ownsRow B t z v n vs := by
  have hl := World.ownsRow.lt h
  obtain ⟨h1, h2⟩ := h
  refine ⟨h1, ?_⟩
  rcases h2 with h2 | ⟨g, cap, cur, rfl, hg, hh, r⟩
  · exact .inl h2
  · exact .inr ⟨g, cap, cur, rfl, hg, (hb.block g (hl g rfl).2).trans hh, r⟩
theorem ownsRow_drewN {w : World} {B : Nat} {t : TypeId} {z n : Nat} {v : Value} {vs : List Value} (h : w.ownsRow B t z v n vs) (k : Nat) : (w.drewN k).ownsRow B t z v n vs := h
theorem Own.drewN {w : World} {B : Nat} {v : Value} {bs : List UInt8} (h : Own w B v bs) (k : Nat) : Own (w.drewN k) B v bs := h


def seqB (seq k : Nat) : UInt8 := UInt8.ofNat (seq / 256 ^ k % 256)
def nkAt (base : List UInt8) (seq k i : Nat) : UInt8 := if 12 ≤ i + k then base.getD i 0 ^^^ seqB seq (11 - i) else base.getD i 0
def nonceK (base : List UInt8) (seq k : Nat) : List UInt8 := (List.range 12).map (nkAt base seq k)
theorem nonceK_len (base : List UInt8) (seq k : Nat) : (nonceK base seq k).length = 12 := by simp [nonceK]
theorem nonceK_get (base : List UInt8) (seq k : Nat) {i : Nat} (h : i < 12) : (nonceK base seq k)[i]? = some (nkAt base seq k i) := by simp [nonceK, h]
theorem nonceK_zero (base : List UInt8) (seq : Nat) (h : base.length = 12) : nonceK base seq 0 = base := by
  apply List.ext_getElem?
  intro i
  by_cases hi : i < 12
  · rw [nonceK_get base seq 0 hi, nkAt, if_neg (by omega)]
    simp [show i < base.length by omega]
  · rw [List.getElem?_eq_none (by rw [nonceK_len]; omega), List.getElem?_eq_none (by omega)]
theorem nonceK_at (base : List UInt8) (seq : Nat) {k : Nat} (h : k < 4) : ((nonceK base seq k).map u8v)[11 - k]? = some (.int .u8 ((base.getD (11 - k) 0).toNat : Int)) := by
  rw [List.getElem?_map, nonceK_get base seq k (by omega), nkAt, if_neg (by omega)]
  rfl
theorem nonceK_set (base : List UInt8) (seq : Nat) {k : Nat} (h : k < 4) : ((nonceK base seq k).map u8v).set (11 - k) (.int .u8 ((base.getD (11 - k) 0 ^^^ seqB seq k).toNat : Int)) = (nonceK base seq (k + 1)).map u8v := by
  apply List.ext_getElem?
  intro i
  rw [List.getElem?_set]
  by_cases e : 11 - k = i
  · subst e
    rw [if_pos rfl, if_pos (by rw [List.length_map, nonceK_len]; omega), List.getElem?_map, nonceK_get base seq (k + 1) (by omega), nkAt, if_pos (by omega), show 11 - (11 - k) = k by omega]
    rfl
  · rw [if_neg e]
    by_cases hi : i < 12
    · rw [List.getElem?_map, List.getElem?_map, nonceK_get base seq k hi, nonceK_get base seq (k + 1) hi]
      unfold nkAt
      by_cases hc : 12 ≤ i + k
      · rw [if_pos hc, if_pos (by omega)]
      · rw [if_neg hc, if_neg (by omega)]
    · rw [List.getElem?_eq_none (by rw [List.length_map, nonceK_len]; omega), List.getElem?_eq_none (by rw [List.length_map, nonceK_len]; omega)]
theorem putB_at (v : Nat) : ∀ (n i : Nat), i < n → (putB v n).getD i 0 = seqB v (n - 1 - i)
  | 0, _, h => absurd h (Nat.not_lt_zero _)
  | n + 1, 0, _ => rfl
  | n + 1, i + 1, h => by
    have := putB_at v n i (by omega)
    rw [show n + 1 - 1 - (i + 1) = n - 1 - i by omega, ← this]
    rfl
theorem seqB_zero {seq k : Nat} (h : seq < 4294967296) (hk : 4 ≤ k) : seqB seq k = 0 := by
  have h1 : 256 ^ 4 ≤ 256 ^ k := Nat.pow_le_pow_right (by decide) hk
  unfold seqB
  rw [Nat.div_eq_of_lt (by omega)]
  rfl
theorem nonceK_all (base : List UInt8) (seq : Nat) (h : seq < 4294967296) : nonceK base seq 4 = nonceN base seq := by
  unfold nonceK nonceN nkAt
  apply List.map_congr_left
  intro i hi
  have hi := List.mem_range.1 hi
  rw [putB_at seq 12 i hi, show 12 - 1 - i = 11 - i by omega]
  split
  · exact UInt8.xor_comm _ _
  · rw [seqB_zero h (by omega), UInt8.zero_xor]
theorem seqB_int (m k : Nat) : ((seqB m k).toNat : Int) = (m : Int) / 2 ^ (8 * k) % 256 := by
  unfold seqB
  rw [UInt8.toNat_ofNat', show (256 : Nat) ^ k = 2 ^ (8 * k) by rw [Nat.pow_mul], show (2 : Nat) ^ 8 = 256 from rfl, Nat.mod_mod, Int.natCast_emod, Int.natCast_ediv, Int.natCast_pow]
  rfl
theorem nonceStart {w : World} {g : Nat} {t : TypeId} {base : List UInt8} (h : Hid (w.heap[g]? = some (.cells (splice ((zs 12).map u8v) 0 (base.map u8v)).toArray t (0, 0)))) (hl : base.length = 12) : Arr w g t (base.map u8v) := by
  have e : splice ((zs 12).map u8v) 0 (base.map u8v) = base.map u8v := by
    simp only [splice, List.take_zero, List.nil_append, Nat.zero_add, List.length_map, zs, ← List.map_drop, List.drop_replicate, hl]
    simp
  unfold Arr
  rw [← e]
  exact h.out
set_option maxRecDepth 4000 in
set_option maxHeartbeats 1000000 in
theorem implNF_c (p : Option Addr) (q : Nat) (base : List UInt8) (seq : Int) (w : World) (hr : Rd w p q base) :
    Calls Try.prog 15 #[.slice p base.length q, .int .i64 seq] w fun e w' => ∃ u, e = .returned (.agg #[.int .i64 (nfC base seq), u]) ∧ Own w' w.heap.size u (nfL base seq) ∧ Below w.heap.size w w' := by
  by_cases h1 : base.length = 12
  · have d1 : ((base.length : Int) != 12) = false := by rw [bne_eq_false_iff_eq]; omega
    cases h2 : inB seq 0 2147483648
    · rw [show nfC base seq = 3 by simp [nfC, h1, h2], show nfL base seq = [] by simp [nfL, h2]]
      clear h1
      by_cases h3 : seq < 0
      · go_enter Try.func15, Try.ntmps15
        go_wp2
        exact bodyPost_ret (v := .agg #[.int .i64 3, .slice none 0 0]) (by simp [results, Try.results15, go_sem]) rfl ⟨_, rfl, Own_nil _ _, alloc_below _ _⟩
      · have h4 : 2147483648 < seq := by simp [inB] at h2; omega
        go_enter Try.func15, Try.ntmps15
        go_wp2
        exact bodyPost_ret (v := .agg #[.int .i64 3, .slice none 0 0]) (by simp [results, Try.results15, go_sem]) rfl ⟨_, rfl, Own_nil _ _, alloc_below _ _⟩
    · obtain ⟨m, rfl, hm⟩ : ∃ m : Nat, seq = m ∧ m ≤ 2147483648 := by simp [inB] at h2; exact ⟨seq.toNat, by omega, by omega⟩
      rw [show nfC base (m : Int) = 0 by simp [nfC, h1, h2], show nfL base (m : Int) = nonceN base m by simp [nfL, h1, h2]]
      have hmI : (m : Int) ≤ 2147483648 := by omega
      have HL : Hid (base.length = 12) := h1
      have HR : Hid (Rd w p q base) := hr
      clear h1 h2 hr
      obtain ⟨i0, hi, hz0, hz1, hz2⟩ := info_parts info8
      have HI : Hid ((Try.prog.info? 5).map (·.size) = some 1) := by show _ = _; rw [hi]; simp [hz1]
      have A0 : Arr (w.alloc (.cells #[.int .i64 0, .slice none 0 0] 34)) w.heap.size 34 [.int .i64 0, .slice none 0 0] := Arr.new w [.int .i64 0, .slice none 0 0] 34
      have B0 : Below w.heap.size w (w.alloc (.cells #[.int .i64 0, .slice none 0 0] 34)) := alloc_below _ _
      have HR0 : Hid (Rd (w.alloc (.cells #[.int .i64 0, .slice none 0 0] 34)) p q base) := HR.out.keep B0
      obtain ⟨b1, o1, e1, hc1⟩ := HR.out.2.2.2 (by rw [HL.out]; decide)
      subst e1
      clear hc1 HR d1
      rw [HL.out]
      go_enter Try.func15, Try.ntmps15
      go_wp2_with (first
        | (at_make; refine wpList_make_full _ rfl (.const (.int .i64 12)) (.const (.int .i64 12)) 32 rfl (w.heap.size + 1) 5 i0 (.int .u8 0) 1 Try.underlying32 hi hz0 hz1 .i64 .i64 _ _ 12 rfl rfl rfl rfl (by rw [hz2]; decide) (by unfold maxLen; decide) (by rw [size_alloc]; exact Nat.le_refl _) ?_; intro w1 hown hgrow; rw [size_alloc] at hown; have hA1 := (made_zeros hown).arr (zs_len 12); have hb1 : Below (w.heap.size + 1) (w.alloc (.cells #[.int .i64 0, .slice none 0 0] 34)) w1 := (Below.refl _ _).grown hgrow (by rw [size_alloc]; exact Nat.le_refl _) (fun k hk => by simp at hk); clear hown hgrow)
        | (refine wpList_copy_splice rfl (.tmp 19) (.tmp 20) 32 32 rfl 5 Try.underlying32 HI.out _ _ _ _ _ _ rfl rfl (w.heap.size + 1) 0 ((zs 12).map u8v) 5 hA1 (base.map u8v) (by rw [List.length_map, HL.out]; rfl) (fun hp => ⟨rfl, (HR0.out.keep (by rw [size_alloc]; exact hb1)).addr (by simpa using hp)⟩) (by simp [zs_len, HL.out]) (by intro u hu; obtain ⟨n, -, rfl⟩ := List.mem_map.1 hu; rfl) (w.heap.size + 1) _ hb1 (Nat.le_refl _) ?_; intro w2 hA2 hb2; replace hA2 := nonceStart hA2 HL.out))
      have A2 := A0.keep hb2 (Nat.lt_succ_self _)
      have B2 : Below w.heap.size w w2 := Below.step B0 (by rw [size_alloc]; exact hb2)
      have HQ : Hid (m < 4294967296) := by show _ < _; omega
      clear hA1 hb1 hb2 A0 B0 HR0 hi hz0 hz1 hz2 HI
      go_loopw [22] (fun i wr => ∃ k : Nat, k ≤ 4 ∧ i = .int .i64 k ∧ Arr wr (w.heap.size + 1) 5 ((nonceK base m k).map u8v) ∧ Arr wr w.heap.size 34 [.int .i64 0, .slice none 0 0] ∧ Below w.heap.size w wr)
        (fun i _ => 4 - (intOf i).toNat)
      case atStart => exact ⟨0, Nat.zero_le _, rfl, by rw [nonceK_zero base m HL.out]; exact hA2, A2, B2⟩
      case round =>
        clear hA2 A2 B2
        obtain ⟨k, hk, rfl, A, R, BW⟩ := hrel
        by_cases hlt : k < 4
        · have hkI : (k : Int) < 4 := by omega
          have cx := (A.cell (11 - k)).trans (nonceK_at base m hlt)
          have fx := A.frozen (11 - k)
          have e11 : (11 - (k : Int)).toNat = 11 - k := by omega
          have S2 := fun n => (A.drew (n := n)).set (11 - k) (.int .u8 ((base.getD (11 - k) 0 ^^^ seqB m k).toNat : Int))
          rw [nonceK_set base m hlt] at S2
          have R2 := fun n => (R.drew (n := n)).setOther (a := ⟨w.heap.size + 1, 11 - k, none⟩) (by show w.heap.size ≠ w.heap.size + 1; omega) (.int .u8 ((base.getD (11 - k) 0 ^^^ seqB m k).toNat : Int))
          have B2 := fun n => (below_drewN BW n).setCell (p := ⟨w.heap.size + 1, 11 - k, none⟩) (by show w.heap.size ≤ w.heap.size + 1; omega) (.int .u8 ((base.getD (11 - k) 0 ^^^ seqB m k).toNat : Int))
          have hxo := u8_xorv (base.getD (11 - k) 0) (seqB m k)
          rw [seqB_int m k] at hxo
          clear A R BW
          generalize base.getD (11 - k) 0 ^^^ seqB m k = xy at *
          generalize base.getD (11 - k) 0 = x at *
          go_wp2_with fail
          refine wp_region_tail (C := fun w' => ∃ k, w' = wr.drewN k) 12 rfl rfl rfl (by kernel_rfl) (by kernel_rfl) (by kernel_rfl) (by kernel_rfl) ⟨1, rfl⟩ ?_
          simp only [List.take_succ_cons, List.take_zero]
          repeat (go_big_quiet_step (fail))
          refine wpQuiet_nil ?_
          rintro w' ⟨nq, rfl⟩ K hK
          go_wp2_with fail
          go_roundw
          case rel => first | exact ⟨k + 1, by omega, by go_num, S2 nq, R2 nq, B2 nq⟩ | ((repeat apply Exists.intro); refine ⟨?_, rfl⟩; exact ⟨k + 1, by omega, by go_num, S2 nq, R2 nq, B2 nq⟩)
          case measure => simp [intOf]; omega
        · have e : k = 4 := by omega
          subst e
          rw [nonceK_all base m HQ.out] at A
          have HB : Hid ((nonceN base m).length = 12) := nonceN_len _ _
          have ho := A.own (Nat.le_refl _) (by rw [HB.out]; decide)
          rw [HB.out] at ho
          have c0 := R.cell 0
          have c1 := R.cell 1
          have fz := R.frozen
          simp at c0 c1
          clear A R HQ
          go_wp2_with fail
          refine bodyPost_ret (v := .agg #[.int .i64 0, .slice (some ⟨w.heap.size + 1, 0, none⟩) 12 12]) (by simp [results, Try.results15, go_sem, c0, c1]) rfl ⟨_, rfl, ?_, (BW.setCell (Nat.le_refl _) _).setCell (Nat.le_refl _) _⟩
          exact ((ho.set (Nat.lt_succ_self _) _).set (Nat.lt_succ_self _) _).lower (Nat.le_succ _)
  · have d1 : ((base.length : Int) != 12) = true := by rw [bne_iff_ne]; omega
    rw [show nfC base seq = 1 by simp [nfC, h1], show nfL base seq = [] by simp [nfL, h1]]
    clear h1
    go_enter Try.func15, Try.ntmps15
    go_wp2
    exact bodyPost_ret (v := .agg #[.int .i64 1, .slice none 0 0]) (by simp [results, Try.results15, go_sem]) rfl ⟨_, rfl, Own_nil _ _, alloc_below _ _⟩

theorem pl_at (a b c d : Int) {k : Nat} (h : k < 4) : (#[Value.int .i64 a, .int .i64 b, .int .i64 c, .int .i64 d] : Array Value)[k]? = some (.int .i64 (atI [a, b, c, d] k)) := by
  match k, h with
  | 0, _ => rfl
  | 1, _ => rfl
  | 2, _ => rfl
  | 3, _ => rfl
theorem pl_all {a b c d : Int} (h : ∀ j, j < 4 → in16 (atI [a, b, c, d] j) = true) : (in16 a && (in16 b && (in16 c && in16 d))) = true := by
  have h0 : in16 a = true := h 0 (by decide)
  have h1 : in16 b = true := h 1 (by decide)
  have h2 : in16 c = true := h 2 (by decide)
  have h3 : in16 d = true := h 3 (by decide)
  simp [h0, h1, h2, h3]
theorem pl_not {a b c d : Int} {k : Nat} (hk : k < 4) (h : in16 (atI [a, b, c, d] k) = false) : (in16 a && (in16 b && (in16 c && in16 d))) = false := by
  match k, hk with
  | 0, _ => have h0 : in16 a = false := h; simp [h0]
  | 1, _ => have h0 : in16 b = false := h; simp [h0]
  | 2, _ => have h0 : in16 c = false := h; simp [h0]
  | 3, _ => have h0 : in16 d = false := h; simp [h0]

set_option maxRecDepth 4000 in
set_option maxHeartbeats 1000000 in
theorem allPlaces_c (a b c d : Int) (w : World) :
    Calls Try.prog 25 #[.agg #[.int .i64 a, .int .i64 b, .int .i64 c, .int .i64 d]] w fun e w' => e = .returned (.bool (in16 a && (in16 b && (in16 c && in16 d)))) ∧ Below w.heap.size w w' := by
  obtain ⟨bb, HBB⟩ := known_of (in16 a && (in16 b && (in16 c && in16 d)))
  rw [← HBB.eq]
  go_enter Try.func25, Try.ntmps25
  go_wp2_with fail
  go_loopw [6] (fun i wr => ∃ k : Nat, k ≤ 4 ∧ i = .int .i64 k ∧ (∀ j, j < k → in16 (atI [a, b, c, d] j) = true) ∧ Below w.heap.size w wr)
    (fun i _ => 4 - (intOf i).toNat)
  case atStart => exact ⟨0, Nat.zero_le _, rfl, fun j hj => absurd hj (Nat.not_lt_zero _), alloc_below _ _⟩
  case round =>
    obtain ⟨k, hk, rfl, hall, BW⟩ := hrel
    by_cases hlt : k < 4
    · have hkI : (k : Int) < 4 := by omega
      have hx := pl_at a b c d hlt
      cases hb : in16 (atI [a, b, c, d] k)
      · have HN : Hid (bb = false) := by show _ = _; rw [HBB.eq]; exact pl_not hlt hb
        have hv : atI [a, b, c, d] k < 0 ∨ 16 ≤ atI [a, b, c, d] k := by simp [in16, inB] at hb; omega
        generalize atI [a, b, c, d] k = v at *
        clear hb hall
        rcases hv with hv | hv
        · go_wp2_with (refine wpList_index_arr rfl 45 (.tmp 5) (.tmp 6) rfl 4 2 _ k .i64 .i64 (.int .i64 v) rfl rfl Try.underlying45 hlt (by kernel_rfl) Try.underlying2 hx ?_)
          go_ret
          exact ⟨by rw [HN.out]; rfl, BW⟩
        · have hv0 : ¬ v < 0 := by omega
          go_wp2_with (refine wpList_index_arr rfl 45 (.tmp 5) (.tmp 6) rfl 4 2 _ k .i64 .i64 (.int .i64 v) rfl rfl Try.underlying45 hlt (by kernel_rfl) Try.underlying2 hx ?_)
          go_ret
          exact ⟨by rw [HN.out]; rfl, BW⟩
      · have hv : 0 ≤ atI [a, b, c, d] k ∧ atI [a, b, c, d] k < 16 := by simp [in16, inB] at hb; omega
        have hall2 : Hid (∀ j, j < k + 1 → in16 (atI [a, b, c, d] j) = true) := fun j hj => by by_cases h : j < k; exact hall j h; rw [show j = k by omega]; exact hb
        clear hall hb
        generalize atI [a, b, c, d] k = v at *
        obtain ⟨v0, v1⟩ := hv
        go_wp2_with (refine wpList_index_arr rfl 45 (.tmp 5) (.tmp 6) rfl 4 2 _ k .i64 .i64 (.int .i64 v) rfl rfl Try.underlying45 hlt (by kernel_rfl) Try.underlying2 hx ?_)
        go_roundw
        case rel => exact ⟨k + 1, by omega, by go_num, hall2.out, BW⟩
        case measure => simp [intOf]; omega
    · have e : k = 4 := by omega
      subst e
      have HN : Hid (bb = true) := by show _ = _; rw [HBB.eq]; exact pl_all hall
      clear hall
      go_wp2_with fail
      go_ret
      exact ⟨by rw [HN.out]; rfl, BW⟩

theorem pl_alike {a b c d : Int} {i j : Nat} (hi : i < 4) (hj : j < i) (h : atI [a, b, c, d] i = atI [a, b, c, d] j) : qrSame a b c d = true := by
  match i, j, hi, hj with
  | 1, 0, _, _ => have h0 : b = a := h; subst h0; simp [qrSame]
  | 2, 0, _, _ => have h0 : c = a := h; subst h0; simp [qrSame]
  | 2, 1, _, _ => have h0 : c = b := h; subst h0; simp [qrSame]
  | 3, 0, _, _ => have h0 : d = a := h; subst h0; simp [qrSame]
  | 3, 1, _, _ => have h0 : d = b := h; subst h0; simp [qrSame]
  | 3, 2, _, _ => have h0 : d = c := h; subst h0; simp [qrSame]
theorem pl_other {a b c d : Int} (h : ∀ i, i < 4 → ∀ j, j < i → atI [a, b, c, d] i ≠ atI [a, b, c, d] j) : qrSame a b c d = false := by
  have h1 : b ≠ a := h 1 (by decide) 0 (by decide)
  have h2 : c ≠ a := h 2 (by decide) 0 (by decide)
  have h3 : c ≠ b := h 2 (by decide) 1 (by decide)
  have h4 : d ≠ a := h 3 (by decide) 0 (by decide)
  have h5 : d ≠ b := h 3 (by decide) 1 (by decide)
  have h6 : d ≠ c := h 3 (by decide) 2 (by decide)
  simp [qrSame, Ne.symm h1, Ne.symm h2, Ne.symm h3, Ne.symm h4, Ne.symm h5, Ne.symm h6]

set_option maxRecDepth 4000 in
set_option maxHeartbeats 1000000 in
theorem twoAlike_c (a b c d : Int) (w : World) :
    Calls Try.prog 26 #[.agg #[.int .i64 a, .int .i64 b, .int .i64 c, .int .i64 d]] w fun e w' => e = .returned (.bool (qrSame a b c d)) ∧ Below w.heap.size w w' := by
  obtain ⟨bb, HBB⟩ := known_of (qrSame a b c d)
  rw [← HBB.eq]
  have A0 := Arr.new w [.int .i64 a, .int .i64 b, .int .i64 c, .int .i64 d] 45
  go_enter Try.func26, Try.ntmps26
  go_wp2_with fail
  go_loopw [5] (fun i wr => ∃ k : Nat, k ≤ 4 ∧ i = .int .i64 k ∧ (∀ i, i < k → ∀ j, j < i → atI [a, b, c, d] i ≠ atI [a, b, c, d] j) ∧ Arr wr w.heap.size 45 [.int .i64 a, .int .i64 b, .int .i64 c, .int .i64 d] ∧ Below w.heap.size w wr)
    (fun i _ => 4 - (intOf i).toNat)
  case atStart => exact ⟨0, Nat.zero_le _, rfl, fun j hj => absurd hj (Nat.not_lt_zero _), A0, alloc_below _ _⟩
  case round =>
    clear A0
    obtain ⟨k, hk, rfl, hall, A, BW⟩ := hrel
    by_cases hlt : k < 4
    · have hkI : (k : Int) < 4 := by omega
      have HALL : Hid (∀ i, i < k → ∀ j, j < i → atI [a, b, c, d] i ≠ atI [a, b, c, d] j) := hall
      clear hall
      go_wp2_with fail
      go_loopw [9] (fun i wr => ∃ m : Nat, m ≤ k ∧ i = .int .i64 m ∧ (∀ j, j < m → atI [a, b, c, d] k ≠ atI [a, b, c, d] j) ∧ Arr wr w.heap.size 45 [.int .i64 a, .int .i64 b, .int .i64 c, .int .i64 d] ∧ Below w.heap.size w wr)
        (fun i _ => k - (intOf i).toNat)
      case atStart => exact ⟨0, Nat.zero_le _, rfl, fun j hj => absurd hj (Nat.not_lt_zero _), A, BW⟩
      case round =>
        clear A BW
        obtain ⟨m, hm, rfl, hmi, A, BW⟩ := hrel
        by_cases hml : m < k
        · have hmI : (m : Int) < (k : Int) := by omega
          have hmI4 : (m : Int) < 4 := by omega
          have ck := (A.cell k).trans ((List.getElem?_toArray (xs := [Value.int .i64 a, .int .i64 b, .int .i64 c, .int .i64 d])).symm.trans (pl_at a b c d hlt))
          have cm := (A.cell m).trans ((List.getElem?_toArray (xs := [Value.int .i64 a, .int .i64 b, .int .i64 c, .int .i64 d])).symm.trans (pl_at a b c d (show m < 4 by omega)))
          by_cases he : atI [a, b, c, d] k = atI [a, b, c, d] m
          · have HN : Hid (bb = true) := by show _ = _; rw [HBB.eq]; exact pl_alike hlt hml he
            have heq : (atI [a, b, c, d] k == atI [a, b, c, d] m) = true := by rw [beq_iff_eq]; exact he
            clear he hmi
            generalize atI [a, b, c, d] k = vk at *
            generalize atI [a, b, c, d] m = vm at *
            go_wp2_with fail
            go_region
            go_wp2_with fail
            go_ret
            exact ⟨by rw [HN.out]; rfl, BW.drew⟩
          · have heq : (atI [a, b, c, d] k == atI [a, b, c, d] m) = false := by rw [beq_eq_false_iff_ne]; exact he
            have HM : Hid (∀ j, j < m + 1 → atI [a, b, c, d] k ≠ atI [a, b, c, d] j) := fun j hj => by by_cases h : j < m; exact hmi j h; rw [show j = m by omega]; exact he
            clear he hmi
            generalize hvk : atI [a, b, c, d] k = vk at *
            generalize atI [a, b, c, d] m = vm at *
            go_wp2_with fail
            go_region
            go_wp2_with fail
            go_roundw
            case rel => exact ⟨m + 1, by omega, by go_num, HM.out, A, BW.drew⟩
            case measure => simp [intOf]; omega
        · have e : m = k := by omega
          subst e
          have HM : Hid (∀ i, i < m + 1 → ∀ j, j < i → atI [a, b, c, d] i ≠ atI [a, b, c, d] j) := fun i hi j hj => by by_cases h : i < m; exact HALL.out i h j hj; rw [show i = m by omega]; exact hmi j (by omega)
          clear hmi
          go_wp2_with fail
          go_roundw
          case rel => exact ⟨m + 1, by omega, by go_num, HM.out, A, BW⟩
          case measure => simp [intOf]; omega
    · have e : k = 4 := by omega
      subst e
      have HN : Hid (bb = false) := by show _ = _; rw [HBB.eq]; exact pl_other hall
      clear hall
      go_wp2_with fail
      go_ret
      exact ⟨by rw [HN.out]; rfl, BW⟩

theorem u32_of_n {l : List Int} (ha : l.all isW = true) : l.map u32z = (l.map Int.toNat).map u32v := by
  rw [List.map_map]
  apply List.map_congr_left
  intro x hx
  have h2 := (List.all_eq_true.1 ha) x hx
  simp [isW, inB] at h2
  simp [u32z, u32v]
  omega
set_option maxRecDepth 4000 in
set_option maxHeartbeats 2000000 in
theorem implQR_c (p : Option Addr) (q : Nat) (l : List Int) (a b c d : Int) (w : World) (hr : RdI w p q l) :
    Calls Try.prog 7 #[.slice p l.length q, .int .i64 a, .int .i64 b, .int .i64 c, .int .i64 d] w fun e w' => ∃ u, e = .returned (.agg #[.int .i64 (qrC l a b c d), u]) ∧ OwnI w' w.heap.size u (qrL l a b c d) ∧ Below w.heap.size w w' := by
  by_cases h : l.length = 16
  · have d1 : ((l.length : Int) != 16) = false := by rw [bne_eq_false_iff_eq]; omega
    have HL : Hid (l.length = 16) := h
    have KW : Hid (∀ w, RdI w p q l → Calls Try.prog 24 #[.slice p l.length q] w fun e w' => e = .returned (.bool (l.all isW)) ∧ w' = w) := fun w h => allWords_c p q l w h
    have KP : Hid (∀ w, Calls Try.prog 25 #[.agg #[.int .i64 a, .int .i64 b, .int .i64 c, .int .i64 d]] w fun e w' => e = .returned (.bool (in16 a && (in16 b && (in16 c && in16 d)))) ∧ Below w.heap.size w w') := fun w => allPlaces_c a b c d w
    have KT : Hid (∀ w, Calls Try.prog 26 #[.agg #[.int .i64 a, .int .i64 b, .int .i64 c, .int .i64 d]] w fun e w' => e = .returned (.bool (qrSame a b c d)) ∧ Below w.heap.size w w') := fun w => twoAlike_c a b c d w
    have HR : Hid (RdI w p q l) := hr
    clear hr h
    cases hal : l.all isW
    · have hqc : Hid (qrC l a b c d = 3) := by show _ = _; simp [qrC, qrOk, HL.out, hal]
      have hql : Hid (qrL l a b c d = []) := by show _ = _; simp [qrL, hqc.out]
      have BW0 : Below w.heap.size w ((w.alloc (.cells #[.int .i64 0, .slice none 0 0] 24)).alloc (.cells #[.int .i64 a, .int .i64 b, .int .i64 c, .int .i64 d] 45)) := Below.mk (alloc_below _ _) _
      have A0 : Arr ((w.alloc (.cells #[.int .i64 0, .slice none 0 0] 24)).alloc (.cells #[.int .i64 a, .int .i64 b, .int .i64 c, .int .i64 d] 45)) w.heap.size 24 [.int .i64 0, .slice none 0 0] := (Arr.new w [.int .i64 0, .slice none 0 0] 24).old _ _
      have P0 : Arr ((w.alloc (.cells #[.int .i64 0, .slice none 0 0] 24)).alloc (.cells #[.int .i64 a, .int .i64 b, .int .i64 c, .int .i64 d] 45)) (w.heap.size + 1) 45 [.int .i64 a, .int .i64 b, .int .i64 c, .int .i64 d] := by
        have h := Arr.new (w.alloc (.cells #[.int .i64 0, .slice none 0 0] 24)) [.int .i64 a, .int .i64 b, .int .i64 c, .int .i64 d] 45
        rw [size_alloc] at h
        exact h
      go_enter Try.func7, Try.ntmps7
      go_wp2_with fail
      refine (KW.out _ (HR.out.keep BW0)).mono ?_
      rintro e w1 ⟨rfl, hw⟩
      subst hw
      rw [hal]
      generalize ((w.alloc (.cells #[.int .i64 0, .slice none 0 0] 24)).alloc (.cells #[.int .i64 a, .int .i64 b, .int .i64 c, .int .i64 d] 45)) = w1 at *
      have c0 := A0.cell 0
      have c1 := A0.cell 1
      have fz := A0.frozen
      simp at c0 c1
      go_wp2
      exact bodyPost_ret (v := .agg #[.int .i64 3, .slice none 0 0]) (by simp [results, Try.results7, go_sem, c0, c1]) rfl ⟨_, by rw [hqc.out], by rw [hql.out]; exact OwnI_nil _ _, (BW0.setCell (Nat.le_refl _) _).setCell (Nat.le_refl _) _⟩
    · cases hpl : (in16 a && (in16 b && (in16 c && in16 d)))
      · have hqc : Hid (qrC l a b c d = 3) := by show _ = _; simp only [qrC, qrOk, HL.out, hal, hpl]; rfl
        have hql : Hid (qrL l a b c d = []) := by show _ = _; simp [qrL, hqc.out]
        have BW0 : Below w.heap.size w ((w.alloc (.cells #[.int .i64 0, .slice none 0 0] 24)).alloc (.cells #[.int .i64 a, .int .i64 b, .int .i64 c, .int .i64 d] 45)) := Below.mk (alloc_below _ _) _
        have A0 : Arr ((w.alloc (.cells #[.int .i64 0, .slice none 0 0] 24)).alloc (.cells #[.int .i64 a, .int .i64 b, .int .i64 c, .int .i64 d] 45)) w.heap.size 24 [.int .i64 0, .slice none 0 0] := (Arr.new w [.int .i64 0, .slice none 0 0] 24).old _ _
        have P0 : Arr ((w.alloc (.cells #[.int .i64 0, .slice none 0 0] 24)).alloc (.cells #[.int .i64 a, .int .i64 b, .int .i64 c, .int .i64 d] 45)) (w.heap.size + 1) 45 [.int .i64 a, .int .i64 b, .int .i64 c, .int .i64 d] := by
          have h := Arr.new (w.alloc (.cells #[.int .i64 0, .slice none 0 0] 24)) [.int .i64 a, .int .i64 b, .int .i64 c, .int .i64 d] 45
          rw [size_alloc] at h
          exact h
        go_enter Try.func7, Try.ntmps7
        go_wp2_with fail
        refine (KW.out _ (HR.out.keep BW0)).mono ?_
        rintro e w1 ⟨rfl, hw⟩
        subst hw
        rw [hal]
        generalize ((w.alloc (.cells #[.int .i64 0, .slice none 0 0] 24)).alloc (.cells #[.int .i64 a, .int .i64 b, .int .i64 c, .int .i64 d] 45)) = w1 at *
        have q0 := P0.cell 0
        have q1 := P0.cell 1
        have q2 := P0.cell 2
        have q3 := P0.cell 3
        simp at q0 q1 q2 q3
        go_wp2_with fail
        refine (KP.out _).mono ?_
        rintro e w2 ⟨rfl, hb2⟩
        rw [hpl]
        have A2 := A0.stay hb2
        have P2 := P0.stay hb2
        have BW2 := Below.step BW0 hb2
        clear q0 q1 q2 q3 A0 P0 BW0 hb2
        have c0 := A2.cell 0
        have c1 := A2.cell 1
        have fz := A2.frozen
        simp at c0 c1
        go_wp2
        exact bodyPost_ret (v := .agg #[.int .i64 3, .slice none 0 0]) (by simp [results, Try.results7, go_sem, c0, c1]) rfl ⟨_, by rw [hqc.out], by rw [hql.out]; exact OwnI_nil _ _, (BW2.setCell (Nat.le_refl _) _).setCell (Nat.le_refl _) _⟩
      · cases hsm : qrSame a b c d
        case' true =>
          have hqc : Hid (qrC l a b c d = 1) := by show _ = _; simp only [qrC, qrOk, HL.out, hal, hpl, hsm]; rfl
          have hql : Hid (qrL l a b c d = []) := by show _ = _; simp [qrL, hqc.out]
          have BW0 : Below w.heap.size w ((w.alloc (.cells #[.int .i64 0, .slice none 0 0] 24)).alloc (.cells #[.int .i64 a, .int .i64 b, .int .i64 c, .int .i64 d] 45)) := Below.mk (alloc_below _ _) _
          have A0 : Arr ((w.alloc (.cells #[.int .i64 0, .slice none 0 0] 24)).alloc (.cells #[.int .i64 a, .int .i64 b, .int .i64 c, .int .i64 d] 45)) w.heap.size 24 [.int .i64 0, .slice none 0 0] := (Arr.new w [.int .i64 0, .slice none 0 0] 24).old _ _
          have P0 : Arr ((w.alloc (.cells #[.int .i64 0, .slice none 0 0] 24)).alloc (.cells #[.int .i64 a, .int .i64 b, .int .i64 c, .int .i64 d] 45)) (w.heap.size + 1) 45 [.int .i64 a, .int .i64 b, .int .i64 c, .int .i64 d] := by
            have h := Arr.new (w.alloc (.cells #[.int .i64 0, .slice none 0 0] 24)) [.int .i64 a, .int .i64 b, .int .i64 c, .int .i64 d] 45
            rw [size_alloc] at h
            exact h
          go_enter Try.func7, Try.ntmps7
          go_wp2_with fail
          refine (KW.out _ (HR.out.keep BW0)).mono ?_
          rintro e w1 ⟨rfl, hw⟩
          subst hw
          rw [hal]
          generalize ((w.alloc (.cells #[.int .i64 0, .slice none 0 0] 24)).alloc (.cells #[.int .i64 a, .int .i64 b, .int .i64 c, .int .i64 d] 45)) = w1 at *
          have q0 := P0.cell 0
          have q1 := P0.cell 1
          have q2 := P0.cell 2
          have q3 := P0.cell 3
          simp at q0 q1 q2 q3
          go_wp2_with fail
          refine (KP.out _).mono ?_
          rintro e w2 ⟨rfl, hb2⟩
          rw [hpl]
          have A2 := A0.stay hb2
          have P2 := P0.stay hb2
          have BW2 := Below.step BW0 hb2
          clear q0 q1 q2 q3 A0 P0 BW0 hb2
          have q0 := P2.cell 0
          have q1 := P2.cell 1
          have q2 := P2.cell 2
          have q3 := P2.cell 3
          simp at q0 q1 q2 q3
          go_wp2_with fail
          refine (KT.out _).mono ?_
          rintro e w3 ⟨rfl, hb3⟩
          rw [hsm]
          have A3 := A2.stay hb3
          have BW3 := Below.step BW2 hb3
          clear q0 q1 q2 q3 A2 P2 BW2 hb3
          have c0 := A3.cell 0
          have c1 := A3.cell 1
          have fz := A3.frozen
          simp at c0 c1
          go_wp2
          exact bodyPost_ret (v := .agg #[.int .i64 1, .slice none 0 0]) (by simp [results, Try.results7, go_sem, c0, c1]) rfl ⟨_, by rw [hqc.out], by rw [hql.out]; exact OwnI_nil _ _, (BW3.setCell (Nat.le_refl _) _).setCell (Nat.le_refl _) _⟩
        case' false =>
          have hqc : Hid (qrC l a b c d = 0) := by show _ = _; simp only [qrC, qrOk, HL.out, hal, hpl, hsm]; rfl
          have hql : Known (qrL l a b c d) ((quarterN (l.map Int.toNat) a.toNat b.toNat c.toNat d.toNat).map Int.ofNat) := ⟨by simp [qrL, hqc.out]⟩
          simp only [Bool.and_eq_true] at hpl
          obtain ⟨na, ea, ba⟩ := nat16 hpl.1
          obtain ⟨nb, eb, bb⟩ := nat16 hpl.2.1
          obtain ⟨nc, ec, bc⟩ := nat16 hpl.2.2.1
          obtain ⟨nd, ed, bd⟩ := nat16 hpl.2.2.2
          replace ea : Known a (na : Int) := ⟨ea⟩
          replace eb : Known b (nb : Int) := ⟨eb⟩
          replace ec : Known c (nc : Int) := ⟨ec⟩
          replace ed : Known d (nd : Int) := ⟨ed⟩
          have hpl : (in16 a && (in16 b && (in16 c && in16 d))) = true := by simp [hpl]
          have BW0 : Below w.heap.size w ((w.alloc (.cells #[.int .i64 0, .slice none 0 0] 24)).alloc (.cells #[.int .i64 a, .int .i64 b, .int .i64 c, .int .i64 d] 45)) := Below.mk (alloc_below _ _) _
          have A0 : Arr ((w.alloc (.cells #[.int .i64 0, .slice none 0 0] 24)).alloc (.cells #[.int .i64 a, .int .i64 b, .int .i64 c, .int .i64 d] 45)) w.heap.size 24 [.int .i64 0, .slice none 0 0] := (Arr.new w [.int .i64 0, .slice none 0 0] 24).old _ _
          have P0 : Arr ((w.alloc (.cells #[.int .i64 0, .slice none 0 0] 24)).alloc (.cells #[.int .i64 a, .int .i64 b, .int .i64 c, .int .i64 d] 45)) (w.heap.size + 1) 45 [.int .i64 a, .int .i64 b, .int .i64 c, .int .i64 d] := by
            have h := Arr.new (w.alloc (.cells #[.int .i64 0, .slice none 0 0] 24)) [.int .i64 a, .int .i64 b, .int .i64 c, .int .i64 d] 45
            rw [size_alloc] at h
            exact h
          go_enter Try.func7, Try.ntmps7
          go_wp2_with fail
          refine (KW.out _ (HR.out.keep BW0)).mono ?_
          rintro e w1 ⟨rfl, hw⟩
          subst hw
          rw [hal]
          generalize ((w.alloc (.cells #[.int .i64 0, .slice none 0 0] 24)).alloc (.cells #[.int .i64 a, .int .i64 b, .int .i64 c, .int .i64 d] 45)) = w1 at *
          have q0 := P0.cell 0
          have q1 := P0.cell 1
          have q2 := P0.cell 2
          have q3 := P0.cell 3
          simp at q0 q1 q2 q3
          go_wp2_with fail
          refine (KP.out _).mono ?_
          rintro e w2 ⟨rfl, hb2⟩
          rw [hpl]
          have A2 := A0.stay hb2
          have P2 := P0.stay hb2
          have BW2 := Below.step BW0 hb2
          clear q0 q1 q2 q3 A0 P0 BW0 hb2
          have q0 := P2.cell 0
          have q1 := P2.cell 1
          have q2 := P2.cell 2
          have q3 := P2.cell 3
          simp at q0 q1 q2 q3
          go_wp2_with fail
          refine (KT.out _).mono ?_
          rintro e w3 ⟨rfl, hb3⟩
          rw [hsm]
          have A3 := A2.stay hb3
          have BW3 := Below.step BW2 hb3
          clear q0 q1 q2 q3 A2 P2 BW2 hb3
          have hzv : Hid (∀ w, (zeroValue 50).run Try.prog w = .ok (.agg z16.toArray) w) := (zero_of_info info_s16).1
          have hlt3 : Hid (w.heap.size < w3.heap.size) := A3.lt
          have F3 := Arr.new w3 z16 50
          have A4 := A3.old _ (.cells z16.toArray 50)
          have BW4 := Below.mk BW3 (.cells z16.toArray 50)
          obtain ⟨b1, o1, e1, hc1⟩ := HR.out.2.2.2 (by rw [HL.out]; decide)
          subst e1
          clear A3 BW3 KW KP KT hc1
          go_wp2_with (refine wpList_alloc_arr rfl 50 rfl _ hzv.out w3.heap.size rfl ?_)
          go_simp
          have HAL : Hid (l.all isW = true) := hal
          have hls : Hid (l.length = 16) := HL.out
          go_loopw [39] (fun i wr => ∃ k : Nat, k ≤ 16 ∧ i = .int .i64 k ∧ Arr wr w3.heap.size 50 (partV (l.map u32z) (.int .u32 0) k) ∧ Arr wr w.heap.size 24 [.int .i64 0, .slice none 0 0] ∧ Below w.heap.size w wr)
            (fun i _ => 16 - (intOf i).toNat)
          case atStart => exact ⟨0, Nat.zero_le _, rfl, by rw [partV_zero, List.length_map, HL.out]; exact F3, A4, BW4⟩
          case round =>
            clear F3 A4 BW4 hal
            obtain ⟨k, hk, rfl, S, A, BW⟩ := hrel
            by_cases hlt : k < 16
            · have hll : k < l.length := by rw [HL.out]; exact hlt
              have hlI : (k : Int) < (l.length : Int) := by omega
              have hkI : (k : Int) < 16 := by omega
              have hcx : wr.cell? ⟨w3.heap.size, k, none⟩ = some (.int .u32 0) := by rw [S.cell, partV_at _ _ k (by simp; exact hll)]
              have hfx := S.frozen k
              obtain ⟨b9, o9, e9, hc9⟩ := (HR.out.keep BW).2.2.2 (by omega)
              simp at e9
              obtain ⟨rfl, rfl⟩ := e9
              have hcy := hc9 k hll
              obtain ⟨h0, h1⟩ := isW_at HAL.out k
              have R := S.set k (.int .u32 (atI l k))
              rw [partV_set _ (u32z_at hll)] at R
              have RA := A.setOther (a := ⟨w3.heap.size, k, none⟩) (by show w.heap.size ≠ w3.heap.size; have := hlt3.out; omega) (.int .u32 (atI l k))
              have RB := BW.setCell (p := ⟨w3.heap.size, k, none⟩) (by show w.heap.size ≤ w3.heap.size; have := hlt3.out; omega) (.int .u32 (atI l k))
              clear S A BW hc9
              generalize atI l k = v at *
              go_wp2_with fail
              go_roundw
              case rel => exact ⟨k + 1, by omega, by go_num, R, RA, RB⟩
              case measure => simp [intOf]; omega
            · have e : k = 16 := by omega
              subst e
              have hge : ¬ ((16 : Int) < (l.length : Int)) := by have := HL.out; omega
              rw [show partV (l.map u32z) (.int .u32 0) 16 = l.map u32z by have := partV_all (l.map u32z) (.int .u32 0); rw [List.length_map, HL.out] at this; exact this, u32_of_n HAL.out] at S
              have HNL : Hid ((l.map Int.toNat).length = 16) := by show _ = _; rw [List.length_map, HL.out]
              have HNW : Hid (Words (l.map Int.toNat)) := (nat_words HAL.out).2
              rw [ea.eq, eb.eq, ec.eq, ed.eq] at hql
              simp only [Int.toNat_natCast] at hql
              generalize l.map Int.toNat = ln at *
              have hz3 := sz16.out ln HNL.out
              go_wp2_with (refine wpList_load_row rfl 50 (.tmp 12) rfl w3.heap.size rfl 50 _ (0, 0) _ S Try.underlying50 rfl hz3 ?_)
              refine (quarterTurned_l ln na nb nc nd _ _ _ _ ea.eq eb.eq ec.eq ed.eq _ HNL.out HNW.out ba bb bc bd).mono ?_
              rintro e w5 ⟨rfl, hb5⟩
              have HL0 : Hid ((quarterN ln na nb nc nd).length = 16) := by show _ = _; rw [quarterN_len, HNL.out]
              have HO0 : Hid (Words (quarterN ln na nb nc nd)) := quarterN_ok HNW.out _ _ _ _
              have A5 := A.stay hb5
              have BW5 := Below.step BW hb5
              rw [ea.eq, eb.eq, ec.eq, ed.eq]
              obtain ⟨s0, HS0⟩ := known_of (quarterN ln na nb nc nd)
              rw [← HS0.eq] at hql HL0 HO0 ⊢
              clear S A BW hb5 HS0 hz3
              have hlt1 : Hid (w.heap.size < w5.heap.size) := A5.lt
              have hzz := sz16.out s0 HL0.out
              have hzq : Hid (z16.toArray.size = (s0.map u32v).toArray.size) := by show _ = _; simp [HL0.out, z16_len]
              have D : Arr (w5.alloc (.cells z16.toArray 50)) w5.heap.size 50 z16 := Arr.new w5 z16 50
              have hrow := D.row (s0.map u32v)
              have A6 := (A5.old _ (.cells z16.toArray 50)).rowOther (k := w5.heap.size) (by have := hlt1.out; omega) (s0.map u32v).toArray
              have BW6 := Below.row (Below.mk BW5 (.cells z16.toArray 50)) (g := w5.heap.size) (by have := hlt1.out; omega) (s0.map u32v).toArray
              have hU : Hid (s0.map u32v = (s0.map Int.ofNat).map u32z) := by show _ = _; simp [u32v, u32z]
              clear BW5
              go_wp2_with (first
                | refine wpList_alloc_arr rfl 50 rfl _ hzv.out w5.heap.size rfl ?_
                | refine wpList_store_row rfl 50 (.tmp 15) (.tmp 54) rfl w5.heap.size (s0.map u32v).toArray rfl rfl 50 z16.toArray D hzz hzq.out (cells16 s0) ?_)
              refine (numbersOf_n w5.heap.size 16 50 (s0.map Int.ofNat) _ (by rw [List.length_map]; exact HL0.out) (by rw [← hU.out]; exact hrow) (allW_nat HO0.out) (by decide)).mono ?_
              rintro e w7 ⟨u, rfl, hown, hb7⟩
              obtain ⟨a9, cap9, rfl, -⟩ := hown.rd
              have m := A6.stay hb7
              have d0 := m.cell 0
              have d1 := m.cell 1
              have e0 := m.frozen
              simp at d0 d1
              have RB := Below.step BW6 hb7
              have hge := A6.lt
              clear A5 A6 hrow hb7 BW6 hU D
              go_wp2
              refine bodyPost_ret (v := .agg #[.int .i64 0, .slice a9 (s0.map Int.ofNat).length cap9]) (by simp [results, Try.results7, go_sem, d0, d1]) rfl ⟨_, by rw [hqc.out], ?_, (RB.setCell (Nat.le_refl _) _).setCell (Nat.le_refl _) _⟩
              rw [ea.eq, eb.eq, ec.eq, ed.eq, hql.eq]
              exact ((hown.set hge _).set hge _).lower (Nat.le_of_lt hge)
  · rw [show qrC l a b c d = 1 by simp [qrC, h], show qrL l a b c d = [] by simp [qrL, qrC, h]]
    have d1 : ((l.length : Int) != 16) = true := by rw [bne_iff_ne]; omega
    clear h
    go_enter Try.func7, Try.ntmps7
    go_wp2
    exact bodyPost_ret (v := .agg #[.int .i64 1, .slice none 0 0]) (by simp [results, Try.results7, go_sem]) rfl ⟨_, rfl, OwnI_nil _ _, alloc_below _ _⟩

end Go.Proofs.Ytbgdhjeccdooiaa
