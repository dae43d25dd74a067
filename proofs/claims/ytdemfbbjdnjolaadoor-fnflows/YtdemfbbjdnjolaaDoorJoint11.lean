/- The contract of what hides in the specification: spec.l4Xor (hideN, in a row of its own). What was there stays. -/
import Derived.Test.YtdemfbbjdnjolaaDoorXorS
import Derived.Test.YtdemfbbjdnjolaaDoorMix
import Derived.Test.YtdemfbbjdnjolaaDoorJoint5
namespace Go.Proofs.YtdemfbbjdnjolaaDoor
open Go.ChangeShapes Go.WideShapes Go.ChangeAt Go.RowKit

/-- append(s, x...) where s lies in a row of its own, x can be read and is not empty: and where the new row lies. -/
theorem wpList_append_rd_at {w : World} {ops : Array Oper} {rest : List Oper} {o : Oper} {a : Act} {Q : Exit → Act → World → Prop} (hgd : o.guard = none) (s x : Operand)
    (ho : o.op = .call { callee := .builtin .append, args := #[s, x], argTypes := #[22, 22] })
    (B : Nat) (v : Value) (xs : List UInt8) (hs : a.eval s = v) (hown : Own w B v xs) (p : Option Addr) (q : Nat) (bs : List UInt8) (n : Nat) (hx : a.eval x = .slice p n q) (hn : bs.length = n) (hr : Rd w p q bs) (hp : 0 < n)
    (hl : xs.length + n ≤ 100000000) (hB : B ≤ w.heap.size)
    (h : ∀ g cap w', Own w' B (.slice (some ⟨g, 0, none⟩) (xs.length + n) cap) (xs ++ bs) → w.grownBy w' v.ownBlock → (v.ownBlock = some g ∨ g = w.heap.size) → wpList Tryd.prog ops Q rest (a.put o.dst (.slice (some ⟨g, 0, none⟩) (xs.length + n) cap)) w') : wpList Tryd.prog ops Q (o :: rest) a w := by
  subst hn
  obtain ⟨i0, hi, hz0, hz1, hz2⟩ := info_parts info8
  obtain ⟨ad, rfl, hc⟩ := hr.addr hp
  refine wpList_append_lies _ hgd s x _ ho B 5 i0 (.int .u8 0) 1 1 Tryd.underlying22 hi hz0 hz1 hz2 rfl (by decide) v xs.length (xs.map u8v) hs hown ad bs.length q (bs.map u8v) hx (by simp) hc (by intro u hu; obtain ⟨n, -, rfl⟩ := List.mem_map.1 hu; rfl) hp (by unfold maxLen; omega) (by omega) hB w.heap.size rfl ?_
  intro g cap w' ho' hg' hat _
  refine h g cap w' ?_ hg' hat
  unfold Own
  rw [List.length_append, List.map_append]
  exact ho'

set_option maxRecDepth 4000 in
set_option maxHeartbeats 2000000 in
theorem l4Xor_c (p p2 p3 : Option Addr) (q q2 q3 : Nat) (key nonce data : List UInt8) (w : World) (hr : Rd w p q key) (hr2 : Rd w p2 q2 nonce) (hr3 : Rd w p3 q3 data) (hk : key.length = 32) (hn : nonce.length = 12) (hd : data.length ≤ 1000) :
    Calls Tryd.prog 66 #[.slice p 32 q, .slice p2 12 q2, .slice p3 data.length q3] w fun e w' => ∃ u, e = .returned u ∧ Own w' w.heap.size u (hideN key nonce data) ∧ Below w.heap.size w w' := by
  obtain ⟨i0, hi, hz0, hz1, hz2⟩ := info_parts info8
  have K : Hid (∀ (w : World) (c : Nat) (ci : Int), ci = c → c < 4294967296 → Rd w p q key → Rd w p2 q2 nonce → Calls Tryd.prog 80 #[.slice p 32 q, .slice p2 12 q2, .int .i64 ci] w fun e w' => ∃ u, e = .returned u ∧ Own w' w.heap.size u (blockS key nonce c) ∧ Below w.heap.size w w') := fun w c ci hc hcl h h' => by subst hc; exact l4Block_c p p2 q q2 key nonce c w h h' hk hn hcl
  have HR : Hid (Rd w p q key) := hr
  have HR2 : Hid (Rd w p2 q2 nonce) := hr2
  have HR3 : Hid (Rd w p3 q3 data) := hr3
  have O1 := (none_own8 w w.heap.size (Nat.le_refl _)).stay (alloc_below _ (.cells #[] 5))
  have BW : Below w.heap.size w ((w.alloc (.cells #[] 5)).alloc (.cells #[] 5)) := Below.mk (alloc_below _ _) _
  clear hr hr2 hr3 hk hn
  go_enter Tryd.func66, Tryd.ntmps66
  go_wp2_with fail
  go_loopw [7, 8, 9] (fun o l i wr => ∃ (j lb qb : Nat) (pb : Option Addr), j ≤ data.length ∧ i = .int .i64 j ∧ l = .slice pb lb qb ∧ (j % 64 = 0 ∨ (lb = 64 ∧ Rd wr pb qb (blockS key nonce (j / 64 + 1)) ∧ ∀ k, o.ownBlock = some k → ∀ y, pb = some y → y.block ≠ k)) ∧ Own wr w.heap.size o ((hideN key nonce data).take j) ∧ Below w.heap.size w wr)
    (fun _ _ i _ => data.length - (intOf i).toNat)
  case atStart => exact ⟨0, 0, 0, _, Nat.zero_le _, rfl, rfl, .inl rfl, O1, BW⟩
  case round =>
    clear O1 BW
    obtain ⟨j, lb, qb, pb, hj, rfl, rfl, hblk, ho, BW⟩ := hrel
    have HLo : Hid (((hideN key nonce data).take j).length = j) := by show _ = _; rw [List.length_take, hideN_len]; omega
    obtain ⟨po, qo, rfl, -⟩ := ho.rd
    rw [HLo.out] at ho ⊢
    by_cases hjl : j < data.length
    · have hjI : (j : Int) < (data.length : Int) := by omega
      have HS : Known ((hideN key nonce data).take (j + 1)) ((hideN key nonce data).take j ++ [data.getD j 0 ^^^ maskS key nonce j]) := ⟨hide_succ key nonce data hjl⟩
      by_cases h0 : j % 64 = 0
      case' pos =>
        have h0I : ((j : Int) % 64 == 0) = true := by rw [beq_iff_eq]; omega
        go_wp2_with fail
        refine (K.out _ (j / 64 + 1) _ (by omega) (by omega) (HR.out.keep BW) (HR2.out.keep BW)).mono ?_
        rintro e w1 ⟨u1, rfl, k1, hb1⟩
        obtain ⟨pB, qB, rfl, rB⟩ := k1.rd
        rw [blockS_len]
        have hlto := ho.lt
        have hneB : ∀ k, (Value.slice po j qo).ownBlock = some k → ∀ y, pB = some y → y.block ≠ k := fun k hk y hy e => by
          have h1 := hlto k hk
          subst hy
          obtain ⟨-, h2⟩ := k1
          rcases h2 with ⟨e2, -⟩ | ⟨g, c, cur, e2, hB, -⟩
          · simp at e2
          · simp at e2
            rw [e2.1] at e
            simp at e
            omega
        replace ho := ho.stay hb1
        replace BW := Below.step BW hb1
        clear hb1 k1 hblk h0 h0I hlto
        go_wp2_with fail
        generalize w1 = W at *
      case' neg =>
        have h0I : ((j : Int) % 64 == 0) = false := by rw [beq_eq_false_iff_ne]; omega
        obtain ⟨hlb, rB, hneB⟩ := hblk.resolve_left h0
        subst hlb
        clear h0 hblk
        go_wp2_with fail
        generalize wr = W at *
        generalize pb = pB at *
        generalize qb = qB at *
      all_goals
        have HB : Hid ((blockS key nonce (j / 64 + 1)).length = 64) := blockS_len _ _ _
        obtain ⟨bb, ob, rfl, hcB⟩ := rB.2.2.2 (by rw [HB.out]; decide)
        have cB := hcB (j % 64) (by rw [HB.out]; omega)
        have hmB : Hid (at8 (blockS key nonce (j / 64 + 1)) (j % 64) = ((maskS key nonce j).toNat : Int)) := rfl
        rw [hmB.out] at cB
        obtain ⟨b3, o3, e3, hc3⟩ := (HR3.out.keep BW).2.2.2 (by omega)
        have c3 := hc3 j hjl
        have hm3 : Hid (at8 data j = ((data.getD j 0).toNat : Int)) := rfl
        rw [hm3.out] at c3
        have hxo := u8_xorv (data.getD j 0) (maskS key nonce j)
        have er : (j : Int) % 64 = ((j % 64 : Nat) : Int) := by omega
        have hr64 : j % 64 < 64 := by omega
        have hnx : Hid ((j + 1) % 64 = 0 ∨ (j + 1) / 64 = j / 64) := by show _ ∨ _; omega
        generalize hjr : j % 64 = r at *
        have hi0 : (0 : Int) ≤ (r : Int) := by omega
        have hi1 : (r : Int) < 64 := by omega
        have hqB : 64 ≤ qB := by have := rB.1; rw [HB.out] at this; exact this
        have HRB : Hid (Rd W (some ⟨bb, ob, none⟩) qB (blockS key nonce (j / 64 + 1))) := rB
        have HNE : Hid (∀ k, (Value.slice po j qo).ownBlock = some k → bb ≠ k) := fun k hk => hneB k (by first | exact hk | (cases po <;> simp [Value.ownBlock] at hk ⊢; exact hk)) _ rfl
        have HOW : Hid (Own W w.heap.size (.slice po j qo) ((hideN key nonce data).take j)) := ho
        subst e3
        generalize data.getD j 0 = x at *
        generalize maskS key nonce j = y at *
        obtain ⟨xs, hxs⟩ : ∃ xs, Hid (xs = (hideN key nonce data).take j) := ⟨_, rfl⟩
        rw [← hxs.out] at HOW HLo
        clear hcB hc3 rB hneB HB hmB hm3 ho hjr hr64
        replace c3 := HW.at c3
        replace cB := HW.at cB
        have hne := HW.some W
        refine wp_region_mix 11 1 2 rfl (by kernel_rfl) (by kernel_rfl) (by kernel_rfl) (by kernel_rfl) (by kernel_rfl) ?_
        simp only [List.take_succ_cons, List.take_zero]
        repeat (go_big_quiet_step (fail))
        refine wpQuiet_nil ?_
        refine wpM_make (k := 11) rfl (by kernel_rfl) (by kernel_rfl) (by go_simp) ?_
        rintro _ ⟨sg, rfl⟩
        refine ⟨.slice (some ⟨sg.w.heap.size, 0, none⟩) 1 1, sg.w.alloc (.cells #[.int .u8 ((x ^^^ y).toNat : Int)] 5), by go_simp, ⟨⟨_, alloc_below _ _⟩, rfl⟩, ?_⟩
        refine wpM_tail rfl (by kernel_rfl) (by decide) ?_
        rintro _ ⟨sh, rfl⟩
        simp only [List.drop_succ_cons, List.drop_zero]
        have B2 := Below.step (Below.mk sg.h (.cells #[.int .u8 ((x ^^^ y).toNat : Int)] 5)) sh.h
        have hOs := HOW.out.stay B2
        have hR1 := (rd_one sg.w (x ^^^ y) 5 _ rfl).keep sh.h
        have hRB := HRB.out.keep B2
        have BWs := Below.step BW B2
        generalize sh.w = W2 at *
        generalize sg.w.heap.size = n1 at *
        clear c3 cB hne B2 BW sh sg HOW HRB
        have HNB : Hid (bb < W2.heap.size) := by
          obtain ⟨b9, o9, e9, h9⟩ := hRB.2.2.2 (by rw [blockS_len]; decide)
          simp at e9
          obtain ⟨rfl, rfl⟩ := e9
          exact World.block_lt_of_cell? W2 _ (h9 0 (by rw [blockS_len]; decide))
        go_simp
        go_wp2_with (at_builtin; go_loud (refine wpList_append_rd_at rfl (.tmp 27) (.tmp 38) rfl w.heap.size (.slice po j qo) xs rfl hOs _ 1 [x ^^^ y] 1 rfl rfl hR1 (by decide) (by have := HLo.out; omega) BWs.size ?_); intro g5 c5 w5 k5 hg5 hat5)
        have rd5 := hRB.other hg5 (fun _ z hz e => by
          simp at hz
          subst hz
          exact HNE.out _ e rfl)
        have BW5 := BWs.grown hg5 BWs.size (fun k hk => hOs.ge k hk)
        have hne5 : Hid (bb ≠ g5) := by
          rcases hat5 with h | h
          · exact HNE.out _ h
          · have := HNB.out; intro e; omega
        rw [HLo.out] at k5 ⊢
        rw [hxs.out, ← HS.eq] at k5
        clear hg5 hat5 hOs hRB hR1 BWs HNE HNB hxo er hi0 hi1
        go_roundw
        case rel =>
          refine ⟨j + 1, 64, qB, some ⟨bb, ob, none⟩, by omega, by go_num, rfl, ?_, k5, BW5⟩
          rcases hnx.out with h | h
          · exact .inl h
          · refine .inr ⟨rfl, by rw [h]; exact rd5, fun k hk y hy => ?_⟩
            simp at hy
            subst hy
            simp [Value.ownBlock] at hk
            subst hk
            exact hne5.out
        case measure => simp [intOf]; omega
    · have e : j = data.length := by omega
      subst e
      have hT : (hideN key nonce data).take data.length = hideN key nonce data := List.take_of_length_le (by rw [hideN_len]; exact Nat.le_refl _)
      rw [hT] at ho
      go_wp2_with fail
      go_ret
      exact ⟨_, rfl, ho, BW⟩
end Go.Proofs.YtdemfbbjdnjolaaDoor

/- The contracts of chapter 4's functions in the specification, at every argument: StartState, StreamBlock, NonceFor: code and list or bytes. -/
namespace Go.Proofs.YtdemfbbjdnjolaaDoor
open Go.ChangeShapes Go.WideShapes Go.ChangeAt Go.RowKit

/-- The code of a key, a nonce and a count. -/
def strC (key nonce : List UInt8) (count : Int) : Int := if key.length = 32 then (if nonce.length = 12 then (if inB count 0 4294967295 then 0 else 3) else 1) else 1
theorem strC_zero {key nonce : List UInt8} {count : Int} (h : strC key nonce count = 0) : key.length = 32 ∧ nonce.length = 12 ∧ inB count 0 4294967295 = true := by
  unfold strC at h
  split at h
  · rename_i h1
    split at h
    · rename_i h2
      split at h
      · rename_i h3
        exact ⟨h1, h2, h3⟩
      · cases h
    · cases h
  · cases h
theorem nat32 {n : Int} (h : inB n 0 4294967295 = true) : ∃ m : Nat, n = m ∧ m < 4294967296 := by
  simp [inB] at h
  exact ⟨n.toNat, by omega, by omega⟩


def ssL (key nonce : List UInt8) (count : Int) : List Int := if strC key nonce count = 0 then (startS key nonce count.toNat).map Int.ofNat else []
theorem ssL_len (key nonce : List UInt8) (count : Int) : (ssL key nonce count).length ≤ 1048576 := by
  unfold ssL; split
  · rw [List.length_map, startS_len]; decide
  · simp
def sbL (key nonce : List UInt8) (count : Int) : List UInt8 := if strC key nonce count = 0 then blockS key nonce count.toNat else []
theorem sbL_len (key nonce : List UInt8) (count : Int) : (sbL key nonce count).length ≤ 1048576 := by
  unfold sbL; split
  · rw [blockS_len]; decide
  · simp



def nfC (base : List UInt8) (seq : Int) : Int := if base.length = 12 then (if inB seq 0 2147483648 then 0 else 3) else 1
def nfL (base : List UInt8) (seq : Int) : List UInt8 := if base.length = 12 ∧ inB seq 0 2147483648 = true then nonceN base seq.toNat else []
theorem nfL_len (base : List UInt8) (seq : Int) : (nfL base seq).length ≤ 1048576 := by
  unfold nfL; split
  · rw [nonceN_len]; decide
  · simp

end Go.Proofs.YtdemfbbjdnjolaaDoor

/- The contracts of StreamXor and QuarterRound in the specification, at every argument: code and bytes or list. -/
namespace Go.Proofs.YtdemfbbjdnjolaaDoor
open Go.ChangeShapes Go.WideShapes Go.ChangeAt Go.RowKit

def sxC (key nonce data : List UInt8) : Int := if strC key nonce 0 = 0 then (if data.length ≤ 220 then 0 else 2) else 1
def sxL (key nonce data : List UInt8) : List UInt8 := if sxC key nonce data = 0 then hideN key nonce data else []
theorem strC_one {key nonce : List UInt8} (h : ¬ strC key nonce 0 = 0) : strC key nonce 0 = 1 := by
  have hi : inB 0 0 4294967295 = true := by decide
  unfold strC at *
  rw [hi] at *
  split
  · rename_i h1
    rw [if_pos h1] at h
    split
    · rename_i h2
      rw [if_pos h2] at h
      exact absurd rfl h
    · rfl
  · rfl
theorem sxC_zero {key nonce data : List UInt8} (h : sxC key nonce data = 0) : strC key nonce 0 = 0 ∧ data.length ≤ 220 := by
  unfold sxC at h
  split at h
  · rename_i h1
    split at h
    · rename_i h2
      exact ⟨h1, h2⟩
    · cases h
  · cases h
theorem sxL_len (key nonce data : List UInt8) : (sxL key nonce data).length ≤ 1048576 := by
  unfold sxL; split
  · rename_i h
    rw [hideN_len]
    have := (sxC_zero h).2
    omega
  · simp


def in16 (a : Int) : Bool := inB a 0 15
def qrOk (l : List Int) (a b c d : Int) : Bool := l.all isW && (in16 a && (in16 b && (in16 c && in16 d)))
def qrSame (a b c d : Int) : Bool := (a == b) || ((a == c) || ((a == d) || ((b == c) || ((b == d) || (c == d)))))
def qrC (l : List Int) (a b c d : Int) : Int := if l.length = 16 then (if qrOk l a b c d then (if qrSame a b c d then 1 else 0) else 3) else 1
def qrL (l : List Int) (a b c d : Int) : List Int := if qrC l a b c d = 0 then (quarterN (l.map Int.toNat) a.toNat b.toNat c.toNat d.toNat).map Int.ofNat else []
theorem qrC_zero {l : List Int} {a b c d : Int} (h : qrC l a b c d = 0) : l.length = 16 ∧ qrOk l a b c d = true ∧ qrSame a b c d = false := by
  unfold qrC at h
  split at h
  · rename_i h1
    split at h
    · rename_i h2
      split at h
      · cases h
      · rename_i h3
        exact ⟨h1, h2, by simpa using h3⟩
    · cases h
  · cases h
theorem qrL_len (l : List Int) (a b c d : Int) : (qrL l a b c d).length ≤ 1048576 := by
  unfold qrL; split
  · rename_i h
    rw [List.length_map, quarterN_len, List.length_map, (qrC_zero h).1]; decide
  · simp

theorem nat16 {a : Int} (h : in16 a = true) : ∃ n : Nat, a = n ∧ n < 16 := by
  simp [in16, inB] at h
  exact ⟨a.toNat, by omega, by omega⟩
theorem nat_words {l : List Int} (h : l.all isW = true) : (l.map Int.toNat).map Int.ofNat = l ∧ Words (l.map Int.toNat) := by
  constructor
  · rw [List.map_map]
    conv => rhs; rw [← List.map_id l]
    apply List.map_congr_left
    intro x hx
    have h2 := (List.all_eq_true.1 h) x hx
    simp [isW, inB] at h2
    simp
    omega
  · intro y hy
    obtain ⟨x, hx, rfl⟩ := List.mem_map.1 hy
    have h2 := (List.all_eq_true.1 h) x hx
    simp [isW, inB] at h2
    omega

end Go.Proofs.YtdemfbbjdnjolaaDoor

