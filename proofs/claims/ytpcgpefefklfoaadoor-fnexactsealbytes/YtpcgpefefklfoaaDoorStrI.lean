/- The contracts of chapter 4's functions in the program, at every argument: startOf, StreamBlock, StartState, hidden, StreamXor, NonceFor, allPlaces, twoAlike, QuarterRound: code and bytes or list, as in the specification. -/
import Derived.Test.YtpcgpefefklfoaaDoorStrH
namespace Go.Proofs.YtpcgpefefklfoaaDoor
open Go.ChangeShapes Go.WideShapes Go.ChangeAt Go.RowKit
/-- Words, then zeros, 16 in all. -/
def fill16 (ws : List Nat) : List Nat := ws ++ List.replicate (16 - ws.length) 0
theorem fill16_len {ws : List Nat} (h : ws.length ≤ 16) : (fill16 ws).length = 16 := by simp [fill16]; omega
theorem fill16_set (ws : List Nat) (x i : Nat) (hi : ws.length = i) (h : i < 16) : (fill16 ws).set i x = fill16 (ws ++ [x]) := by
  unfold fill16
  subst hi
  rw [List.set_append_right _ _ (Nat.le_refl _), Nat.sub_self, show 16 - ws.length = (16 - (ws ++ [x]).length) + 1 by simp; omega, List.replicate_succ, List.set_cons_zero, List.append_assoc]
  rfl
theorem fill16_all {ws : List Nat} (h : ws.length = 16) : fill16 ws = ws := by simp [fill16, h]
theorem fill16_head : (fill16 headS).map u32v = [.int .u32 1634760805, .int .u32 857760878, .int .u32 2036477234, .int .u32 1797285236, .int .u32 0, .int .u32 0, .int .u32 0, .int .u32 0, .int .u32 0, .int .u32 0, .int .u32 0, .int .u32 0, .int .u32 0, .int .u32 0, .int .u32 0, .int .u32 0] := by rfl

theorem low4_rest (bs : List UInt8) (k m : Nat) (h : 4 ≤ m) : low4 ((bs.drop (4 * k)).take m) 0 = low4 bs k := by
  unfold low4
  simp only [List.getD_eq_getElem?_getD, List.getElem?_take, List.getElem?_drop]
  simp [show 0 < m by omega, show 1 < m by omega, show 2 < m by omega, show 3 < m by omega]
set_option maxRecDepth 4000 in
set_option maxHeartbeats 1000000 in
theorem startOf_c (p p2 : Option Addr) (q q2 : Nat) (key nonce : List UInt8) (count : Nat) (w : World) (hr : Rd w p q key) (hr2 : Rd w p2 q2 nonce) (hk : key.length = 32) (hn : nonce.length = 12) :
    Calls Tryd.prog 59 #[.slice p 32 q, .slice p2 12 q2, .int .u32 (count : Int)] w fun e w' => e = .returned (.agg ((startS key nonce count).map u32v).toArray) ∧ Below w.heap.size w w' := by
  obtain ⟨b1, o1, rfl, -⟩ := hr.2.2.2 (by omega)
  obtain ⟨b2, o2, rfl, -⟩ := hr2.2.2.2 (by omega)
  have HR : Hid (Rd w (some ⟨b1, o1, none⟩) q key) := hr
  have HR2 : Hid (Rd w (some ⟨b2, o2, none⟩) q2 nonce) := hr2
  have HK : Hid (key.length = 32) := hk
  have HN : Hid (nonce.length = 12) := hn
  have hq : 32 ≤ q := by have := hr.1; omega
  have hq2 : 12 ≤ q2 := by have := hr2.1; omega
  have hm : q ≤ 2 ^ 63 - 1 := hr.2.1
  have hm2 : q2 ≤ 2 ^ 63 - 1 := hr2.2.1
  have hzv : Hid (∀ w, (zeroValue 74).run Tryd.prog w = .ok (.agg z16.toArray) w) := (zero_of_info info_s16).1
  clear hr hr2 hk hn
  go_enter Tryd.func59, Tryd.ntmps59
  go_wp2_with (refine wpList_alloc_arr rfl 74 rfl _ hzv.out w.heap.size rfl ?_)
  have BW : Below w.heap.size w ((w.alloc (.cells z16.toArray 74)).alloc (.cells ((fill16 headS).map u32v).toArray 74)) := Below.mk (alloc_below _ _) _
  have S : Arr ((w.alloc (.cells z16.toArray 74)).alloc (.cells ((fill16 headS).map u32v).toArray 74)) (w.heap.size + 1) 74 ((fill16 headS).map u32v) := by
    have h := Arr.new (w.alloc (.cells z16.toArray 74)) ((fill16 headS).map u32v) 74
    rw [size_alloc] at h
    exact h
  have Z : Arr ((w.alloc (.cells z16.toArray 74)).alloc (.cells ((fill16 headS).map u32v).toArray 74)) w.heap.size 74 z16 := (Arr.new w z16 74).old _ _
  rw [fill16_head] at BW S Z
  go_loopw [11] (fun i wr => ∃ k : Nat, k ≤ 8 ∧ i = .int .i64 k ∧ Arr wr (w.heap.size + 1) 74 ((fill16 (headS ++ lowsN key k)).map u32v) ∧ Arr wr w.heap.size 74 z16 ∧ Below w.heap.size w wr)
    (fun i _ => 8 - (intOf i).toNat)
  case atStart => exact ⟨0, Nat.zero_le _, rfl, by rw [show headS ++ lowsN key 0 = headS from rfl, fill16_head]; exact S, Z, BW⟩
  case round =>
    clear S Z BW
    obtain ⟨k, hk, rfl, S, Z, BW⟩ := hrel
    have HLn : Hid ((headS ++ lowsN key k).length = 4 + k) := by show _ = _; simp [headS, lowsN_len]; omega
    by_cases hlt : k < 8
    · have hkI : (k : Int) < 8 := by omega
      have hcut := (HR.out.keep BW).cut (4 * k) (32 - 4 * k) (q - 4 * k) (by rw [HK.out]; omega) (by omega) (by have := HR.out.2.1; omega)
      have h4 : Hid (((key.drop (4 * k)).take (32 - 4 * k)).length = 32 - 4 * k) := by show _ = _; have := HK.out; simp; omega
      have cx := S.at16 (a := 4 + k) (fill16_len (by rw [HLn.out]; omega)) (by omega)
      have fx := S.frozen (4 + k)
      have R := fun n => (S.drew (n := n)).put16 (4 + k) (low4 key k)
      rw [fill16_set _ _ _ HLn.out (by omega), show headS ++ lowsN key k ++ [low4 key k] = headS ++ lowsN key (k + 1) by rw [lowsN_succ, List.append_assoc]] at R
      have RZ := fun n => (Z.drew (n := n)).setOther (a := ⟨w.heap.size + 1, 4 + k, none⟩) (by show w.heap.size ≠ w.heap.size + 1; omega) (.int .u32 (low4 key k : Nat))
      have RB := fun n => (below_drewN BW n).setCell (p := ⟨w.heap.size + 1, 4 + k, none⟩) (by show w.heap.size ≤ w.heap.size + 1; omega) (.int .u32 (low4 key k : Nat))
      have e4 : (4 + (k : Int)).toNat = 4 + k := by omega
      clear S Z BW
      generalize (fill16 (headS ++ lowsN key k)).getD (4 + k) 0 = x0 at *
      go_wp2_with fail
      refine (lowFirstWord_c b1 (o1 + 4 * k) (32 - 4 * k) (q - 4 * k) _ _ hcut h4.out (by omega)).mono ?_
      rintro e w1 ⟨rfl, nn, rfl⟩
      rw [low4_rest key k (32 - 4 * k) (by omega)]
      clear hcut h4
      go_wp2_with fail
      go_roundw
      case rel => first | exact ⟨k + 1, by omega, by go_num, R nn, RZ nn, RB nn⟩ | ((repeat apply Exists.intro); refine ⟨?_, rfl⟩; exact ⟨k + 1, by omega, by go_num, R nn, RZ nn, RB nn⟩)
      case measure => simp [intOf]; omega
    · have e : k = 8 := by omega
      subst e
      have HL1 : Hid ((headS ++ lowsN key 8 ++ [count]).length = 13) := by show _ = _; simp [headS, lowsN_len]
      have cx := S.at16 (a := 12) (fill16_len (by rw [HLn.out]; omega)) (by omega)
      have fx := S.frozen 12
      have R := S.put16 12 count
      rw [fill16_set _ _ _ HLn.out (by omega)] at R
      have RZ := Z.setOther (a := ⟨w.heap.size + 1, 12, none⟩) (by show w.heap.size ≠ w.heap.size + 1; omega) (.int .u32 (count : Nat))
      have RB := BW.setCell (p := ⟨w.heap.size + 1, 12, none⟩) (by show w.heap.size ≤ w.heap.size + 1; omega) (.int .u32 (count : Nat))
      clear S Z BW HLn HR hlt hk
      obtain ⟨L0, EL⟩ := known_of (headS ++ lowsN key 8 ++ [count])
      rw [← EL.eq] at HL1 R
      generalize (fill16 (headS ++ lowsN key 8)).getD 12 0 = x0 at *
      go_wp2_with fail
      go_loopw [25] (fun i wr => ∃ k : Nat, k ≤ 3 ∧ i = .int .i64 k ∧ Arr wr (w.heap.size + 1) 74 ((fill16 (L0 ++ lowsN nonce k)).map u32v) ∧ Arr wr w.heap.size 74 z16 ∧ Below w.heap.size w wr)
        (fun i _ => 3 - (intOf i).toNat)
      case atStart => exact ⟨0, Nat.zero_le _, rfl, by rw [show L0 ++ lowsN nonce 0 = L0 from List.append_nil _]; exact R, RZ, RB⟩
      case round =>
        clear R RZ RB cx fx
        obtain ⟨k, hk, rfl, S, Z, BW⟩ := hrel
        have HLn : Hid ((L0 ++ lowsN nonce k).length = 13 + k) := by show _ = _; rw [List.length_append, lowsN_len, HL1.out]
        by_cases hlt : k < 3
        · have hkI : (k : Int) < 3 := by omega
          have hcut := (HR2.out.keep BW).cut (4 * k) (12 - 4 * k) (q2 - 4 * k) (by rw [HN.out]; omega) (by omega) (by have := HR2.out.2.1; omega)
          have h4 : Hid (((nonce.drop (4 * k)).take (12 - 4 * k)).length = 12 - 4 * k) := by show _ = _; have := HN.out; simp; omega
          have cx := S.at16 (a := 13 + k) (fill16_len (by rw [HLn.out]; omega)) (by omega)
          have fx := S.frozen (13 + k)
          have R := fun n => (S.drew (n := n)).put16 (13 + k) (low4 nonce k)
          rw [fill16_set _ _ _ HLn.out (by omega), show L0 ++ lowsN nonce k ++ [low4 nonce k] = L0 ++ lowsN nonce (k + 1) by rw [lowsN_succ, List.append_assoc]] at R
          have RZ := fun n => (Z.drew (n := n)).setOther (a := ⟨w.heap.size + 1, 13 + k, none⟩) (by show w.heap.size ≠ w.heap.size + 1; omega) (.int .u32 (low4 nonce k : Nat))
          have RB := fun n => (below_drewN BW n).setCell (p := ⟨w.heap.size + 1, 13 + k, none⟩) (by show w.heap.size ≤ w.heap.size + 1; omega) (.int .u32 (low4 nonce k : Nat))
          have e4 : (13 + (k : Int)).toNat = 13 + k := by omega
          clear S Z BW
          generalize (fill16 (L0 ++ lowsN nonce k)).getD (13 + k) 0 = x0 at *
          go_wp2_with fail
          refine (lowFirstWord_c b2 (o2 + 4 * k) (12 - 4 * k) (q2 - 4 * k) _ _ hcut h4.out (by omega)).mono ?_
          rintro e w1 ⟨rfl, nn, rfl⟩
          rw [low4_rest nonce k (12 - 4 * k) (by omega)]
          clear hcut h4
          go_wp2_with fail
          go_roundw
          case rel => first | exact ⟨k + 1, by omega, by go_num, R nn, RZ nn, RB nn⟩ | ((repeat apply Exists.intro); refine ⟨?_, rfl⟩; exact ⟨k + 1, by omega, by go_num, R nn, RZ nn, RB nn⟩)
          case measure => simp [intOf]; omega
        · have e : k = 3 := by omega
          subst e
          have HE : Known (startS key nonce count) (L0 ++ lowsN nonce 3) := ⟨by rw [EL.eq]; rfl⟩
          rw [fill16_all HLn.out] at S
          generalize L0 ++ lowsN nonce 3 = sn at *
          have hzn := sz16.out sn HLn.out
          have hzs : Hid (z16.toArray.size = (sn.map u32v).toArray.size) := by show _ = _; simp [HLn.out, z16_len]
          go_wp2_with (first
            | refine wpList_load_row rfl 74 (.tmp 7) rfl (w.heap.size + 1) rfl 74 _ (0, 0) _ S Tryd.underlying74 rfl hzn ?_
            | refine wpList_store_row rfl 74 (.tmp 6) (.tmp 37) rfl w.heap.size (sn.map u32v).toArray rfl rfl 74 z16.toArray Z hzn hzs.out (cells16 sn) ?_)
          exact bodyPost_ret (v := .agg (sn.map u32v).toArray) (results_cell_row Tryd.results59 _ _ w.heap.size 74 _ (0, 0) _ rfl (Z.row _) Tryd.underlying74 rfl hzn) rfl ⟨by rw [HE.eq], Below.row BW (by omega) _⟩



theorem ownsRow_stay {w w' : World} {B : Nat} {t : TypeId} {z n : Nat} {v : Value} {vs : List Value} (h : w.ownsRow B t z v n vs) (hb : Below w.heap.size w w') : w'.ownsRow B t z v n vs := by
  have hl := World.ownsRow.lt h
  obtain ⟨h1, h2⟩ := h
  refine ⟨h1, ?_⟩
  rcases h2 with h2 | ⟨g, cap, cur, rfl, hg, hh, r⟩
  · exact .inl h2
  · exact .inr ⟨g, cap, cur, rfl, hg, (hb.block g (hl g rfl).2).trans hh, r⟩
theorem ownsRow_drewN {w : World} {B : Nat} {t : TypeId} {z n : Nat} {v : Value} {vs : List Value} (h : w.ownsRow B t z v n vs) (k : Nat) : (w.drewN k).ownsRow B t z v n vs := h
theorem Own.drewN {w : World} {B : Nat} {v : Value} {bs : List UInt8} (h : Own w B v bs) (k : Nat) : Own (w.drewN k) B v bs := h
set_option maxRecDepth 4000 in
set_option maxHeartbeats 2000000 in
theorem hidden_c (p p2 p3 : Option Addr) (q q2 q3 : Nat) (key nonce data : List UInt8) (w : World) (hr : Rd w p q key) (hr2 : Rd w p2 q2 nonce) (hr3 : Rd w p3 q3 data) (hk : key.length = 32) (hn : nonce.length = 12) (hd : data.length ≤ 1000) :
    Calls Tryd.prog 37 #[.slice p 32 q, .slice p2 12 q2, .slice p3 data.length q3] w fun e w' => ∃ u, e = .returned u ∧ Own w' w.heap.size u (hideN key nonce data) ∧ Below w.heap.size w w' := by
  obtain ⟨i0, hi, hz0, hz1, hz2⟩ := info_parts info8
  have K : Hid (∀ (w : World) (c : Nat) (ci : Int), ci = c → Rd w p q key → Rd w p2 q2 nonce → Calls Tryd.prog 59 #[.slice p 32 q, .slice p2 12 q2, .int .u32 ci] w fun e w' => e = .returned (.agg ((startS key nonce c).map u32v).toArray) ∧ Below w.heap.size w w') := fun w c ci hc h h' => by subst hc; exact startOf_c p p2 q q2 key nonce c w h h' hk hn
  have HR : Hid (Rd w p q key) := hr
  have HR2 : Hid (Rd w p2 q2 nonce) := hr2
  have HR3 : Hid (Rd w p3 q3 data) := hr3
  have HB : Hid ((hideN key nonce data).length = data.length) := hideN_len _ _ _
  have hm : data.length ≤ maxLen := by unfold maxLen; omega
  have HD : Hid (data.length ≤ 1000) := hd
  have HA : Hid (∀ j, j < data.length → at8 (hideN key nonce data) j = ((data.getD j 0 ^^^ maskS key nonce j).toNat : Int)) := fun j hj => by unfold at8; rw [hideN_at key nonce data hj]
  clear hr hr2 hr3 hk hn hd
  go_enter Tryd.func37, Tryd.ntmps37
  go_wp2_with (at_make; go_loud (refine wpList_make_full _ rfl (.tmp 12) (.tmp 12) 22 rfl w.heap.size 5 i0 (.int .u8 0) 1 Tryd.underlying22 hi hz0 hz1 .i64 .i64 _ _ data.length rfl rfl rfl rfl (by rw [hz2]; have := HD.out; omega) hm (Nat.le_refl _) ?_); intro w1 hown hgrow)
  rw [replicate_made, ← part_zero (hideN key nonce data) data.length] at hown
  have hb1 : Below w.heap.size w w1 := (Below.refl _ _).grown hgrow (Nat.le_refl _) (fun k hk => by simp at hk)
  clear hgrow hz0 hz1 hz2 hi
  go_loopw [8, 16] (fun v i wr => ∃ j : Nat, j ≤ data.length ∧ i = .int .i64 j ∧ (j % 64 = 0 ∨ Own wr (w.heap.size + 1) v (blockS key nonce (j / 64 + 1))) ∧ wr.ownsRow w.heap.size 5 1 (.slice (some ⟨w.heap.size, 0, none⟩) data.length data.length) data.length (part (hideN key nonce data) data.length j) ∧ Below w.heap.size w wr)
    (fun _ i _ => data.length - (intOf i).toNat)
  case atStart => exact ⟨0, Nat.zero_le _, rfl, .inl rfl, hown, hb1⟩
  case round =>
    clear hown hb1
    obtain ⟨j, hj, rfl, hblk, hown, BW⟩ := hrel
    by_cases hjl : j < data.length
    · have hjI : (j : Int) < (data.length : Int) := by omega
      have hdI : (data.length : Int) ≤ 1000 := by have := HD.out; omega
      have hsz : Hid (w.heap.size < wr.heap.size) := (World.ownsRow.lt hown w.heap.size rfl).2
      by_cases h0 : j % 64 = 0
      case' pos =>
        have h0I : ((j : Int) % 64 == 0) = true := by rw [beq_iff_eq]; omega
        have hcn : Hid (j / 64 + 1 < 4294967296) := by show _ < _; have := HD.out; omega
        have hjd : (j : Int) / 64 < 16 := by have := HD.out; omega
        go_wp2_with fail
        refine (K.out _ (j / 64 + 1) _ (by omega) (HR.out.keep BW) (HR2.out.keep BW)).mono ?_
        rintro e w2 ⟨rfl, hb2⟩
        have hown2 := ownsRow_stay hown hb2
        have BW2 := Below.step BW hb2
        have hsz2 : Hid (w.heap.size < w2.heap.size) := by show _ < _; have := hsz.out; have := hb2.size; omega
        clear hb2 hown BW hblk
        have HLs : Hid ((startS key nonce (j / 64 + 1)).length = 16) := startS_len _ _ _
        have HOs : Hid (Words (startS key nonce (j / 64 + 1))) := startS_ok key nonce hcn.out
        have HEs : Known (blockS key nonce (j / 64 + 1)) (outS (dblsN (startS key nonce (j / 64 + 1)) 10) (startS key nonce (j / 64 + 1)) 16) := ⟨rfl⟩
        generalize startS key nonce (j / 64 + 1) = ss at *
        go_wp2_with fail
        refine (streamBlock_c ss _ HLs.out HOs.out).mono ?_
        rintro e w3 ⟨u3, rfl, k3, hb3⟩
        rw [← HEs.eq] at k3
        have hB := k3.lower (B' := w.heap.size + 1) hsz2.out
        have hownW := ownsRow_stay hown2 hb3
        have BWW := Below.step BW2 hb3
        clear hb3 hown2 BW2 k3 HEs HLs HOs hsz2 hsz h0 h0I hcn hjd
        go_wp2_with fail
        generalize w3 = W at *
        generalize u3 = vB at *
      case' neg =>
        have h0I : ((j : Int) % 64 == 0) = false := by rw [beq_eq_false_iff_ne]; omega
        have hB := hblk.resolve_left h0
        have hownW := hown
        have BWW := BW
        clear hown BW hblk hsz
        go_wp2_with fail
        clear h0 h0I
        generalize wr = W at *
        generalize u8 = vB at *
      all_goals
        have HLB : Hid ((blockS key nonce (j / 64 + 1)).length = 64) := blockS_len _ _ _
        obtain ⟨pB, qB, rfl, rB⟩ := hB.rd
        rw [HLB.out] at hB ⊢
        obtain ⟨bb, ob, rfl, hcB⟩ := rB.2.2.2 (by rw [HLB.out]; decide)
        have cB := hcB (j % 64) (by rw [HLB.out]; omega)
        have hmB : Hid (at8 (blockS key nonce (j / 64 + 1)) (j % 64) = ((maskS key nonce j).toNat : Int)) := rfl
        rw [hmB.out] at cB
        obtain ⟨b3, o3, e3, hc3⟩ := (HR3.out.keep BWW).2.2.2 (by omega)
        have c3 := hc3 j hjl
        have hm3 : Hid (at8 data j = ((data.getD j 0).toNat : Int)) := rfl
        rw [hm3.out] at c3
        have hxo := u8_xorv (data.getD j 0) (maskS key nonce j)
        have er : (j : Int) % 64 = ((j % 64 : Nat) : Int) := by omega
        have hr64 : j % 64 < 64 := by omega
        have hnx : Hid ((j + 1) % 64 = 0 ∨ (j + 1) / 64 = j / 64) := by show _ ∨ _; omega
        have cY : W.cell? ⟨w.heap.size, j, none⟩ = some (.int .u8 0) := by
          have h := part_at (hideN key nonce data) j (by rw [HB.out]; exact hjl)
          rw [HB.out] at h
          rw [World.ownsRow.cellAt hownW j (by omega), h]
        have fY : W.frozen? ⟨w.heap.size, j, none⟩ = false := World.ownsRow.frozenAt hownW j
        have R := fun n => World.ownsRow.stored (ownsRow_drewN hownW n) j (.int .u8 ((data.getD j 0 ^^^ maskS key nonce j).toNat : Int))
        have HP : Hid ((part (hideN key nonce data) data.length j).set j (.int .u8 ((data.getD j 0 ^^^ maskS key nonce j).toNat : Int)) = part (hideN key nonce data) data.length (j + 1)) := by
          have h := part_set (hideN key nonce data) j (by rw [HB.out]; exact hjl)
          rw [HB.out, HA.out j hjl] at h
          exact h
        rw [HP.out] at R
        have RB := fun n => (below_drewN BWW n).setCell (p := ⟨w.heap.size, j, none⟩) (Nat.le_refl _) (.int .u8 ((data.getD j 0 ^^^ maskS key nonce j).toNat : Int))
        have RO := fun n => (Own.drewN hB n).set (a := ⟨w.heap.size, j, none⟩) (Nat.lt_succ_self _) (.int .u8 ((data.getD j 0 ^^^ maskS key nonce j).toNat : Int))
        subst e3
        generalize data.getD j 0 = x at *
        generalize maskS key nonce j = y at *
        generalize x ^^^ y = xy at *
        generalize hjr : j % 64 = r at *
        have hi1 : (r : Int) < 64 := by omega
        clear hcB hc3 rB hB hownW BWW hmB hm3 HP hr64 hjr
        refine wp_region_tail (C := fun w' => ∃ k, w' = W.drewN k) 13 rfl rfl rfl (by kernel_rfl) (by kernel_rfl) (by kernel_rfl) (by kernel_rfl) ⟨1, rfl⟩ ?_
        simp only [List.take_succ_cons, List.take_zero]
        repeat (go_big_quiet_step (fail))
        refine wpQuiet_nil ?_
        rintro w' ⟨nq, rfl⟩ K hK
        go_wp2_with fail
        go_roundw
        case rel =>
          have REL : ∀ W9, W9 = (W.drewN nq).setCell ⟨w.heap.size, j, none⟩ (.int .u8 (xy.toNat : Int)) → ∃ j' : Nat, j' ≤ data.length ∧ Value.int .i64 ((j : Int) + 1) = .int .i64 j' ∧ (j' % 64 = 0 ∨ Own W9 (w.heap.size + 1) (.slice (some ⟨bb, ob, none⟩) 64 qB) (blockS key nonce (j' / 64 + 1))) ∧ W9.ownsRow w.heap.size 5 1 (.slice (some ⟨w.heap.size, 0, none⟩) data.length data.length) data.length (part (hideN key nonce data) data.length j') ∧ Below w.heap.size w W9 := fun W9 e9 => by
            subst e9
            refine ⟨j + 1, by omega, by go_num, ?_, (R nq).1, RB nq⟩
            rcases hnx.out with h | h
            · exact .inl h
            · exact .inr (by rw [h]; exact RO nq)
          first | exact REL _ rfl | ((repeat apply Exists.intro); refine ⟨?_, rfl⟩; exact REL _ rfl)
        case measure => simp [intOf]; omega
    · have e : j = data.length := by omega
      subst e
      have hP : part (hideN key nonce data) data.length data.length = (hideN key nonce data).map u8v := by
        have h := part_all (hideN key nonce data)
        rw [HB.out] at h
        exact h
      rw [hP] at hown
      have hO : Own wr w.heap.size (.slice (some ⟨w.heap.size, 0, none⟩) data.length data.length) (hideN key nonce data) := by unfold Own; rw [HB.out]; exact hown
      clear hown hP hblk
      go_wp2_with fail
      go_ret
      exact ⟨_, rfl, hO, BW⟩

theorem kn_strC {key nonce : List UInt8} (h : kn key nonce = true) : key.length = 32 ∧ nonce.length = 12 ∧ strC key nonce 0 = 0 := by
  have h12 : key.length = 32 ∧ nonce.length = 12 := by simpa [kn] using h
  exact ⟨h12.1, h12.2, by simp [strC, h12, inB]⟩
theorem kn_not {key nonce : List UInt8} (h : kn key nonce = false) : ¬ strC key nonce 0 = 0 := fun hc => by
  obtain ⟨h1, h2, -⟩ := strC_zero hc
  simp [kn, h1, h2] at h
set_option maxRecDepth 4000 in
set_option maxHeartbeats 1000000 in
theorem implSX_c (p p2 p3 : Option Addr) (q q2 q3 : Nat) (key nonce data : List UInt8) (w : World) (hr : Rd w p q key) (hr2 : Rd w p2 q2 nonce) (hr3 : Rd w p3 q3 data) :
    Calls Tryd.prog 15 #[.slice p key.length q, .slice p2 nonce.length q2, .slice p3 data.length q3] w fun e w' => ∃ u, e = .returned (.agg #[.int .i64 (sxC key nonce data), u]) ∧ Own w' w.heap.size u (sxL key nonce data) ∧ Below w.heap.size w w' := by
  have K0 : Hid (∀ w, Calls Tryd.prog 45 #[.slice p key.length q, .slice p2 nonce.length q2] w fun e w' => e = .returned (.bool (kn key nonce)) ∧ w' = w) := fun w => isKeyAndNonce_c p p2 q q2 key nonce w
  cases hkn : kn key nonce
  · have hs : sxC key nonce data = 1 := by simp [sxC, kn_not hkn]
    rw [show sxL key nonce data = [] by simp [sxL, hs], hs]
    clear hs
    go_enter Tryd.func15, Tryd.ntmps15
    go_wp2_with fail
    refine (K0.out _).mono ?_
    rintro e w' ⟨rfl, hw⟩
    subst hw
    rw [hkn]
    go_wp2
    exact bodyPost_ret (v := .agg #[.int .i64 1, .slice none 0 0]) (by simp [results, Tryd.results15, go_sem]) rfl ⟨_, rfl, Own_nil _ _, alloc_below _ _⟩
  · obtain ⟨h1, h2, hc⟩ := kn_strC hkn
    by_cases hd : data.length ≤ 220
    · have hs : sxC key nonce data = 0 := by simp [sxC, hc, hd]
      rw [show sxL key nonce data = hideN key nonce data by simp [sxL, hs], hs]
      have K : Hid (∀ w, Rd w p q key → Rd w p2 q2 nonce → Rd w p3 q3 data → Calls Tryd.prog 37 #[.slice p key.length q, .slice p2 nonce.length q2, .slice p3 data.length q3] w fun e w' => ∃ u, e = .returned u ∧ Own w' w.heap.size u (hideN key nonce data) ∧ Below w.heap.size w w') := fun w a b c => by
        rw [h1, h2]; exact hidden_c p p2 p3 q q2 q3 key nonce data w a b c h1 h2 (by omega)
      have HB : Hid ((hideN key nonce data).length = data.length) := hideN_len _ _ _
      clear h1 h2 hc hs
      generalize hideN key nonce data = bk at *
      go_enter Tryd.func15, Tryd.ntmps15
      go_wp2_with fail
      refine (K0.out _).mono ?_
      rintro e w' ⟨rfl, hw⟩
      subst hw
      rw [hkn]
      go_wp2_with fail
      refine (K.out _ (hr.keep (alloc_below _ _)) (hr2.keep (alloc_below _ _)) (hr3.keep (alloc_below _ _))).mono ?_
      rintro e w1 ⟨u, rfl, ho, hb⟩
      obtain ⟨hc, hf⟩ := bcell hb
      rw [size_alloc] at hc hf ho
      obtain ⟨a, cap, rfl, -⟩ := ho.rd
      rw [HB.out] at ho ⊢
      have hres := Below.res hb
      go_wp2
      refine bodyPost_ret (v := .agg #[.int .i64 0, .slice a data.length cap]) (by simp [results, Tryd.results15, go_sem, hc]) rfl ⟨_, rfl, ?_, (hres.setCell (Nat.le_refl _) _).setCell (Nat.le_refl _) _⟩
      exact ((ho.set (Nat.lt_succ_self _) _).set (Nat.lt_succ_self _) _).lower (Nat.le_succ _)
    · have hs : sxC key nonce data = 2 := by simp [sxC, hc, hd]
      rw [show sxL key nonce data = [] by simp [sxL, hs], hs]
      clear h1 h2 hc hs
      have hdI : 220 < (data.length : Int) := by omega
      go_enter Tryd.func15, Tryd.ntmps15
      go_wp2_with fail
      refine (K0.out _).mono ?_
      rintro e w' ⟨rfl, hw⟩
      subst hw
      rw [hkn]
      go_wp2
      exact bodyPost_ret (v := .agg #[.int .i64 2, .slice none 0 0]) (by simp [results, Tryd.results15, go_sem]) rfl ⟨_, rfl, Own_nil _ _, alloc_below _ _⟩





end Go.Proofs.YtpcgpefefklfoaaDoor

