/- The contracts of chapter 4's functions in the program, at every argument: startOf, StreamBlock, StartState, hidden, StreamXor, NonceFor, allPlaces, twoAlike, QuarterRound: code and bytes or list, as in the specification. -/
import Derived.Test.YtdbpnibcblelbaaGreatDoorJoint30
namespace Go.Proofs.YtdbpnibcblelbaaGreatDoor
open Go.ChangeShapes Go.WideShapes Go.ChangeAt Go.RowKit
def fill16 (ws : List Nat) : List Nat := ws ++ List.replicate (16 - ws.length) 0
theorem fill16_len {ws : List Nat} (h : ws.length ≤ 16) : (fill16 ws).length = 16 := by simp [fill16]; omega
theorem fill16_set (ws : List Nat) (x i : Nat) (hi : ws.length = i) (h : i < 16) : (fill16 ws).set i x = fill16 (ws ++ [x]) := by
  unfold fill16
  subst hi
  rw [List.set_append_right _ _ (Nat.le_refl _), Nat.sub_self, show 16 - ws.length = (16 - (ws ++ [x]).length) + 1 by simp; omega, List.replicate_succ, List.set_cons_zero, List.append_assoc]
  rfl
theorem fill16_all {ws : List Nat} (h : ws.length = 16) : fill16 ws = ws := by simp [fill16, h]
theorem fill16_head : (fill16 headS).map u32v = [.int .u32 1634760805, .int .u32 857760878, .int .u32 2036477234, .int .u32 1797285236, .int .u32 0, .int .u32 0, .int .u32 0, .int .u32 0, .int .u32 0, .int .u32 0, .int .u32 0, .int .u32 0, .int .u32 0, .int .u32 0, .int .u32 0, .int .u32 0] := by rfl
theorem low4_rest (bs : List UInt8) (k m : Nat) (h : 4 ≤ m) : low4 ((bs.drop (4 * k)).take m) 0 = low4 bs k := by
  unfold low4
  simp only [List.getD_eq_getElem?_getD, List.getElem?_take, List.getElem?_drop]
  simp [show 0 < m by omega, show 1 < m by omega, show 2 < m by omega, show 3 < m by omega]
set_option maxRecDepth 4000 in
set_option maxHeartbeats 1000000 in
theorem startOf_c (p p2 : Option Addr) (q q2 : Nat) (key nonce : List UInt8) (count : Nat) (w : World) (hr : Rd w p q key) (hr2 : Rd w p2 q2 nonce) (hk : key.length = 32) (hn : nonce.length = 12) :
    Calls Tryz.prog 226 #[.slice p 32 q, .slice p2 12 q2, .int .u32 (count : Int)] w fun e w' => e = .returned (.agg ((startS key nonce count).map u32v).toArray) ∧ Below w.heap.size w w' := by
  obtain ⟨b1, o1, rfl, -⟩ := hr.2.2.2 (by omega)
  obtain ⟨b2, o2, rfl, -⟩ := hr2.2.2.2 (by omega)
  have HR : Hid (Rd w (some ⟨b1, o1, none⟩) q key) := hr
  have HR2 : Hid (Rd w (some ⟨b2, o2, none⟩) q2 nonce) := hr2
  have HK : Hid (key.length = 32) := hk
  have HN : Hid (nonce.length = 12) := hn
  have hq : 32 ≤ q := by have := hr.1; omega
  have hq2 : 12 ≤ q2 := by have := hr2.1; omega
  have hm : q ≤ 2 ^ 63 - 1 := hr.2.1
  have hm2 : q2 ≤ 2 ^ 63 - 1 := hr2.2.1
  have hzv : Hid (∀ w, (zeroValue 263).run Tryz.prog w = .ok (.agg z16.toArray) w) := (zero_of_info info_s16).1
  clear hr hr2 hk hn
  go_enter Tryz.func226, Tryz.ntmps226
  go_wp2_with (refine wpList_alloc_arr rfl 263 rfl _ hzv.out w.heap.size rfl ?_)
  have BW : Below w.heap.size w ((w.alloc (.cells z16.toArray 263)).alloc (.cells ((fill16 headS).map u32v).toArray 263)) := Below.mk (alloc_below _ _) _
  have S : Arr ((w.alloc (.cells z16.toArray 263)).alloc (.cells ((fill16 headS).map u32v).toArray 263)) (w.heap.size + 1) 263 ((fill16 headS).map u32v) := by
    have h := Arr.new (w.alloc (.cells z16.toArray 263)) ((fill16 headS).map u32v) 263
    rw [size_alloc] at h
    exact h
  have Z : Arr ((w.alloc (.cells z16.toArray 263)).alloc (.cells ((fill16 headS).map u32v).toArray 263)) w.heap.size 263 z16 := (Arr.new w z16 263).old _ _
  rw [fill16_head] at BW S Z
  go_loopw [11] (fun i wr => ∃ k : Nat, k ≤ 8 ∧ i = .int .i64 k ∧ Arr wr (w.heap.size + 1) 263 ((fill16 (headS ++ lowsN key k)).map u32v) ∧ Arr wr w.heap.size 263 z16 ∧ Below w.heap.size w wr)
    (fun i _ => 8 - (intOf i).toNat)
  case atStart => exact ⟨0, Nat.zero_le _, rfl, by rw [show headS ++ lowsN key 0 = headS from rfl, fill16_head]; exact S, Z, BW⟩
  case round =>
    clear S Z BW
    obtain ⟨k, hk, rfl, S, Z, BW⟩ := hrel
    have HLn : Hid ((headS ++ lowsN key k).length = 4 + k) := by show _ = _; simp [headS, lowsN_len]; omega
    by_cases hlt : k < 8
    · have hkI : (k : Int) < 8 := by omega
      have hcut := (HR.out.keep BW).cut (4 * k) (32 - 4 * k) (q - 4 * k) (by rw [HK.out]; omega) (by omega) (by have := HR.out.2.1; omega)
      have h4 : Hid (((key.drop (4 * k)).take (32 - 4 * k)).length = 32 - 4 * k) := by show _ = _; have := HK.out; simp; omega
      have cx := S.at16 (a := 4 + k) (fill16_len (by rw [HLn.out]; omega)) (by omega)
      have fx := S.frozen (4 + k)
      have R := fun n => (S.drew (n := n)).put16 (4 + k) (low4 key k)
      rw [fill16_set _ _ _ HLn.out (by omega), show headS ++ lowsN key k ++ [low4 key k] = headS ++ lowsN key (k + 1) by rw [lowsN_succ, List.append_assoc]] at R
      have RZ := fun n => (Z.drew (n := n)).setOther (a := ⟨w.heap.size + 1, 4 + k, none⟩) (by show w.heap.size ≠ w.heap.size + 1; omega) (.int .u32 (low4 key k : Nat))
      have RB := fun n => (below_drewN BW n).setCell (p := ⟨w.heap.size + 1, 4 + k, none⟩) (by show w.heap.size ≤ w.heap.size + 1; omega) (.int .u32 (low4 key k : Nat))
      have e4 : (4 + (k : Int)).toNat = 4 + k := by omega
      clear S Z BW
      generalize (fill16 (headS ++ lowsN key k)).getD (4 + k) 0 = x0 at *
      go_wp2_with fail
      refine (lowFirstWord_c b1 (o1 + 4 * k) (32 - 4 * k) (q - 4 * k) _ _ hcut h4.out (by omega)).mono ?_
      rintro e w1 ⟨rfl, nn, rfl⟩
      rw [low4_rest key k (32 - 4 * k) (by omega)]
      clear hcut h4
      go_wp2_with fail
      go_roundw
      case rel => first | exact ⟨k + 1, by omega, by go_num, R nn, RZ nn, RB nn⟩ | ((repeat apply Exists.intro); refine ⟨?_, rfl⟩; exact ⟨k + 1, by omega, by go_num, R nn, RZ nn, RB nn⟩)
      case measure => simp [intOf]; omega
    · have e : k = 8 := by omega
      subst e
      have HL1 : Hid ((headS ++ lowsN key 8 ++ [count]).length = 13) := by show _ = _; simp [headS, lowsN_len]
      have cx := S.at16 (a := 12) (fill16_len (by rw [HLn.out]; omega)) (by omega)
      have fx := S.frozen 12
      have R := S.put16 12 count
      rw [fill16_set _ _ _ HLn.out (by omega)] at R
      have RZ := Z.setOther (a := ⟨w.heap.size + 1, 12, none⟩) (by show w.heap.size ≠ w.heap.size + 1; omega) (.int .u32 (count : Nat))
      have RB := BW.setCell (p := ⟨w.heap.size + 1, 12, none⟩) (by show w.heap.size ≤ w.heap.size + 1; omega) (.int .u32 (count : Nat))
      clear S Z BW HLn HR hlt hk
      obtain ⟨L0, EL⟩ := known_of (headS ++ lowsN key 8 ++ [count])
      rw [← EL.eq] at HL1 R
      generalize (fill16 (headS ++ lowsN key 8)).getD 12 0 = x0 at *
      go_wp2_with fail
      go_loopw [25] (fun i wr => ∃ k : Nat, k ≤ 3 ∧ i = .int .i64 k ∧ Arr wr (w.heap.size + 1) 263 ((fill16 (L0 ++ lowsN nonce k)).map u32v) ∧ Arr wr w.heap.size 263 z16 ∧ Below w.heap.size w wr)
        (fun i _ => 3 - (intOf i).toNat)
      case atStart => exact ⟨0, Nat.zero_le _, rfl, by rw [show L0 ++ lowsN nonce 0 = L0 from List.append_nil _]; exact R, RZ, RB⟩
      case round =>
        clear R RZ RB cx fx
        obtain ⟨k, hk, rfl, S, Z, BW⟩ := hrel
        have HLn : Hid ((L0 ++ lowsN nonce k).length = 13 + k) := by show _ = _; rw [List.length_append, lowsN_len, HL1.out]
        by_cases hlt : k < 3
        · have hkI : (k : Int) < 3 := by omega
          have hcut := (HR2.out.keep BW).cut (4 * k) (12 - 4 * k) (q2 - 4 * k) (by rw [HN.out]; omega) (by omega) (by have := HR2.out.2.1; omega)
          have h4 : Hid (((nonce.drop (4 * k)).take (12 - 4 * k)).length = 12 - 4 * k) := by show _ = _; have := HN.out; simp; omega
          have cx := S.at16 (a := 13 + k) (fill16_len (by rw [HLn.out]; omega)) (by omega)
          have fx := S.frozen (13 + k)
          have R := fun n => (S.drew (n := n)).put16 (13 + k) (low4 nonce k)
          rw [fill16_set _ _ _ HLn.out (by omega), show L0 ++ lowsN nonce k ++ [low4 nonce k] = L0 ++ lowsN nonce (k + 1) by rw [lowsN_succ, List.append_assoc]] at R
          have RZ := fun n => (Z.drew (n := n)).setOther (a := ⟨w.heap.size + 1, 13 + k, none⟩) (by show w.heap.size ≠ w.heap.size + 1; omega) (.int .u32 (low4 nonce k : Nat))
          have RB := fun n => (below_drewN BW n).setCell (p := ⟨w.heap.size + 1, 13 + k, none⟩) (by show w.heap.size ≤ w.heap.size + 1; omega) (.int .u32 (low4 nonce k : Nat))
          have e4 : (13 + (k : Int)).toNat = 13 + k := by omega
          clear S Z BW
          generalize (fill16 (L0 ++ lowsN nonce k)).getD (13 + k) 0 = x0 at *
          go_wp2_with fail
          refine (lowFirstWord_c b2 (o2 + 4 * k) (12 - 4 * k) (q2 - 4 * k) _ _ hcut h4.out (by omega)).mono ?_
          rintro e w1 ⟨rfl, nn, rfl⟩
          rw [low4_rest nonce k (12 - 4 * k) (by omega)]
          clear hcut h4
          go_wp2_with fail
          go_roundw
          case rel => first | exact ⟨k + 1, by omega, by go_num, R nn, RZ nn, RB nn⟩ | ((repeat apply Exists.intro); refine ⟨?_, rfl⟩; exact ⟨k + 1, by omega, by go_num, R nn, RZ nn, RB nn⟩)
          case measure => simp [intOf]; omega
        · have e : k = 3 := by omega
          subst e
          have HE : Known (startS key nonce count) (L0 ++ lowsN nonce 3) := ⟨by rw [EL.eq]; rfl⟩
          rw [fill16_all HLn.out] at S
          generalize L0 ++ lowsN nonce 3 = sn at *
          have hzn := sz16.out sn HLn.out
          have hzs : Hid (z16.toArray.size = (sn.map u32v).toArray.size) := by show _ = _; simp [HLn.out, z16_len]
          go_wp2_with (first
            | refine wpList_load_row rfl 263 (.tmp 7) rfl (w.heap.size + 1) rfl 263 _ (0, 0) _ S Tryz.underlying263 rfl hzn ?_
            | refine wpList_store_row rfl 263 (.tmp 6) (.tmp 37) rfl w.heap.size (sn.map u32v).toArray rfl rfl 263 z16.toArray Z hzn hzs.out (cells16 sn) ?_)
          exact bodyPost_ret (v := .agg (sn.map u32v).toArray) (results_cell_row Tryz.results226 _ _ w.heap.size 263 _ (0, 0) _ rfl (Z.row _) Tryz.underlying263 rfl hzn) rfl ⟨by rw [HE.eq], Below.row BW (by omega) _⟩
theorem ownsRow_stay {w w' : World} {B : Nat} {t : TypeId} {z n : Nat} {v : Value} {vs : List Value} (h : w.ownsRow B t z v n vs) (hb : Below w.heap.size w w') : w'.ownsRow B t z v n vs := by
  have hl := World.ownsRow.lt h
  obtain ⟨h1, h2⟩ := h
  refine ⟨h1, ?_⟩
  rcases h2 with h2 | ⟨g, cap, cur, rfl, hg, hh, r⟩
  · exact .inl h2
  · exact .inr ⟨g, cap, cur, rfl, hg, (hb.block g (hl g rfl).2).trans hh, r⟩
theorem ownsRow_drewN {w : World} {B : Nat} {t : TypeId} {z n : Nat} {v : Value} {vs : List Value} (h : w.ownsRow B t z v n vs) (k : Nat) : (w.drewN k).ownsRow B t z v n vs := h
theorem Own.drewN {w : World} {B : Nat} {v : Value} {bs : List UInt8} (h : Own w B v bs) (k : Nat) : Own (w.drewN k) B v bs := h
set_option maxRecDepth 4000 in
set_option maxHeartbeats 2000000 in
theorem hidden_c (p p2 p3 : Option Addr) (q q2 q3 : Nat) (key nonce data : List UInt8) (w : World) (hr : Rd w p q key) (hr2 : Rd w p2 q2 nonce) (hr3 : Rd w p3 q3 data) (hk : key.length = 32) (hn : nonce.length = 12) (hd : data.length ≤ 1000) :
    Calls Tryz.prog 177 #[.slice p 32 q, .slice p2 12 q2, .slice p3 data.length q3] w fun e w' => ∃ u, e = .returned u ∧ Own w' w.heap.size u (hideN key nonce data) ∧ Below w.heap.size w w' := by
  obtain ⟨i0, hi, hz0, hz1, hz2⟩ := info_parts info8
  have K : Hid (∀ (w : World) (c : Nat) (ci : Int), ci = c → Rd w p q key → Rd w p2 q2 nonce → Calls Tryz.prog 226 #[.slice p 32 q, .slice p2 12 q2, .int .u32 ci] w fun e w' => e = .returned (.agg ((startS key nonce c).map u32v).toArray) ∧ Below w.heap.size w w') := fun w c ci hc h h' => by subst hc; exact startOf_c p p2 q q2 key nonce c w h h' hk hn
  have HR : Hid (Rd w p q key) := hr
  have HR2 : Hid (Rd w p2 q2 nonce) := hr2
  have HR3 : Hid (Rd w p3 q3 data) := hr3
  have HB : Hid ((hideN key nonce data).length = data.length) := hideN_len _ _ _
  have hm : data.length ≤ maxLen := by unfold maxLen; omega
  have HD : Hid (data.length ≤ 1000) := hd
  have HA : Hid (∀ j, j < data.length → at8 (hideN key nonce data) j = ((data.getD j 0 ^^^ maskS key nonce j).toNat : Int)) := fun j hj => by unfold at8; rw [hideN_at key nonce data hj]
  clear hr hr2 hr3 hk hn hd
  go_enter Tryz.func177, Tryz.ntmps177
  go_wp2_with (at_make; go_loud (refine wpList_make_full _ rfl (.tmp 12) (.tmp 12) 22 rfl w.heap.size 5 i0 (.int .u8 0) 1 Tryz.underlying22 hi hz0 hz1 .i64 .i64 _ _ data.length rfl rfl rfl rfl (by rw [hz2]; have := HD.out; omega) hm (Nat.le_refl _) ?_); intro w1 hown hgrow)
  rw [replicate_made, ← part_zero (hideN key nonce data) data.length] at hown
  have hb1 : Below w.heap.size w w1 := (Below.refl _ _).grown hgrow (Nat.le_refl _) (fun k hk => by simp at hk)
  clear hgrow hz0 hz1 hz2 hi
  go_loopw [8, 16] (fun v i wr => ∃ j : Nat, j ≤ data.length ∧ i = .int .i64 j ∧ (j % 64 = 0 ∨ Own wr (w.heap.size + 1) v (blockS key nonce (j / 64 + 1))) ∧ wr.ownsRow w.heap.size 5 1 (.slice (some ⟨w.heap.size, 0, none⟩) data.length data.length) data.length (part (hideN key nonce data) data.length j) ∧ Below w.heap.size w wr)
    (fun _ i _ => data.length - (intOf i).toNat)
  case atStart => exact ⟨0, Nat.zero_le _, rfl, .inl rfl, hown, hb1⟩
  case round =>
    clear hown hb1
    obtain ⟨j, hj, rfl, hblk, hown, BW⟩ := hrel
    by_cases hjl : j < data.length
    · have hjI : (j : Int) < (data.length : Int) := by omega
      have hdI : (data.length : Int) ≤ 1000 := by have := HD.out; omega
      have hsz : Hid (w.heap.size < wr.heap.size) := (World.ownsRow.lt hown w.heap.size rfl).2
      by_cases h0 : j % 64 = 0
      case' pos =>
        have h0I : ((j : Int) % 64 == 0) = true := by rw [beq_iff_eq]; omega
        have hcn : Hid (j / 64 + 1 < 4294967296) := by show _ < _; have := HD.out; omega
        have hjd : (j : Int) / 64 < 16 := by have := HD.out; omega
        go_wp2_with fail
        refine (K.out _ (j / 64 + 1) _ (by omega) (HR.out.keep BW) (HR2.out.keep BW)).mono ?_
        rintro e w2 ⟨rfl, hb2⟩
        have hown2 := ownsRow_stay hown hb2
        have BW2 := Below.step BW hb2
        have hsz2 : Hid (w.heap.size < w2.heap.size) := by show _ < _; have := hsz.out; have := hb2.size; omega
        clear hb2 hown BW hblk
        have HLs : Hid ((startS key nonce (j / 64 + 1)).length = 16) := startS_len _ _ _
        have HOs : Hid (Words (startS key nonce (j / 64 + 1))) := startS_ok key nonce hcn.out
        have HEs : Known (blockS key nonce (j / 64 + 1)) (outS (dblsN (startS key nonce (j / 64 + 1)) 10) (startS key nonce (j / 64 + 1)) 16) := ⟨rfl⟩
        generalize startS key nonce (j / 64 + 1) = ss at *
        go_wp2_with fail
        refine (streamBlock_c ss _ HLs.out HOs.out).mono ?_
        rintro e w3 ⟨u3, rfl, k3, hb3⟩
        rw [← HEs.eq] at k3
        have hB := k3.lower (B' := w.heap.size + 1) hsz2.out
        have hownW := ownsRow_stay hown2 hb3
        have BWW := Below.step BW2 hb3
        clear hb3 hown2 BW2 k3 HEs HLs HOs hsz2 hsz h0 h0I hcn hjd
        go_wp2_with fail
        generalize w3 = W at *
        generalize u3 = vB at *
      case' neg =>
        have h0I : ((j : Int) % 64 == 0) = false := by rw [beq_eq_false_iff_ne]; omega
        have hB := hblk.resolve_left h0
        have hownW := hown
        have BWW := BW
        clear hown BW hblk hsz
        go_wp2_with fail
        clear h0 h0I
        generalize wr = W at *
        generalize u8 = vB at *
      all_goals
        have HLB : Hid ((blockS key nonce (j / 64 + 1)).length = 64) := blockS_len _ _ _
        obtain ⟨pB, qB, rfl, rB⟩ := hB.rd
        rw [HLB.out] at hB ⊢
        obtain ⟨bb, ob, rfl, hcB⟩ := rB.2.2.2 (by rw [HLB.out]; decide)
        have cB := hcB (j % 64) (by rw [HLB.out]; omega)
        have hmB : Hid (at8 (blockS key nonce (j / 64 + 1)) (j % 64) = ((maskS key nonce j).toNat : Int)) := rfl
        rw [hmB.out] at cB
        obtain ⟨b3, o3, e3, hc3⟩ := (HR3.out.keep BWW).2.2.2 (by omega)
        have c3 := hc3 j hjl
        have hm3 : Hid (at8 data j = ((data.getD j 0).toNat : Int)) := rfl
        rw [hm3.out] at c3
        have hxo := u8_xorv (data.getD j 0) (maskS key nonce j)
        have er : (j : Int) % 64 = ((j % 64 : Nat) : Int) := by omega
        have hr64 : j % 64 < 64 := by omega
        have hnx : Hid ((j + 1) % 64 = 0 ∨ (j + 1) / 64 = j / 64) := by show _ ∨ _; omega
        have cY : W.cell? ⟨w.heap.size, j, none⟩ = some (.int .u8 0) := by
          have h := part_at (hideN key nonce data) j (by rw [HB.out]; exact hjl)
          rw [HB.out] at h
          rw [World.ownsRow.cellAt hownW j (by omega), h]
        have fY : W.frozen? ⟨w.heap.size, j, none⟩ = false := World.ownsRow.frozenAt hownW j
        have R := fun n => World.ownsRow.stored (ownsRow_drewN hownW n) j (.int .u8 ((data.getD j 0 ^^^ maskS key nonce j).toNat : Int))
        have HP : Hid ((part (hideN key nonce data) data.length j).set j (.int .u8 ((data.getD j 0 ^^^ maskS key nonce j).toNat : Int)) = part (hideN key nonce data) data.length (j + 1)) := by
          have h := part_set (hideN key nonce data) j (by rw [HB.out]; exact hjl)
          rw [HB.out, HA.out j hjl] at h
          exact h
        rw [HP.out] at R
        have RB := fun n => (below_drewN BWW n).setCell (p := ⟨w.heap.size, j, none⟩) (Nat.le_refl _) (.int .u8 ((data.getD j 0 ^^^ maskS key nonce j).toNat : Int))
        have RO := fun n => (Own.drewN hB n).set (a := ⟨w.heap.size, j, none⟩) (Nat.lt_succ_self _) (.int .u8 ((data.getD j 0 ^^^ maskS key nonce j).toNat : Int))
        subst e3
        generalize data.getD j 0 = x at *
        generalize maskS key nonce j = y at *
        generalize x ^^^ y = xy at *
        generalize hjr : j % 64 = r at *
        have hi1 : (r : Int) < 64 := by omega
        clear hcB hc3 rB hB hownW BWW hmB hm3 HP hr64 hjr
        refine wp_region_tail (C := fun w' => ∃ k, w' = W.drewN k) 13 rfl rfl rfl (by kernel_rfl) (by kernel_rfl) (by kernel_rfl) (by kernel_rfl) ⟨1, rfl⟩ ?_
        simp only [List.take_succ_cons, List.take_zero]
        repeat (go_big_quiet_step (fail))
        refine wpQuiet_nil ?_
        rintro w' ⟨nq, rfl⟩ K hK
        go_wp2_with fail
        go_roundw
        case rel =>
          have REL : ∀ W9, W9 = (W.drewN nq).setCell ⟨w.heap.size, j, none⟩ (.int .u8 (xy.toNat : Int)) → ∃ j' : Nat, j' ≤ data.length ∧ Value.int .i64 ((j : Int) + 1) = .int .i64 j' ∧ (j' % 64 = 0 ∨ Own W9 (w.heap.size + 1) (.slice (some ⟨bb, ob, none⟩) 64 qB) (blockS key nonce (j' / 64 + 1))) ∧ W9.ownsRow w.heap.size 5 1 (.slice (some ⟨w.heap.size, 0, none⟩) data.length data.length) data.length (part (hideN key nonce data) data.length j') ∧ Below w.heap.size w W9 := fun W9 e9 => by
            subst e9
            refine ⟨j + 1, by omega, by go_num, ?_, (R nq).1, RB nq⟩
            rcases hnx.out with h | h
            · exact .inl h
            · exact .inr (by rw [h]; exact RO nq)
          first | exact REL _ rfl | ((repeat apply Exists.intro); refine ⟨?_, rfl⟩; exact REL _ rfl)
        case measure => simp [intOf]; omega
    · have e : j = data.length := by omega
      subst e
      have hP : part (hideN key nonce data) data.length data.length = (hideN key nonce data).map u8v := by
        have h := part_all (hideN key nonce data)
        rw [HB.out] at h
        exact h
      rw [hP] at hown
      have hO : Own wr w.heap.size (.slice (some ⟨w.heap.size, 0, none⟩) data.length data.length) (hideN key nonce data) := by unfold Own; rw [HB.out]; exact hown
      clear hown hP hblk
      go_wp2_with fail
      go_ret
      exact ⟨_, rfl, hO, BW⟩
def seqB (seq k : Nat) : UInt8 := UInt8.ofNat (seq / 256 ^ k % 256)
def nkAt (base : List UInt8) (seq k i : Nat) : UInt8 := if 12 ≤ i + k then base.getD i 0 ^^^ seqB seq (11 - i) else base.getD i 0
def nonceK (base : List UInt8) (seq k : Nat) : List UInt8 := (List.range 12).map (nkAt base seq k)
theorem nonceK_len (base : List UInt8) (seq k : Nat) : (nonceK base seq k).length = 12 := by simp [nonceK]
theorem nonceK_get (base : List UInt8) (seq k : Nat) {i : Nat} (h : i < 12) : (nonceK base seq k)[i]? = some (nkAt base seq k i) := by simp [nonceK, h]
theorem nonceK_zero (base : List UInt8) (seq : Nat) (h : base.length = 12) : nonceK base seq 0 = base := by
  apply List.ext_getElem?
  intro i
  by_cases hi : i < 12
  · rw [nonceK_get base seq 0 hi, nkAt, if_neg (by omega)]
    simp [show i < base.length by omega]
  · rw [List.getElem?_eq_none (by rw [nonceK_len]; omega), List.getElem?_eq_none (by omega)]
theorem nonceK_at (base : List UInt8) (seq : Nat) {k : Nat} (h : k < 4) : ((nonceK base seq k).map u8v)[11 - k]? = some (.int .u8 ((base.getD (11 - k) 0).toNat : Int)) := by
  rw [List.getElem?_map, nonceK_get base seq k (by omega), nkAt, if_neg (by omega)]
  rfl
theorem nonceK_set (base : List UInt8) (seq : Nat) {k : Nat} (h : k < 4) : ((nonceK base seq k).map u8v).set (11 - k) (.int .u8 ((base.getD (11 - k) 0 ^^^ seqB seq k).toNat : Int)) = (nonceK base seq (k + 1)).map u8v := by
  apply List.ext_getElem?
  intro i
  rw [List.getElem?_set]
  by_cases e : 11 - k = i
  · subst e
    rw [if_pos rfl, if_pos (by rw [List.length_map, nonceK_len]; omega), List.getElem?_map, nonceK_get base seq (k + 1) (by omega), nkAt, if_pos (by omega), show 11 - (11 - k) = k by omega]
    rfl
  · rw [if_neg e]
    by_cases hi : i < 12
    · rw [List.getElem?_map, List.getElem?_map, nonceK_get base seq k hi, nonceK_get base seq (k + 1) hi]
      unfold nkAt
      by_cases hc : 12 ≤ i + k
      · rw [if_pos hc, if_pos (by omega)]
      · rw [if_neg hc, if_neg (by omega)]
    · rw [List.getElem?_eq_none (by rw [List.length_map, nonceK_len]; omega), List.getElem?_eq_none (by rw [List.length_map, nonceK_len]; omega)]
theorem putB_at (v : Nat) : ∀ (n i : Nat), i < n → (putB v n).getD i 0 = seqB v (n - 1 - i)
  | 0, _, h => absurd h (Nat.not_lt_zero _)
  | n + 1, 0, _ => rfl
  | n + 1, i + 1, h => by
    have := putB_at v n i (by omega)
    rw [show n + 1 - 1 - (i + 1) = n - 1 - i by omega, ← this]
    rfl
theorem seqB_zero {seq k : Nat} (h : seq < 4294967296) (hk : 4 ≤ k) : seqB seq k = 0 := by
  have h1 : 256 ^ 4 ≤ 256 ^ k := Nat.pow_le_pow_right (by decide) hk
  unfold seqB
  rw [Nat.div_eq_of_lt (by omega)]
  rfl
theorem nonceK_all (base : List UInt8) (seq : Nat) (h : seq < 4294967296) : nonceK base seq 4 = nonceN base seq := by
  unfold nonceK nonceN nkAt
  apply List.map_congr_left
  intro i hi
  have hi := List.mem_range.1 hi
  rw [putB_at seq 12 i hi, show 12 - 1 - i = 11 - i by omega]
  split
  · exact UInt8.xor_comm _ _
  · rw [seqB_zero h (by omega), UInt8.zero_xor]
theorem seqB_int (m k : Nat) : ((seqB m k).toNat : Int) = (m : Int) / 2 ^ (8 * k) % 256 := by
  unfold seqB
  rw [UInt8.toNat_ofNat', show (256 : Nat) ^ k = 2 ^ (8 * k) by rw [Nat.pow_mul], show (2 : Nat) ^ 8 = 256 from rfl, Nat.mod_mod, Int.natCast_emod, Int.natCast_ediv, Int.natCast_pow]
  rfl
theorem nonceStart {w : World} {g : Nat} {t : TypeId} {base : List UInt8} (h : Hid (w.heap[g]? = some (.cells (splice ((zs 12).map u8v) 0 (base.map u8v)).toArray t (0, 0)))) (hl : base.length = 12) : Arr w g t (base.map u8v) := by
  have e : splice ((zs 12).map u8v) 0 (base.map u8v) = base.map u8v := by
    simp only [splice, List.take_zero, List.nil_append, Nat.zero_add, List.length_map, zs, ← List.map_drop, List.drop_replicate, hl]
    simp
  unfold Arr
  rw [← e]
  exact h.out
set_option maxRecDepth 4000 in
set_option maxHeartbeats 1000000 in
theorem implNF_c (p : Option Addr) (q : Nat) (base : List UInt8) (seq : Int) (w : World) (hr : Rd w p q base) :
    Calls Tryz.prog 175 #[.slice p base.length q, .int .i64 seq] w fun e w' => ∃ u, e = .returned (.agg #[.int .i64 (nfC base seq), u]) ∧ Own w' w.heap.size u (nfL base seq) ∧ Below w.heap.size w w' := by
  by_cases h1 : base.length = 12
  · have d1 : ((base.length : Int) != 12) = false := by rw [bne_eq_false_iff_eq]; omega
    cases h2 : inB seq 0 2147483648
    · rw [show nfC base seq = 3 by simp [nfC, h1, h2], show nfL base seq = [] by simp [nfL, h2]]
      clear h1
      by_cases h3 : seq < 0
      · go_enter Tryz.func175, Tryz.ntmps175
        go_wp2
        exact bodyPost_ret (v := .agg #[.int .i64 3, .slice none 0 0]) (by simp [results, Tryz.results175, go_sem]) rfl ⟨_, rfl, Own_nil _ _, alloc_below _ _⟩
      · have h4 : 2147483648 < seq := by simp [inB] at h2; omega
        go_enter Tryz.func175, Tryz.ntmps175
        go_wp2
        exact bodyPost_ret (v := .agg #[.int .i64 3, .slice none 0 0]) (by simp [results, Tryz.results175, go_sem]) rfl ⟨_, rfl, Own_nil _ _, alloc_below _ _⟩
    · obtain ⟨m, rfl, hm⟩ : ∃ m : Nat, seq = m ∧ m ≤ 2147483648 := by simp [inB] at h2; exact ⟨seq.toNat, by omega, by omega⟩
      rw [show nfC base (m : Int) = 0 by simp [nfC, h1, h2], show nfL base (m : Int) = nonceN base m by simp [nfL, h1, h2]]
      have hmI : (m : Int) ≤ 2147483648 := by omega
      have HL : Hid (base.length = 12) := h1
      have HR : Hid (Rd w p q base) := hr
      clear h1 h2 hr
      obtain ⟨i0, hi, hz0, hz1, hz2⟩ := info_parts info8
      have HI : Hid ((Tryz.prog.info? 5).map (·.size) = some 1) := by show _ = _; rw [hi]; simp [hz1]
      have A0 : Arr (w.alloc (.cells #[.int .i64 0, .slice none 0 0] 43)) w.heap.size 43 [.int .i64 0, .slice none 0 0] := Arr.new w [.int .i64 0, .slice none 0 0] 43
      have B0 : Below w.heap.size w (w.alloc (.cells #[.int .i64 0, .slice none 0 0] 43)) := alloc_below _ _
      have HR0 : Hid (Rd (w.alloc (.cells #[.int .i64 0, .slice none 0 0] 43)) p q base) := HR.out.keep B0
      obtain ⟨b1, o1, e1, hc1⟩ := HR.out.2.2.2 (by rw [HL.out]; decide)
      subst e1
      clear hc1 HR d1
      rw [HL.out]
      go_enter Tryz.func175, Tryz.ntmps175
      go_wp2_with (first
        | (at_make; refine wpList_make_full _ rfl (.const (.int .i64 12)) (.const (.int .i64 12)) 22 rfl (w.heap.size + 1) 5 i0 (.int .u8 0) 1 Tryz.underlying22 hi hz0 hz1 .i64 .i64 _ _ 12 rfl rfl rfl rfl (by rw [hz2]; decide) (by unfold maxLen; decide) (by rw [size_alloc]; exact Nat.le_refl _) ?_; intro w1 hown hgrow; rw [size_alloc] at hown; have hA1 := (made_zeros hown).arr (zs_len 12); have hb1 : Below (w.heap.size + 1) (w.alloc (.cells #[.int .i64 0, .slice none 0 0] 43)) w1 := (Below.refl _ _).grown hgrow (by rw [size_alloc]; exact Nat.le_refl _) (fun k hk => by simp at hk); clear hown hgrow)
        | (refine wpList_copy_splice rfl (.tmp 19) (.tmp 20) 22 22 rfl 5 Tryz.underlying22 HI.out _ _ _ _ _ _ rfl rfl (w.heap.size + 1) 0 ((zs 12).map u8v) 5 hA1 (base.map u8v) (by rw [List.length_map, HL.out]; rfl) (fun hp => ⟨rfl, (HR0.out.keep (by rw [size_alloc]; exact hb1)).addr (by simpa using hp)⟩) (by simp [zs_len, HL.out]) (by intro u hu; obtain ⟨n, -, rfl⟩ := List.mem_map.1 hu; rfl) (w.heap.size + 1) _ hb1 (Nat.le_refl _) ?_; intro w2 hA2 hb2; replace hA2 := nonceStart hA2 HL.out))
      have A2 := A0.keep hb2 (Nat.lt_succ_self _)
      have B2 : Below w.heap.size w w2 := Below.step B0 (by rw [size_alloc]; exact hb2)
      have HQ : Hid (m < 4294967296) := by show _ < _; omega
      clear hA1 hb1 hb2 A0 B0 HR0 hi hz0 hz1 hz2 HI
      go_loopw [22] (fun i wr => ∃ k : Nat, k ≤ 4 ∧ i = .int .i64 k ∧ Arr wr (w.heap.size + 1) 5 ((nonceK base m k).map u8v) ∧ Arr wr w.heap.size 43 [.int .i64 0, .slice none 0 0] ∧ Below w.heap.size w wr)
        (fun i _ => 4 - (intOf i).toNat)
      case atStart => exact ⟨0, Nat.zero_le _, rfl, by rw [nonceK_zero base m HL.out]; exact hA2, A2, B2⟩
      case round =>
        clear hA2 A2 B2
        obtain ⟨k, hk, rfl, A, R, BW⟩ := hrel
        by_cases hlt : k < 4
        · have hkI : (k : Int) < 4 := by omega
          have cx := (A.cell (11 - k)).trans (nonceK_at base m hlt)
          have fx := A.frozen (11 - k)
          have e11 : (11 - (k : Int)).toNat = 11 - k := by omega
          have S2 := fun n => (A.drew (n := n)).set (11 - k) (.int .u8 ((base.getD (11 - k) 0 ^^^ seqB m k).toNat : Int))
          rw [nonceK_set base m hlt] at S2
          have R2 := fun n => (R.drew (n := n)).setOther (a := ⟨w.heap.size + 1, 11 - k, none⟩) (by show w.heap.size ≠ w.heap.size + 1; omega) (.int .u8 ((base.getD (11 - k) 0 ^^^ seqB m k).toNat : Int))
          have B2 := fun n => (below_drewN BW n).setCell (p := ⟨w.heap.size + 1, 11 - k, none⟩) (by show w.heap.size ≤ w.heap.size + 1; omega) (.int .u8 ((base.getD (11 - k) 0 ^^^ seqB m k).toNat : Int))
          have hxo := u8_xorv (base.getD (11 - k) 0) (seqB m k)
          rw [seqB_int m k] at hxo
          clear A R BW
          generalize base.getD (11 - k) 0 ^^^ seqB m k = xy at *
          generalize base.getD (11 - k) 0 = x at *
          go_wp2_with fail
          refine wp_region_tail (C := fun w' => ∃ k, w' = wr.drewN k) 12 rfl rfl rfl (by kernel_rfl) (by kernel_rfl) (by kernel_rfl) (by kernel_rfl) ⟨1, rfl⟩ ?_
          simp only [List.take_succ_cons, List.take_zero]
          repeat (go_big_quiet_step (fail))
          refine wpQuiet_nil ?_
          rintro w' ⟨nq, rfl⟩ K hK
          go_wp2_with fail
          go_roundw
          case rel => first | exact ⟨k + 1, by omega, by go_num, S2 nq, R2 nq, B2 nq⟩ | ((repeat apply Exists.intro); refine ⟨?_, rfl⟩; exact ⟨k + 1, by omega, by go_num, S2 nq, R2 nq, B2 nq⟩)
          case measure => simp [intOf]; omega
        · have e : k = 4 := by omega
          subst e
          rw [nonceK_all base m HQ.out] at A
          have HB : Hid ((nonceN base m).length = 12) := nonceN_len _ _
          have ho := A.own (Nat.le_refl _) (by rw [HB.out]; decide)
          rw [HB.out] at ho
          have c0 := R.cell 0
          have c1 := R.cell 1
          have fz := R.frozen
          simp at c0 c1
          clear A R HQ
          go_wp2_with fail
          refine bodyPost_ret (v := .agg #[.int .i64 0, .slice (some ⟨w.heap.size + 1, 0, none⟩) 12 12]) (by simp [results, Tryz.results175, go_sem, c0, c1]) rfl ⟨_, rfl, ?_, (BW.setCell (Nat.le_refl _) _).setCell (Nat.le_refl _) _⟩
          exact ((ho.set (Nat.lt_succ_self _) _).set (Nat.lt_succ_self _) _).lower (Nat.le_succ _)
  · have d1 : ((base.length : Int) != 12) = true := by rw [bne_iff_ne]; omega
    rw [show nfC base seq = 1 by simp [nfC, h1], show nfL base seq = [] by simp [nfL, h1]]
    clear h1
    go_enter Tryz.func175, Tryz.ntmps175
    go_wp2
    exact bodyPost_ret (v := .agg #[.int .i64 1, .slice none 0 0]) (by simp [results, Tryz.results175, go_sem]) rfl ⟨_, rfl, Own_nil _ _, alloc_below _ _⟩
end Go.Proofs.YtdbpnibcblelbaaGreatDoor
