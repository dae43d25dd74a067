/- The contracts of the stream in the specification: spec.l4Left, spec.l4Step, spec.l4Quarter (they write the row that they are given), spec.l4Low, spec.l4Start, spec.l4Block, spec.l4Xor, spec.l4Nonce. -/
import Derived.Test.YtdemfbbjdnjolaaDoorJoint8
import Derived.Test.YtdemfbbjdnjolaaDoorJoint4
import Derived.Test.YtdemfbbjdnjolaaDoorJoint5
import Derived.Test.YtdemfbbjdnjolaaDoorTail
import Derived.Test.YtdemfbbjdnjolaaDoorPad
import Derived.Test.YtdemfbbjdnjolaaDoorJoint10
import Derived.BigRegion
import Derived.Deep.RegionWith
namespace Go.Proofs.YtdemfbbjdnjolaaDoor
open Go.ChangeShapes Go.WideShapes Go.ChangeAt Go.RowKit

/-- An equation that no tactic looks into. -/
structure Known {α : Type} (a b : α) : Prop where
  eq : a = b

/-- Words in a row of one's own. -/
def OwnN (w : World) (B : Nat) (v : Value) (s : List Nat) : Prop := w.ownsRow B 2 1 v s.length (s.map i64v)
theorem i64_words (s : List Nat) : (s.map Int.ofNat).map i64z = s.map i64v := by simp [i64z, i64v]
theorem OwnN.toI {w : World} {B : Nat} {v : Value} {s : List Nat} (h : OwnN w B v s) : OwnI w B v (s.map Int.ofNat) := by
  unfold OwnI
  rw [i64_words, List.length_map]
  exact h
theorem OwnI.toN {w : World} {B : Nat} {v : Value} {s : List Nat} (h : OwnI w B v (s.map Int.ofNat)) : OwnN w B v s := by
  unfold OwnI at h
  rw [i64_words, List.length_map] at h
  exact h
theorem OwnN.cell {w : World} {B g n cap : Nat} {s : List Nat} (h : OwnN w B (.slice (some ⟨g, 0, none⟩) n cap) s) (hn : s.length = n) (i : Nat) (hi : i < n) : w.cell? ⟨g, i, none⟩ = some (.int .i64 (s.getD i 0 : Nat)) := by
  unfold OwnN at h
  rw [hn] at h
  rw [World.ownsRow.cellAt h i (by omega)]
  have : i < s.length := by omega
  simp [i64v, this]
theorem OwnN.frozen {w : World} {B g n cap : Nat} {s : List Nat} (h : OwnN w B (.slice (some ⟨g, 0, none⟩) n cap) s) (hn : s.length = n) (i : Nat) : w.frozen? ⟨g, i, none⟩ = false := by
  unfold OwnN at h
  rw [hn] at h
  exact World.ownsRow.frozenAt h i
theorem OwnN.set {w : World} {B g n cap : Nat} {s : List Nat} (h : OwnN w B (.slice (some ⟨g, 0, none⟩) n cap) s) (hn : s.length = n) (i x : Nat) : OwnN (w.setCell ⟨g, i, none⟩ (.int .i64 (x : Int))) B (.slice (some ⟨g, 0, none⟩) n cap) (s.set i x) := by
  unfold OwnN at h ⊢
  rw [hn] at h
  have R := World.ownsRow.stored h i (.int .i64 (x : Int))
  rw [List.length_set, List.map_set, hn]
  exact R.1
theorem OwnN.drewN {w : World} {B k : Nat} {v : Value} {s : List Nat} (h : OwnN w B v s) : OwnN (w.drewN k) B v s := h

set_option maxRecDepth 4000 in
set_option maxHeartbeats 400000 in
theorem l4Left_c (v n : Nat) (w : World) (h2 : v < 4294967296) (h3 : 1 ≤ n) (h4 : n ≤ 31) :
    Calls Tryd.prog 117 #[.int .i64 v, .int .i64 n] w fun e w' => e = .returned (.int .i64 (rotN v (32 - n) : Nat)) ∧ w' = w := by
  have K : Hid (∀ (w : World) (m : Int), m = ((32 - n : Nat) : Int) → Calls Tryd.prog 119 #[.int .i64 v, .int .i64 m] w fun e w' => e = .returned (.int .i64 (rotN v (32 - n) : Nat)) ∧ w' = w) := fun w m hm => by subst hm; exact l1Turn_c v (32 - n) w h2 (by omega) (by omega)
  go_enter Tryd.func117, Tryd.ntmps117
  go_wp2_with fail
  refine (K.out _ _ (by omega)).mono ?_
  rintro e w' ⟨rfl, rfl⟩
  go_wp2
  go_ret
  exact ⟨rfl, rfl⟩

set_option maxRecDepth 4000 in
set_option maxHeartbeats 2000000 in
theorem l4Step_c (B g cap : Nat) (s : List Nat) (a b d n : Nat) (w : World) (h : OwnN w B (.slice (some ⟨g, 0, none⟩) 16 cap) s) (hl : s.length = 16) (hok : Words s) (ha : a < 16) (hb : b < 16) (hd : d < 16) (h3 : 1 ≤ n) (h4 : n ≤ 31) :
    Calls Tryd.prog 106 #[.slice (some ⟨g, 0, none⟩) 16 cap, .int .i64 a, .int .i64 b, .int .i64 d, .int .i64 n] w fun e w' => e = .returned (.tuple #[]) ∧ OwnN w' B (.slice (some ⟨g, 0, none⟩) 16 cap) (stepN s a b d n) ∧ w.grownBy w' (some g) := by
  have ca := h.cell hl a ha
  have cb := h.cell hl b hb
  have fa := h.frozen hl a
  have ba := hok.getD a
  have bb := hok.getD b
  have S1 := h.set hl a ((s.getD a 0 + s.getD b 0) % 4294967296)
  rw [show s.set a ((s.getD a 0 + s.getD b 0) % 4294967296) = addAt s a b from rfl] at S1
  have G1 := grownBy_set w g a (.int .i64 (((s.getD a 0 + s.getD b 0) % 4294967296 : Nat) : Int))
  have hl1 : Hid ((addAt s a b).length = 16) := by show _ = _; rw [addAt_len, hl]
  have hok1 : Hid (Words (addAt s a b)) := addAt_ok hok a b
  have HE : Hid (stepN s a b d n = turnAt (addAt s a b) d a n) := rfl
  have hE : Hid (∀ x y : Nat, (((x : Int) + (y : Int)) % 4294967296) = (((x + y) % 4294967296 : Nat) : Int)) := fun x y => by omega
  generalize addAt s a b = s1 at *
  generalize s.getD a 0 = x at *
  generalize s.getD b 0 = y at *
  clear h hok hl
  go_enter Tryd.func106, Tryd.ntmps106
  go_wp2
  go_region
  rw [hE.out]
  generalize w.setCell ⟨g, a, none⟩ (.int .i64 (((x + y) % 4294967296 : Nat) : Int)) = W at *
  have ca1 := S1.cell hl1.out a ha
  have cd1 := S1.cell hl1.out d hd
  have fd := S1.frozen hl1.out d
  have ba1 := hok1.out.getD a
  have bd1 := hok1.out.getD d
  have S2 := S1.set hl1.out d (rotN (s1.getD d 0 ^^^ s1.getD a 0) (32 - n))
  rw [show s1.set d (rotN (s1.getD d 0 ^^^ s1.getD a 0) (32 - n)) = turnAt s1 d a n from rfl, ← HE.out] at S2
  clear ca cb fa hE S1
  generalize s1.getD a 0 = x1 at *
  generalize s1.getD d 0 = d1 at *
  have hx := i64_xor_nat d1 x1 (by omega) (by omega)
  have bx : Hid (d1 ^^^ x1 < 4294967296) := xor_lt32 bd1 ba1
  go_wp2
  refine wp_region_tail (C := fun w' => ∃ k, w' = W.drewN k) 14 rfl rfl rfl (by kernel_rfl) (by kernel_rfl) (by kernel_rfl) (by kernel_rfl) ⟨2, rfl⟩ ?_
  simp only [List.take_succ_cons, List.take_zero]
  repeat (go_big_quiet_step ((go_at_call 117; exact Calls.quiet_of_same (l4Left_c (d1 ^^^ x1) n _ bx.out h3 h4))))
  refine wpQuiet_nil ?_
  rintro w' ⟨nq, rfl⟩ K hK
  go_wp2
  exact bodyPost_end (v := .tuple #[]) (by simp [results, Tryd.results106, go_sem]) rfl ⟨rfl, S2, grownBy_trans G1 (grownBy_trans (grownBy_drewN W nq _) (grownBy_set _ g d _))⟩

set_option maxRecDepth 4000 in
set_option maxHeartbeats 1000000 in
theorem l4Quarter_c (B g cap : Nat) (s : List Nat) (a b c d : Nat) (w : World) (h : OwnN w B (.slice (some ⟨g, 0, none⟩) 16 cap) s) (hl : s.length = 16) (hok : Words s) (ha : a < 16) (hb : b < 16) (hc : c < 16) (hd : d < 16) :
    Calls Tryd.prog 93 #[.slice (some ⟨g, 0, none⟩) 16 cap, .int .i64 a, .int .i64 b, .int .i64 c, .int .i64 d] w fun e w' => e = .returned (.tuple #[]) ∧ OwnN w' B (.slice (some ⟨g, 0, none⟩) 16 cap) (quarterN s a b c d) ∧ w.grownBy w' (some g) := by
  have HL : Hid (s.length = 16) := hl
  have HO : Hid (Words s) := hok
  have HE : Hid (quarterN s a b c d = stepN (stepN (stepN (stepN s a b d 16) c d b 12) a b d 8) c d b 7) := rfl
  clear hl hok
  go_enter Tryd.func93, Tryd.ntmps93
  go_wp2_with fail
  refine (l4Step_c B g cap s a b d 16 w h HL.out HO.out ha hb hd (by decide) (by decide)).mono ?_
  rintro e w1 ⟨rfl, k1, g1⟩
  have L1 : Hid ((stepN s a b d 16).length = 16) := by show _ = _; rw [stepN_len, HL.out]
  have O1 : Hid (Words (stepN s a b d 16)) := stepN_ok HO.out _ _ _ _
  generalize stepN s a b d 16 = s1 at *
  go_wp2_with fail
  refine (l4Step_c B g cap s1 c d b 12 w1 k1 L1.out O1.out hc hd hb (by decide) (by decide)).mono ?_
  rintro e w2 ⟨rfl, k2, g2⟩
  have L2 : Hid ((stepN s1 c d b 12).length = 16) := by show _ = _; rw [stepN_len, L1.out]
  have O2 : Hid (Words (stepN s1 c d b 12)) := stepN_ok O1.out _ _ _ _
  generalize stepN s1 c d b 12 = s2 at *
  go_wp2_with fail
  refine (l4Step_c B g cap s2 a b d 8 w2 k2 L2.out O2.out ha hb hd (by decide) (by decide)).mono ?_
  rintro e w3 ⟨rfl, k3, g3⟩
  have L3 : Hid ((stepN s2 a b d 8).length = 16) := by show _ = _; rw [stepN_len, L2.out]
  have O3 : Hid (Words (stepN s2 a b d 8)) := stepN_ok O2.out _ _ _ _
  generalize stepN s2 a b d 8 = s3 at *
  go_wp2_with fail
  refine (l4Step_c B g cap s3 c d b 7 w3 k3 L3.out O3.out hc hd hb (by decide) (by decide)).mono ?_
  rintro e w4 ⟨rfl, k4, g4⟩
  go_wp2
  exact bodyPost_end (v := .tuple #[]) (by simp [results, Tryd.results93, go_sem]) rfl ⟨rfl, by rw [HE.out]; exact k4, grownBy_trans g1 (grownBy_trans g2 (grownBy_trans g3 g4))⟩

set_option maxRecDepth 4000 in
set_option maxHeartbeats 1000000 in
theorem l4Low_c (b o cap : Nat) (bs : List UInt8) (w : World) (hr : Rd w (some ⟨b, o, none⟩) cap bs) (h4 : bs.length = 4) :
    Calls Tryd.prog 105 #[.slice (some ⟨b, o, none⟩) 4 cap] w fun e w' => e = .returned (.int .i64 (low4 bs 0 : Nat)) ∧ ∃ n, w' = w.drewN n := by
  obtain ⟨b', o', ea, hc⟩ := hr.2.2.2 (by omega)
  simp at ea
  obtain ⟨rfl, rfl⟩ := ea
  have c0 := hc 0 (by omega)
  have c1 := hc 1 (by omega)
  have c2 := hc 2 (by omega)
  have c3 := hc 3 (by omega)
  rw [Nat.add_zero] at c0
  have HE : Hid (((low4 bs 0 : Nat) : Int) = at8 bs 0 + at8 bs 1 * 256 + at8 bs 2 * 65536 + at8 bs 3 * 16777216) := by show _ = _; unfold low4 at8; simp only [Nat.mul_zero, Nat.zero_add]; omega
  have a0 := at8_lo bs 0
  have a1 := at8_lo bs 1
  have a2 := at8_lo bs 2
  have a3 := at8_lo bs 3
  have b0 := at8_hi bs 0
  have b1 := at8_hi bs 1
  have b2 := at8_hi bs 2
  have b3 := at8_hi bs 3
  generalize at8 bs 0 = x0 at *
  generalize at8 bs 1 = x1 at *
  generalize at8 bs 2 = x2 at *
  generalize at8 bs 3 = x3 at *
  clear hc hr h4
  go_enter Tryd.func105, Tryd.ntmps105
  go_wp2
  go_quiet (fail)
  go_wp2
  go_ret
  exact ⟨by rw [HE.out]; rfl, _, rfl⟩

theorem OwnI.toW {w : World} {B : Nat} {v : Value} {l : List Int} (h : OwnI w B v l) (s : List Nat) (e : l = s.map Int.ofNat) : OwnN w B v s := by subst e; exact h.toN

theorem low4_cut (bs : List UInt8) (k : Nat) : low4 ((bs.drop (4 * k)).take 4) 0 = low4 bs k := by
  unfold low4
  simp only [List.getD_eq_getElem?_getD, List.getElem?_take, List.getElem?_drop]
  simp

set_option maxRecDepth 4000 in
set_option maxHeartbeats 2000000 in
theorem l4Start_c (p p2 : Option Addr) (q q2 : Nat) (key nonce : List UInt8) (count : Nat) (w : World) (hr : Rd w p q key) (hr2 : Rd w p2 q2 nonce) (hk : key.length = 32) (hn : nonce.length = 12) :
    Calls Tryd.prog 92 #[.slice p 32 q, .slice p2 12 q2, .int .i64 (count : Int)] w fun e w' => ∃ (g cap : Nat), e = .returned (.slice (some ⟨g, 0, none⟩) 16 cap) ∧ OwnN w' w.heap.size (.slice (some ⟨g, 0, none⟩) 16 cap) (startS key nonce count) ∧ Below w.heap.size w w' := by
  obtain ⟨b1, o1, rfl, -⟩ := hr.2.2.2 (by omega)
  obtain ⟨b2, o2, rfl, -⟩ := hr2.2.2.2 (by omega)
  have HR : Hid (Rd w (some ⟨b1, o1, none⟩) q key) := hr
  have HR2 : Hid (Rd w (some ⟨b2, o2, none⟩) q2 nonce) := hr2
  have HK : Hid (key.length = 32) := hk
  have HN : Hid (nonce.length = 12) := hn
  have hq : 32 ≤ q := by have := hr.1; omega
  have hq2 : 12 ≤ q2 := by have := hr2.1; omega
  have hm : q ≤ 2 ^ 63 - 1 := hr.2.1
  have hm2 : q2 ≤ 2 ^ 63 - 1 := hr2.2.1
  clear hr hr2 hk hn
  go_enter Tryd.func92, Tryd.ntmps92
  have O1 : OwnI (w.alloc (.cells #[.int .i64 1634760805, .int .i64 857760878, .int .i64 2036477234, .int .i64 1797285236] 2)) w.heap.size (.slice (some ⟨w.heap.size, 0, none⟩) 4 4) ((headS ++ lowsN key 0).map Int.ofNat) :=
    World.ownsRow_lit (base := w.heap.size) (e := 2) (size := 1) w #[.int .i64 1634760805, .int .i64 857760878, .int .i64 2036477234, .int .i64 1797285236] 4 (Nat.le_refl _) (by unfold maxLen; decide) (by simp)
  have B1 := alloc_below w (.cells #[.int .i64 1634760805, .int .i64 857760878, .int .i64 2036477234, .int .i64 1797285236] 2)
  go_wp2
  go_loopw [7, 8] (fun v i wr => ∃ k : Nat, k ≤ 8 ∧ i = .int .i64 (4 * (k : Int)) ∧ OwnI wr w.heap.size v ((headS ++ lowsN key k).map Int.ofNat) ∧ Below w.heap.size w wr)
    (fun _ i _ => 32 - (intOf i).toNat)
  case atStart => exact ⟨0, Nat.zero_le _, rfl, O1, B1⟩
  case round =>
    clear O1 B1
    obtain ⟨k, hk, rfl, ho, BW⟩ := hrel
    have HLn : Hid (((headS ++ lowsN key k).map Int.ofNat).length = 4 + k) := by show _ = _; simp [headS, lowsN_len]; omega
    obtain ⟨pv, qv, rfl, -⟩ := ho.rd
    by_cases hlt : k < 8
    · have hcut := (HR.out.keep BW).cut (4 * k) 4 (q - 4 * k) (by rw [HK.out]; omega) (by omega) (by have := HR.out.2.1; omega)
      have h4 : Hid (((key.drop (4 * k)).take 4).length = 4) := by show _ = _; have := HK.out; simp; omega
      have HE : Hid ((headS ++ lowsN key k).map Int.ofNat ++ [((low4 key k : Nat) : Int)] = (headS ++ lowsN key (k + 1)).map Int.ofNat) := by show _ = _; rw [lowsN_succ key k]; simp
      generalize (headS ++ lowsN key k).map Int.ofNat = L at *
      go_wp2_with fail
      refine (l4Low_c b1 (o1 + 4 * k) (q - 4 * k) _ _ hcut h4.out).mono ?_
      rintro e w1 ⟨rfl, nn, rfl⟩
      rw [low4_cut]
      have ho1 : OwnI (wr.drewN nn) w.heap.size (.slice pv L.length qv) L := ho
      have BW1 : Below w.heap.size w (wr.drewN nn) := below_drewN BW nn
      clear ho BW hcut h4
      generalize wr.drewN nn = w1 at *
      have ho2 := ho1.stay (alloc_below w1 (.cells #[.int .i64 ((low4 key k : Nat) : Int)] 2))
      go_wp2_with (at_builtin; refine wpList_append_rdI rfl (.tmp 15) (.tmp 22) rfl w.heap.size _ L rfl ho2 _ 1 [((low4 key k : Nat) : Int)] rfl (rdI_one w1 _ _) (by have := HLn.out; simp; omega) (by have := BW1.size; simp; omega) ?_; intro v3 w3 ho3 hg3)
      rw [HE.out] at ho3
      have BW3 := (Below.mk BW1 (.cells #[.int .i64 ((low4 key k : Nat) : Int)] 2)).grown hg3 (by have := BW1.size; simp; omega) (fun k hk => ho1.ge k hk)
      clear ho1 ho2 hg3 BW1
      go_roundw
      case rel => exact ⟨k + 1, by omega, by go_num, ho3, BW3⟩
      case measure => simp [intOf]; omega
    · have e : k = 8 := by omega
      subst e
      have HE : Hid ((headS ++ lowsN key 8).map Int.ofNat ++ [(count : Int)] = (headS ++ lowsN key 8 ++ [count] ++ lowsN nonce 0).map Int.ofNat) := by show _ = _; simp [lowsN]
      have ho2 := ho.stay (alloc_below wr (.cells #[.int .i64 (count : Int)] 2))
      go_wp2_with (at_builtin; refine wpList_append_rdI rfl (.tmp 24) (.tmp 26) rfl w.heap.size _ ((headS ++ lowsN key 8).map Int.ofNat) rfl ho2 _ 1 [(count : Int)] rfl (rdI_one wr _ _) (by have := HLn.out; simp [lowsN_len, headS]) (by have := BW.size; simp; omega) ?_; intro v3 w3 ho3 hg3; rw [HE.out] at ho3; have BW3 := (Below.mk BW (.cells #[.int .i64 (count : Int)] 2)).grown hg3 (by have := BW.size; simp; omega) (fun k hk => ho.ge k hk); clear ho ho2 hg3 BW HE HLn hlt hk)
      go_loopw [7, 9] (fun v i wr => ∃ k : Nat, k ≤ 3 ∧ i = .int .i64 (4 * (k : Int)) ∧ OwnI wr w.heap.size v ((headS ++ lowsN key 8 ++ [count] ++ lowsN nonce k).map Int.ofNat) ∧ Below w.heap.size w wr)
        (fun _ i _ => 12 - (intOf i).toNat)
      case atStart => exact ⟨0, Nat.zero_le _, rfl, ho3, BW3⟩
      case round =>
        clear ho3 BW3
        obtain ⟨k, hk, rfl, ho, BW⟩ := hrel
        have HLn : Hid (((headS ++ lowsN key 8 ++ [count] ++ lowsN nonce k).map Int.ofNat).length = 13 + k) := by show _ = _; simp [headS, lowsN_len]; omega
        obtain ⟨pv, qv, rfl, -⟩ := ho.rd
        by_cases hlt : k < 3
        · have hcut := (HR2.out.keep BW).cut (4 * k) 4 (q2 - 4 * k) (by rw [HN.out]; omega) (by omega) (by have := HR2.out.2.1; omega)
          have h4 : Hid (((nonce.drop (4 * k)).take 4).length = 4) := by show _ = _; have := HN.out; simp; omega
          have HE : Hid ((headS ++ lowsN key 8 ++ [count] ++ lowsN nonce k).map Int.ofNat ++ [((low4 nonce k : Nat) : Int)] = (headS ++ lowsN key 8 ++ [count] ++ lowsN nonce (k + 1)).map Int.ofNat) := by show _ = _; rw [lowsN_succ nonce k]; simp
          generalize (headS ++ lowsN key 8 ++ [count] ++ lowsN nonce k).map Int.ofNat = L at *
          go_wp2_with fail
          refine (l4Low_c b2 (o2 + 4 * k) (q2 - 4 * k) _ _ hcut h4.out).mono ?_
          rintro e w1 ⟨rfl, nn, rfl⟩
          rw [low4_cut]
          have ho1 : OwnI (wr.drewN nn) w.heap.size (.slice pv L.length qv) L := ho
          have BW1 : Below w.heap.size w (wr.drewN nn) := below_drewN BW nn
          clear ho BW hcut h4
          generalize wr.drewN nn = w1 at *
          have ho2 := ho1.stay (alloc_below w1 (.cells #[.int .i64 ((low4 nonce k : Nat) : Int)] 2))
          go_wp2_with (at_builtin; refine wpList_append_rdI rfl (.tmp 32) (.tmp 39) rfl w.heap.size _ L rfl ho2 _ 1 [((low4 nonce k : Nat) : Int)] rfl (rdI_one w1 _ _) (by have := HLn.out; simp; omega) (by have := BW1.size; simp; omega) ?_; intro v3 w3 ho3 hg3)
          rw [HE.out] at ho3
          have BW3 := (Below.mk BW1 (.cells #[.int .i64 ((low4 nonce k : Nat) : Int)] 2)).grown hg3 (by have := BW1.size; simp; omega) (fun k hk => ho1.ge k hk)
          clear ho1 ho2 hg3 BW1
          go_roundw
          case rel => exact ⟨k + 1, by omega, by go_num, ho3, BW3⟩
          case measure => simp [intOf]; omega
        · have e : k = 3 := by omega
          subst e
          have HS : Hid ((startS key nonce count).length = 16) := startS_len key nonce count
          have hoN : OwnN wr w.heap.size (.slice pv ((headS ++ lowsN key 8 ++ [count] ++ lowsN nonce 3).map Int.ofNat).length qv) (startS key nonce count) := ho.toN
          rw [HLn.out] at hoN ⊢
          obtain ⟨g, rfl⟩ : ∃ g, pv = some ⟨g, 0, none⟩ := by
            obtain ⟨-, h2⟩ := id hoN
            rcases h2 with ⟨e2, -⟩ | ⟨g, c, cur, e2, -⟩
            · simp at e2
            · simp at e2; exact ⟨g, e2.1⟩
          go_wp2
          go_ret
          exact ⟨g, qv, rfl, hoN, BW⟩

theorem OwnN.rdI {w : World} {B g n cap : Nat} {s : List Nat} (h : OwnN w B (.slice (some ⟨g, 0, none⟩) n cap) s) : RdI w (some ⟨g, 0, none⟩) cap (s.map Int.ofNat) := RdI.own h.toI
theorem OwnN.stay {w w' : World} {B : Nat} {v : Value} {s : List Nat} (h : OwnN w B v s) (hb : Below w.heap.size w w') : OwnN w' B v s := (h.toI.stay hb).toN
theorem OwnN.other {w w' : World} {B : Nat} {v : Value} {s : List Nat} {row : Option Nat} (h : OwnN w B v s) (hg : w.grownBy w' row) (hne : ∀ k, v.ownBlock = some k → row ≠ some k) : OwnN w' B v s := (h.toI.other hg hne).toN
theorem OwnN.ge {w : World} {B : Nat} {v : Value} {s : List Nat} (h : OwnN w B v s) : ∀ k, v.ownBlock = some k → B ≤ k := h.toI.ge
theorem OwnN.lt {w : World} {B : Nat} {v : Value} {s : List Nat} (h : OwnN w B v s) : ∀ k, v.ownBlock = some k → k < w.heap.size := h.toI.lt
theorem l4Quarter_l (B g cap : Nat) (s : List Nat) (a b c d : Nat) (ai bi ci di : Int) (h1 : ai = a) (h2 : bi = b) (h3 : ci = c) (h4 : di = d) (w : World) (h : OwnN w B (.slice (some ⟨g, 0, none⟩) 16 cap) s) (hl : s.length = 16) (hok : Words s) (ha : a < 16) (hb : b < 16) (hc : c < 16) (hd : d < 16) :
    Calls Tryd.prog 93 #[.slice (some ⟨g, 0, none⟩) 16 cap, .int .i64 ai, .int .i64 bi, .int .i64 ci, .int .i64 di] w fun e w' => e = .returned (.tuple #[]) ∧ OwnN w' B (.slice (some ⟨g, 0, none⟩) 16 cap) (quarterN s a b c d) ∧ w.grownBy w' (some g) := by
  subst h1 h2 h3 h4; exact l4Quarter_c B g cap s a b c d w h hl hok ha hb hc hd

theorem putL_rd (w : World) (x : Nat) (h : x < 4294967296) (t : TypeId) (a b c d : Int) (ha : a = (x : Int) % 256) (hb : b = ((x : Int) / 256) % 256) (hc : c = ((x : Int) / 65536) % 256) (hd : d = (x : Int) / 16777216) :
    Rd (w.alloc (.cells #[.int .u8 a, .int .u8 b, .int .u8 c, .int .u8 d] t)) (some ⟨w.heap.size, 0, none⟩) 4 (putL x) := by
  have hA := Arr.new w [.int .u8 a, .int .u8 b, .int .u8 c, .int .u8 d] t
  have hu : ∀ v : Nat, v < 256 → u8v (UInt8.ofNat v) = .int .u8 (v : Int) := fun v hv => by unfold u8v; rw [UInt8.toNat_ofNat', Nat.mod_eq_of_lt hv]
  have hl : (putL x).length = 4 := rfl
  refine ⟨by rw [hl]; exact Nat.le_refl _, by unfold maxLen; decide, fun e => by simp at e, fun _ => ⟨_, _, rfl, fun i hi => ?_⟩⟩
  rw [Nat.zero_add, hA.cell, ← u8v_at hi]
  have e1 : u8v (UInt8.ofNat (x % 256)) = .int .u8 a := by rw [hu _ (by omega), ha]; congr 1
  have e2 : u8v (UInt8.ofNat (x / 256 % 256)) = .int .u8 b := by rw [hu _ (by omega), hb]; congr 1
  have e3 : u8v (UInt8.ofNat (x / 65536 % 256)) = .int .u8 c := by rw [hu _ (by omega), hc]; congr 1
  have e4 : u8v (UInt8.ofNat (x / 16777216)) = .int .u8 d := by rw [hu _ (by omega), hd]; congr 1
  simp only [putL, List.map_cons, List.map_nil, e1, e2, e3, e4]

set_option maxRecDepth 4000 in
set_option maxHeartbeats 2000000 in
theorem l4Block_c (p p2 : Option Addr) (q q2 : Nat) (key nonce : List UInt8) (count : Nat) (w : World) (hr : Rd w p q key) (hr2 : Rd w p2 q2 nonce) (hk : key.length = 32) (hn : nonce.length = 12) (hcn : count < 4294967296) :
    Calls Tryd.prog 80 #[.slice p 32 q, .slice p2 12 q2, .int .i64 (count : Int)] w fun e w' => ∃ u, e = .returned u ∧ Own w' w.heap.size u (blockS key nonce count) ∧ Below w.heap.size w w' := by
  have HE : Known (blockS key nonce count) (outS (dblsN (startS key nonce count) 10) (startS key nonce count) 16) := ⟨rfl⟩
  have K1 : Hid (Calls Tryd.prog 92 #[.slice p 32 q, .slice p2 12 q2, .int .i64 (count : Int)] w fun e w' => ∃ (g cap : Nat), e = .returned (.slice (some ⟨g, 0, none⟩) 16 cap) ∧ OwnN w' w.heap.size (.slice (some ⟨g, 0, none⟩) 16 cap) (startS key nonce count) ∧ Below w.heap.size w w') := l4Start_c p p2 q q2 key nonce count w hr hr2 hk hn
  have HL : Hid ((startS key nonce count).length = 16) := startS_len _ _ _
  have HO : Hid (Words (startS key nonce count)) := startS_ok key nonce hcn
  generalize startS key nonce count = s0 at *
  clear hr hr2 hk hn hcn
  go_enter Tryd.func80, Tryd.ntmps80
  go_wp2_with fail
  refine K1.out.mono ?_
  rintro e w1 ⟨g7, c7, rfl, k7, BW⟩
  clear K1
  have O1 : OwnI (w1.alloc (.cells #[] 2)) w1.heap.size (.slice (some ⟨w1.heap.size, 0, none⟩) 0 0) [] := World.ownsRow_lit (base := w1.heap.size) (e := 2) (size := 1) w1 #[] 0 (Nat.le_refl _) (by unfold maxLen; decide) (by simp)
  have k7' := k7.stay (alloc_below w1 (.cells #[] 2))
  have hlI : Hid ((s0.map Int.ofNat).length = 16) := by show _ = _; rw [List.length_map, HL.out]
  have BX := Below.mk BW (.cells #[] 2)
  have hz7 : Hid (g7 < w1.heap.size) := k7.lt g7 rfl
  have R7 : Hid (RdI (w1.alloc (.cells #[] 2)) (some ⟨g7, 0, none⟩) c7 (s0.map Int.ofNat)) := k7'.rdI
  have hzw : Hid (w.heap.size ≤ w1.heap.size) := BW.size
  go_wp2_with (at_builtin; refine wpList_append_rdI rfl (.tmp 19) (.tmp 20) rfl w1.heap.size _ [] rfl O1 _ c7 (s0.map Int.ofNat) (by rw [hlI.out]; rfl) R7.out (by rw [hlI.out]; decide) (by simp) ?_; intro v8 w8 k8 hg8; rw [List.nil_append] at k8; replace k7' := k7'.other hg8 (fun k hk e => by have h1 := O1.ge k e; simp [Value.ownBlock] at hk; have := hz7.out; omega); have BW8 := BX.grown hg8 BX.size (fun k hk => by have := O1.ge k hk; have := hzw.out; omega); clear hg8 O1 BX)
  obtain ⟨p8, c8, rfl, -⟩ := k8.rd
  have k8N := k8.toN
  rw [hlI.out] at k8N ⊢
  obtain ⟨g8, rfl⟩ : ∃ g, p8 = some ⟨g, 0, none⟩ := by
    obtain ⟨-, h2⟩ := id k8N
    rcases h2 with ⟨e2, -⟩ | ⟨g, c, cur, e2, -⟩
    · simp at e2
    · simp at e2; exact ⟨g, e2.1⟩
  have hz8 : Hid (w1.heap.size ≤ g8) := k8N.ge g8 rfl
  have ne78 : Hid (g7 ≠ g8) := by show _ ≠ _; have := hz7.out; have := hz8.out; omega
  clear k8 k7 R7 hlI BW
  generalize w1.heap.size = H1 at *
  clear w1
  go_loopw [9] (fun i wr => ∃ k : Nat, k ≤ 10 ∧ i = .int .i64 k ∧ OwnN wr H1 (.slice (some ⟨g8, 0, none⟩) 16 c8) (dblsN s0 k) ∧ OwnN wr w.heap.size (.slice (some ⟨g7, 0, none⟩) 16 c7) s0 ∧ Below w.heap.size w wr)
    (fun i _ => 10 - (intOf i).toNat)
  case atStart => exact ⟨0, Nat.zero_le _, rfl, k8N, k7', BW8⟩
  case round =>
    clear k8N k7' BW8
    obtain ⟨k, hk, rfl, A, F, BW⟩ := hrel
    have HLk : Hid ((dblsN s0 k).length = 16) := by show _ = _; rw [dblsN_len, HL.out]
    have HOk : Hid (Words (dblsN s0 k)) := dblsN_ok HO.out k
    by_cases hlt : k < 10
    · have hkI : (k : Int) < 10 := by omega
      have HD : Known (dblsN s0 (k + 1)) (diasN (colsN (dblsN s0 k) 4) 4) := ⟨rfl⟩
      generalize dblsN s0 k = sk at *
      go_wp2_with fail
      go_loopw [10] (fun i wr => ∃ j : Nat, j ≤ 4 ∧ i = .int .i64 j ∧ OwnN wr H1 (.slice (some ⟨g8, 0, none⟩) 16 c8) (colsN sk j) ∧ OwnN wr w.heap.size (.slice (some ⟨g7, 0, none⟩) 16 c7) s0 ∧ Below w.heap.size w wr)
        (fun i _ => 4 - (intOf i).toNat)
      case atStart => exact ⟨0, Nat.zero_le _, rfl, A, F, BW⟩
      case round =>
        clear A F BW
        obtain ⟨j, hj, rfl, A, F, BW⟩ := hrel
        have HLj : Hid ((colsN sk j).length = 16) := by show _ = _; rw [colsN_len, HLk.out]
        have HOj : Hid (Words (colsN sk j)) := colsN_ok HOk.out j
        by_cases hjl : j < 4
        · have hjI : (j : Int) < 4 := by omega
          have HJ : Known (colsN sk (j + 1)) (quarterN (colsN sk j) j (4 + j) (8 + j) (12 + j)) := ⟨rfl⟩
          generalize colsN sk j = sj at *
          go_wp2_with fail
          refine (l4Quarter_l H1 g8 c8 sj j (4 + j) (8 + j) (12 + j) _ _ _ _ rfl (by omega) (by omega) (by omega) _ A HLj.out HOj.out (by omega) (by omega) (by omega) (by omega)).mono ?_
          rintro e w2 ⟨rfl, A2, hg2⟩
          have F2 := F.other hg2 (fun k hk e => by have := ne78.out; simp [Value.ownBlock] at hk e; omega)
          have BW2 := BW.grown hg2 BW.size (fun k hk => by have := hz8.out; have := hzw.out; simp at hk; omega)
          rw [← HJ.eq] at A2
          clear A F BW hg2
          go_wp2_with fail
          go_roundw
          case rel => first | exact ⟨j + 1, by omega, by go_num, A2, F2, BW2⟩ | ((repeat apply Exists.intro); refine ⟨?_, rfl⟩; exact ⟨j + 1, by omega, by go_num, A2, F2, BW2⟩)
          case measure => simp [intOf]; omega
        · have e : j = 4 := by omega
          subst e
          generalize colsN sk 4 = sc at *
          clear HLk HOk hjl hj
          go_wp2_with fail
          go_loopw [11] (fun i wr => ∃ j : Nat, j ≤ 4 ∧ i = .int .i64 j ∧ OwnN wr H1 (.slice (some ⟨g8, 0, none⟩) 16 c8) (diasN sc j) ∧ OwnN wr w.heap.size (.slice (some ⟨g7, 0, none⟩) 16 c7) s0 ∧ Below w.heap.size w wr)
            (fun i _ => 4 - (intOf i).toNat)
          case atStart => exact ⟨0, Nat.zero_le _, rfl, A, F, BW⟩
          case round =>
            clear A F BW
            obtain ⟨j, hj, rfl, A, F, BW⟩ := hrel
            have HLd : Hid ((diasN sc j).length = 16) := by show _ = _; rw [diasN_len, HLj.out]
            have HOd : Hid (Words (diasN sc j)) := diasN_ok HOj.out j
            by_cases hjl : j < 4
            · have hjI : (j : Int) < 4 := by omega
              have HJ : Known (diasN sc (j + 1)) (quarterN (diasN sc j) j (4 + (j + 1) % 4) (8 + (j + 2) % 4) (12 + (j + 3) % 4)) := ⟨rfl⟩
              generalize diasN sc j = sj at *
              go_wp2_with fail
              refine (l4Quarter_l H1 g8 c8 sj j (4 + (j + 1) % 4) (8 + (j + 2) % 4) (12 + (j + 3) % 4) _ _ _ _ rfl (by omega) (by omega) (by omega) _ A HLd.out HOd.out (by omega) (by omega) (by omega) (by omega)).mono ?_
              rintro e w2 ⟨rfl, A2, hg2⟩
              have F2 := F.other hg2 (fun k hk e => by have := ne78.out; simp [Value.ownBlock] at hk e; omega)
              have BW2 := BW.grown hg2 BW.size (fun k hk => by have := hz8.out; have := hzw.out; simp at hk; omega)
              rw [← HJ.eq] at A2
              clear A F BW hg2
              go_wp2_with fail
              go_roundw
              case rel => first | exact ⟨j + 1, by omega, by go_num, A2, F2, BW2⟩ | ((repeat apply Exists.intro); refine ⟨?_, rfl⟩; exact ⟨j + 1, by omega, by go_num, A2, F2, BW2⟩)
              case measure => simp [intOf]; omega
            · have e : j = 4 := by omega
              subst e
              rw [← HD.eq] at A
              go_wp2_with fail
              go_roundw
              case rel => exact ⟨k + 1, by omega, by go_num, A, F, BW⟩
              case measure => simp [intOf]; omega
    · have e : k = 10 := by omega
      subst e
      generalize dblsN s0 10 = sz at *
      have O2 := none_own8 wr wr.heap.size (Nat.le_refl _)
      have A2 := A.stay (alloc_below wr (.cells #[] 5))
      have F2 := F.stay (alloc_below wr (.cells #[] 5))
      have BW2 := Below.mk BW (.cells #[] 5)
      have z8 : Hid (g8 < wr.heap.size) := A.lt g8 rfl
      have z7 : Hid (g7 < wr.heap.size) := F.lt g7 rfl
      have zw : Hid (w.heap.size ≤ wr.heap.size) := BW.size
      clear A F BW hk hlt
      have hH0 : Hid (wr.heap.size ≤ (wr.alloc (.cells #[] 5)).heap.size) := by show _ ≤ _; simp
      go_wp2_with fail
      generalize wr.heap.size = H2 at *
      go_loopw [12, 13] (fun v i wr => ∃ j : Nat, j ≤ 16 ∧ i = .int .i64 j ∧ Own wr H2 v (outS sz s0 j) ∧ OwnN wr H1 (.slice (some ⟨g8, 0, none⟩) 16 c8) sz ∧ OwnN wr w.heap.size (.slice (some ⟨g7, 0, none⟩) 16 c7) s0 ∧ H2 ≤ wr.heap.size ∧ Below w.heap.size w wr)
        (fun _ i _ => 16 - (intOf i).toNat)
      case atStart => exact ⟨0, Nat.zero_le _, rfl, O2, A2, F2, hH0.out, BW2⟩
      case round =>
        clear O2 A2 F2 BW2
        obtain ⟨j, hj, rfl, ho, A, F, hH2, BW⟩ := hrel
        have HLo : Hid ((outS sz s0 j).length = 4 * j) := outS_len sz s0 j
        have hls : Hid (sz.length = 16) := HLk.out
        obtain ⟨po, qo, rfl, -⟩ := ho.rd
        rw [HLo.out] at ho ⊢
        by_cases hjl : j < 16
        · have hjI : (j : Int) < 16 := by omega
          have HS : Known (outS sz s0 (j + 1)) (outS sz s0 j ++ putL (sumAt sz s0 j)) := ⟨outS_succ sz s0 j⟩
          have hsum : Hid (((sumAt sz s0 j : Nat) : Int) = ((sz.getD j 0 : Nat) + (s0.getD j 0 : Nat) : Int) % 4294967296) := by show _ = _; unfold sumAt; omega
          have hsl : sumAt sz s0 j < 4294967296 := Nat.mod_lt _ (by decide)
          have ca := A.cell hls.out j hjl
          have cf := F.cell HL.out j hjl
          have ba := HOk.out.getD j
          have bf := HO.out.getD j
          generalize sumAt sz s0 j = x at *
          generalize sz.getD j 0 = xa at *
          generalize s0.getD j 0 = xf at *
          go_wp2_with fail
          go_quiet (fail)
          rw [← hsum.out]
          have ho1 : Own (wr.drewN nq) H2 (.slice po (4 * j) qo) (outS sz s0 j) := ho
          have A1 : OwnN (wr.drewN nq) H1 (.slice (some ⟨g8, 0, none⟩) 16 c8) sz := A
          have F1 : OwnN (wr.drewN nq) w.heap.size (.slice (some ⟨g7, 0, none⟩) 16 c7) s0 := F
          have BW1 : Below w.heap.size w (wr.drewN nq) := below_drewN BW nq
          have hH3 : H2 ≤ (wr.drewN nq).heap.size := hH2
          clear ho A F BW ca cf hH2 hsum
          generalize wr.drewN nq = w2 at *
          have ho2 := fun o => ho1.stay (alloc_below w2 o)
          go_wp2_with (at_builtin; go_loud (refine wpList_append_rd rfl (.tmp 73) (.tmp 88) rfl H2 _ (outS sz s0 j) rfl (ho2 _) _ 4 (putL x) rfl (putL_rd w2 x hsl _ _ _ _ _ (by omega) (by omega) (by omega) (by omega)) (by have := HLo.out; simp [putL]; omega) (by simp; omega) ?_); intro v8 w8 ho8 hg8)
          rw [← HS.eq] at ho8
          have A8 := (A1.stay (alloc_below w2 _)).other hg8 (fun k hk e => by have := ho1.ge k e; have := z8.out; simp [Value.ownBlock] at hk; omega)
          have F8 := (F1.stay (alloc_below w2 _)).other hg8 (fun k hk e => by have := ho1.ge k e; have := z7.out; simp [Value.ownBlock] at hk; omega)
          have BW8 := (Below.mk BW1 _).grown hg8 (Below.mk BW1 _).size (fun k hk => by have := ho1.ge k hk; have := zw.out; omega)
          have hH8 : H2 ≤ w8.heap.size := by have := hg8.size; simp at this; omega
          clear ho1 ho2 A1 F1 BW1 hg8
          go_roundw
          case rel => first | exact ⟨j + 1, by omega, by go_num, ho8, A8, F8, hH8, BW8⟩ | ((repeat apply Exists.intro); refine ⟨?_, rfl⟩; exact ⟨j + 1, by omega, by go_num, ho8, A8, F8, hH8, BW8⟩)
          case measure => simp [intOf]; omega
        · have e : j = 16 := by omega
          subst e
          go_wp2_with fail
          go_ret
          exact ⟨_, rfl, by rw [HE.eq]; exact ho.lower zw.out, BW⟩
end Go.Proofs.YtdemfbbjdnjolaaDoor

