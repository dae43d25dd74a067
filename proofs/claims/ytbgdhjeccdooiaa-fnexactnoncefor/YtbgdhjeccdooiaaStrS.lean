/- The contracts of the stream in the specification: spec.l4Left, spec.l4Step, spec.l4Quarter (they write the row that they are given), spec.l4Low, spec.l4Start, spec.l4Block, spec.l4Xor, spec.l4Nonce. -/
import Derived.Test.YtbgdhjeccdooiaaStream
import Derived.Test.YtbgdhjeccdooiaaTurn
import Derived.Test.YtbgdhjeccdooiaaInts
import Derived.Test.YtbgdhjeccdooiaaTail
import Derived.Test.YtbgdhjeccdooiaaPad
import Derived.Test.YtbgdhjeccdooiaaDrawR
import Derived.BigRegion
import Derived.Deep.RegionWith
namespace Go.Proofs.Ytbgdhjeccdooiaa
open Go.ChangeShapes Go.WideShapes Go.ChangeAt Go.RowKit

/-- An equation that no tactic looks into. -/
structure Known {α : Type} (a b : α) : Prop where
  eq : a = b

/-- Words in a row of one's own. -/
def OwnN (w : World) (B : Nat) (v : Value) (s : List Nat) : Prop := w.ownsRow B 2 1 v s.length (s.map i64v)
theorem i64_words (s : List Nat) : (s.map Int.ofNat).map i64z = s.map i64v := by simp [i64z, i64v]
theorem OwnN.toI {w : World} {B : Nat} {v : Value} {s : List Nat} (h : OwnN w B v s) : OwnI w B v (s.map Int.ofNat) := by
  unfold OwnI
  rw [i64_words, List.length_map]
  exact h
theorem OwnI.toN {w : World} {B : Nat} {v : Value} {s : List Nat} (h : OwnI w B v (s.map Int.ofNat)) : OwnN w B v s := by
  unfold OwnI at h
  rw [i64_words, List.length_map] at h
  exact h
theorem OwnN.cell {w : World} {B g n cap : Nat} {s : List Nat} (h : OwnN w B (.slice (some ⟨g, 0, none⟩) n cap) s) (hn : s.length = n) (i : Nat) (hi : i < n) : w.cell? ⟨g, i, none⟩ = some (.int .i64 (s.getD i 0 : Nat)) := by
  unfold OwnN at h
  rw [hn] at h
  rw [World.ownsRow.cellAt h i (by omega)]
  have : i < s.length := by omega
  simp [i64v, this]
theorem OwnN.frozen {w : World} {B g n cap : Nat} {s : List Nat} (h : OwnN w B (.slice (some ⟨g, 0, none⟩) n cap) s) (hn : s.length = n) (i : Nat) : w.frozen? ⟨g, i, none⟩ = false := by
  unfold OwnN at h
  rw [hn] at h
  exact World.ownsRow.frozenAt h i
theorem OwnN.set {w : World} {B g n cap : Nat} {s : List Nat} (h : OwnN w B (.slice (some ⟨g, 0, none⟩) n cap) s) (hn : s.length = n) (i x : Nat) : OwnN (w.setCell ⟨g, i, none⟩ (.int .i64 (x : Int))) B (.slice (some ⟨g, 0, none⟩) n cap) (s.set i x) := by
  unfold OwnN at h ⊢
  rw [hn] at h
  have R := World.ownsRow.stored h i (.int .i64 (x : Int))
  rw [List.length_set, List.map_set, hn]
  exact R.1
theorem OwnN.drewN {w : World} {B k : Nat} {v : Value} {s : List Nat} (h : OwnN w B v s) : OwnN (w.drewN k) B v s := h

set_option maxHeartbeats 400000 in
theorem l4Left_c (v n : Nat) (w : World) (h2 : v < 4294967296) (h3 : 1 ≤ n) (h4 : n ≤ 31) :
    Calls Try.prog 36 #[.int .i64 v, .int .i64 n] w fun e w' => e = .returned (.int .i64 (rotN v (32 - n) : Nat)) ∧ w' = w := by
  have K : Hid (∀ (w : World) (m : Int), m = ((32 - n : Nat) : Int) → Calls Try.prog 38 #[.int .i64 v, .int .i64 m] w fun e w' => e = .returned (.int .i64 (rotN v (32 - n) : Nat)) ∧ w' = w) := fun w m hm => by subst hm; exact l1Turn_c v (32 - n) w h2 (by omega) (by omega)
  go_enter Try.func36, Try.ntmps36
  go_wp2_with fail
  refine (K.out _ _ (by omega)).mono ?_
  rintro e w' ⟨rfl, rfl⟩
  go_wp2
  go_ret
  exact ⟨rfl, rfl⟩

set_option maxHeartbeats 2000000 in
theorem l4Step_c (B g cap : Nat) (s : List Nat) (a b d n : Nat) (w : World) (h : OwnN w B (.slice (some ⟨g, 0, none⟩) 16 cap) s) (hl : s.length = 16) (hok : Words s) (ha : a < 16) (hb : b < 16) (hd : d < 16) (h3 : 1 ≤ n) (h4 : n ≤ 31) :
    Calls Try.prog 32 #[.slice (some ⟨g, 0, none⟩) 16 cap, .int .i64 a, .int .i64 b, .int .i64 d, .int .i64 n] w fun e w' => e = .returned (.tuple #[]) ∧ OwnN w' B (.slice (some ⟨g, 0, none⟩) 16 cap) (stepN s a b d n) ∧ w.grownBy w' (some g) := by
  have ca := h.cell hl a ha
  have cb := h.cell hl b hb
  have fa := h.frozen hl a
  have ba := hok.getD a
  have bb := hok.getD b
  have S1 := h.set hl a ((s.getD a 0 + s.getD b 0) % 4294967296)
  rw [show s.set a ((s.getD a 0 + s.getD b 0) % 4294967296) = addAt s a b from rfl] at S1
  have G1 := grownBy_set w g a (.int .i64 (((s.getD a 0 + s.getD b 0) % 4294967296 : Nat) : Int))
  have hl1 : Hid ((addAt s a b).length = 16) := by show _ = _; rw [addAt_len, hl]
  have hok1 : Hid (Words (addAt s a b)) := addAt_ok hok a b
  have HE : Hid (stepN s a b d n = turnAt (addAt s a b) d a n) := rfl
  have hE : Hid (∀ x y : Nat, (((x : Int) + (y : Int)) % 4294967296) = (((x + y) % 4294967296 : Nat) : Int)) := fun x y => by omega
  generalize addAt s a b = s1 at *
  generalize s.getD a 0 = x at *
  generalize s.getD b 0 = y at *
  clear h hok hl
  go_enter Try.func32, Try.ntmps32
  go_wp2
  go_region
  rw [hE.out]
  generalize w.setCell ⟨g, a, none⟩ (.int .i64 (((x + y) % 4294967296 : Nat) : Int)) = W at *
  have ca1 := S1.cell hl1.out a ha
  have cd1 := S1.cell hl1.out d hd
  have fd := S1.frozen hl1.out d
  have ba1 := hok1.out.getD a
  have bd1 := hok1.out.getD d
  have S2 := S1.set hl1.out d (rotN (s1.getD d 0 ^^^ s1.getD a 0) (32 - n))
  rw [show s1.set d (rotN (s1.getD d 0 ^^^ s1.getD a 0) (32 - n)) = turnAt s1 d a n from rfl, ← HE.out] at S2
  clear ca cb fa hE S1
  generalize s1.getD a 0 = x1 at *
  generalize s1.getD d 0 = d1 at *
  have hx := i64_xor_nat d1 x1 (by omega) (by omega)
  have bx : Hid (d1 ^^^ x1 < 4294967296) := xor_lt32 bd1 ba1
  go_wp2
  refine wp_region_tail (C := fun w' => ∃ k, w' = W.drewN k) 14 rfl rfl rfl (by kernel_rfl) (by kernel_rfl) (by kernel_rfl) (by kernel_rfl) ⟨2, rfl⟩ ?_
  simp only [List.take_succ_cons, List.take_zero]
  repeat (go_big_quiet_step ((go_at_call 36; exact Calls.quiet_of_same (l4Left_c (d1 ^^^ x1) n _ bx.out h3 h4))))
  refine wpQuiet_nil ?_
  rintro w' ⟨nq, rfl⟩ K hK
  go_wp2
  exact bodyPost_end (v := .tuple #[]) (by simp [results, Try.results32, go_sem]) rfl ⟨rfl, S2, grownBy_trans G1 (grownBy_trans (grownBy_drewN W nq _) (grownBy_set _ g d _))⟩

set_option maxHeartbeats 1000000 in
theorem l4Quarter_c (B g cap : Nat) (s : List Nat) (a b c d : Nat) (w : World) (h : OwnN w B (.slice (some ⟨g, 0, none⟩) 16 cap) s) (hl : s.length = 16) (hok : Words s) (ha : a < 16) (hb : b < 16) (hc : c < 16) (hd : d < 16) :
    Calls Try.prog 23 #[.slice (some ⟨g, 0, none⟩) 16 cap, .int .i64 a, .int .i64 b, .int .i64 c, .int .i64 d] w fun e w' => e = .returned (.tuple #[]) ∧ OwnN w' B (.slice (some ⟨g, 0, none⟩) 16 cap) (quarterN s a b c d) ∧ w.grownBy w' (some g) := by
  have HL : Hid (s.length = 16) := hl
  have HO : Hid (Words s) := hok
  have HE : Hid (quarterN s a b c d = stepN (stepN (stepN (stepN s a b d 16) c d b 12) a b d 8) c d b 7) := rfl
  clear hl hok
  go_enter Try.func23, Try.ntmps23
  go_wp2_with fail
  refine (l4Step_c B g cap s a b d 16 w h HL.out HO.out ha hb hd (by decide) (by decide)).mono ?_
  rintro e w1 ⟨rfl, k1, g1⟩
  have L1 : Hid ((stepN s a b d 16).length = 16) := by show _ = _; rw [stepN_len, HL.out]
  have O1 : Hid (Words (stepN s a b d 16)) := stepN_ok HO.out _ _ _ _
  generalize stepN s a b d 16 = s1 at *
  go_wp2_with fail
  refine (l4Step_c B g cap s1 c d b 12 w1 k1 L1.out O1.out hc hd hb (by decide) (by decide)).mono ?_
  rintro e w2 ⟨rfl, k2, g2⟩
  have L2 : Hid ((stepN s1 c d b 12).length = 16) := by show _ = _; rw [stepN_len, L1.out]
  have O2 : Hid (Words (stepN s1 c d b 12)) := stepN_ok O1.out _ _ _ _
  generalize stepN s1 c d b 12 = s2 at *
  go_wp2_with fail
  refine (l4Step_c B g cap s2 a b d 8 w2 k2 L2.out O2.out ha hb hd (by decide) (by decide)).mono ?_
  rintro e w3 ⟨rfl, k3, g3⟩
  have L3 : Hid ((stepN s2 a b d 8).length = 16) := by show _ = _; rw [stepN_len, L2.out]
  have O3 : Hid (Words (stepN s2 a b d 8)) := stepN_ok O2.out _ _ _ _
  generalize stepN s2 a b d 8 = s3 at *
  go_wp2_with fail
  refine (l4Step_c B g cap s3 c d b 7 w3 k3 L3.out O3.out hc hd hb (by decide) (by decide)).mono ?_
  rintro e w4 ⟨rfl, k4, g4⟩
  go_wp2
  exact bodyPost_end (v := .tuple #[]) (by simp [results, Try.results23, go_sem]) rfl ⟨rfl, by rw [HE.out]; exact k4, grownBy_trans g1 (grownBy_trans g2 (grownBy_trans g3 g4))⟩


theorem OwnI.toW {w : World} {B : Nat} {v : Value} {l : List Int} (h : OwnI w B v l) (s : List Nat) (e : l = s.map Int.ofNat) : OwnN w B v s := by subst e; exact h.toN


theorem OwnN.rdI {w : World} {B g n cap : Nat} {s : List Nat} (h : OwnN w B (.slice (some ⟨g, 0, none⟩) n cap) s) : RdI w (some ⟨g, 0, none⟩) cap (s.map Int.ofNat) := RdI.own h.toI
theorem OwnN.stay {w w' : World} {B : Nat} {v : Value} {s : List Nat} (h : OwnN w B v s) (hb : Below w.heap.size w w') : OwnN w' B v s := (h.toI.stay hb).toN
theorem OwnN.other {w w' : World} {B : Nat} {v : Value} {s : List Nat} {row : Option Nat} (h : OwnN w B v s) (hg : w.grownBy w' row) (hne : ∀ k, v.ownBlock = some k → row ≠ some k) : OwnN w' B v s := (h.toI.other hg hne).toN
theorem OwnN.ge {w : World} {B : Nat} {v : Value} {s : List Nat} (h : OwnN w B v s) : ∀ k, v.ownBlock = some k → B ≤ k := h.toI.ge
theorem OwnN.lt {w : World} {B : Nat} {v : Value} {s : List Nat} (h : OwnN w B v s) : ∀ k, v.ownBlock = some k → k < w.heap.size := h.toI.lt
theorem l4Quarter_l (B g cap : Nat) (s : List Nat) (a b c d : Nat) (ai bi ci di : Int) (h1 : ai = a) (h2 : bi = b) (h3 : ci = c) (h4 : di = d) (w : World) (h : OwnN w B (.slice (some ⟨g, 0, none⟩) 16 cap) s) (hl : s.length = 16) (hok : Words s) (ha : a < 16) (hb : b < 16) (hc : c < 16) (hd : d < 16) :
    Calls Try.prog 23 #[.slice (some ⟨g, 0, none⟩) 16 cap, .int .i64 ai, .int .i64 bi, .int .i64 ci, .int .i64 di] w fun e w' => e = .returned (.tuple #[]) ∧ OwnN w' B (.slice (some ⟨g, 0, none⟩) 16 cap) (quarterN s a b c d) ∧ w.grownBy w' (some g) := by
  subst h1 h2 h3 h4; exact l4Quarter_c B g cap s a b c d w h hl hok ha hb hc hd

end Go.Proofs.Ytbgdhjeccdooiaa
