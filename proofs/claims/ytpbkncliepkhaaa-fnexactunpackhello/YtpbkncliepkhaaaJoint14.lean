/- The contracts of chapter 10's functions in the program and in the specification, gathered. -/
import Derived.Test.YtpbkncliepkhaaaHelG
import Derived.Test.YtpbkncliepkhaaaHelQ
import Derived.Test.YtpbkncliepkhaaaHelV
import Derived.Test.YtpbkncliepkhaaaHelP
import Derived.Test.YtpbkncliepkhaaaHelS
import Derived.Test.YtpbkncliepkhaaaRows
import Derived.Test.YtpbkncliepkhaaaJoint6
import Derived.ProofKit
import Derived.OpenShut
import Derived.Deep.QuietTactic
import Derived.BigQuiet
import Derived.Test.YtpbkncliepkhaaaJoint7
import Derived.Test.YtpbkncliepkhaaaCopy
import Derived.Deep.AppendLies


/- The contracts of the draws: they answer numbers within their bounds, and move the source's count on. -/
namespace Go.Proofs.Ytpbkncliepkhaaa
open Go.ChangeShapes Go.WideShapes Go.ChangeAt Go.RowKit

set_option maxHeartbeats 400000 in
theorem l1Source_c (p : Option Addr) (q : Nat) (cs : List UInt8) (w : World) (hr : Rd w p q cs) :
    Calls Try.prog 33 #[.slice p cs.length q] w fun e w' => e = .returned (.pointer (some ⟨w.heap.size, 0, none⟩)) ∧ Src w' w.heap.size p q cs 0 ∧ Below w.heap.size w w' ∧ w.heap.size < w'.heap.size := by
  go_enter Try.func33, Try.ntmps33
  go_wp2
  go_ret
  refine ⟨rfl, ⟨Loc.new _ _ _, hr.keep (alloc_below _ _), fun hp x hx => ?_⟩, alloc_below _ _, by simp⟩
  obtain ⟨b, o, rfl, hc⟩ := hr.2.2.2 hp
  simp only [Option.some.injEq] at hx
  subst hx
  exact World.block_lt_of_cell? w _ (hc 0 hp)

set_option maxHeartbeats 2000000 in
theorem l1Next_c (b : Nat) (p : Option Addr) (q : Nat) (cs : List UInt8) (t n : Int) (w : World) (hs : Src w b p q cs t) (ht : 0 ≤ t) (ht2 : t ≤ 1000000000) (hn : 1 ≤ n) (hn2 : n ≤ 4611686018427387904) :
    Calls Try.prog 37 #[.pointer (some ⟨b, 0, none⟩), .int .i64 n] w fun e w' => ∃ r : Int, e = .returned (.int .i64 r) ∧ 0 ≤ r ∧ r < n ∧ Src w' b p q cs (t + 1) ∧ w.grownBy w' (some b) := by
  have c0 := hs.loc.1 0 _ rfl
  have c1 := hs.loc.1 1 _ rfl
  have hf := hs.loc.2
  have hnx := hs.next (t + 1)
  have hgr := grownBy_set w b 1 (.int .i64 (t + 1))
  have e1 : (w.setCell ⟨b, 1, none⟩ (.int .i64 (t + 1))).cell? ⟨b, 1, none⟩ = some (.int .i64 (t + 1)) := hnx.loc.1 1 _ rfl
  have e0 : (w.setCell ⟨b, 1, none⟩ (.int .i64 (t + 1))).cell? ⟨b, 0, none⟩ = some (.slice p cs.length q) := hnx.loc.1 0 _ rfl
  by_cases hk : cs.length = 0
  · have hkb : ((cs.length : Int) == 0) = true := by rw [beq_iff_eq]; omega
    clear hk
    go_enter Try.func37, Try.ntmps37
    go_wp2
    go_ret
    exact ⟨_, rfl, Int.emod_nonneg _ (by omega), Int.emod_lt_of_pos _ (by omega), hnx, hgr⟩
  · have hkb : ((cs.length : Int) == 0) = false := by rw [beq_eq_false_iff_ne]; omega
    have hkp : (0 : Int) < (cs.length : Int) := by omega
    obtain ⟨pb, po, rfl, hc⟩ := hnx.rd.2.2.2 (by omega)
    have hm0 := Int.emod_nonneg t (show (cs.length : Int) ≠ 0 by omega)
    have hm1 := Int.emod_lt_of_pos t hkp
    have hd0 := Int.ediv_nonneg ht (Int.le_of_lt hkp)
    have hd1 : t / (cs.length : Int) ≤ t := Int.ediv_le_self _ ht
    have hm2 := Int.emod_nonneg (t + 1) (show (cs.length : Int) ≠ 0 by omega)
    have hm3 := Int.emod_lt_of_pos (t + 1) hkp
    have f1 := hc (t % (cs.length : Int)).toNat (by omega)
    have f2 := hc ((t + 1) % (cs.length : Int)).toNat (by omega)
    have g0 := at8_lo cs (t % (cs.length : Int)).toNat
    have g1 := at8_hi cs (t % (cs.length : Int)).toNat
    have g2 := at8_lo cs ((t + 1) % (cs.length : Int)).toNat
    have g3 := at8_hi cs ((t + 1) % (cs.length : Int)).toNat
    clear hc
    by_cases h2 : 200 < n
    · go_enter Try.func37, Try.ntmps37
      go_wp2
      go_quiet (fail)
      go_wp2
      go_quiet (fail)
      go_wp2
      go_ret
      exact ⟨_, rfl, Int.emod_nonneg _ (by omega), Int.emod_lt_of_pos _ (by omega), hnx.drewN _, grownBy_trans hgr (grownBy_drewN _ _ _)⟩
    · go_enter Try.func37, Try.ntmps37
      go_wp2
      go_quiet (fail)
      go_wp2
      go_ret
      exact ⟨_, rfl, Int.emod_nonneg _ (by omega), Int.emod_lt_of_pos _ (by omega), hnx.drewN _, grownBy_trans hgr (grownBy_drewN _ _ _)⟩

theorem Src.other {w w' : World} {b : Nat} {p : Option Addr} {q : Nat} {cs : List UInt8} {n : Int} {row : Option Nat} (h : Src w b p q cs n) (hg : w.grownBy w' row) (hne : ∀ k, row = some k → b < k) : Src w' b p q cs n :=
  ⟨h.loc.other hg (fun e => by have := hne b e; omega), h.rd.other hg (fun hp y hy e => by have h1 := h.apart hp y hy; have h2 := hne _ e; omega), h.apart⟩

set_option maxHeartbeats 1000000 in
theorem l1Pick_c (b : Nat) (p : Option Addr) (q : Nat) (cs : List UInt8) (t : Int) (g : Nat) (xs : List Int) (m : Nat) (w : World) (hs : Src w b p q cs t) (ht : 0 ≤ t) (ht2 : t ≤ 1000000000) (hm : xs.length = m) (hx0 : 0 < m) (hx1 : m ≤ 1000)
    (hg : b ≠ g) (hx : ∀ i, i < m → w.cell? ⟨g, i, none⟩ = some (.int .i64 (xs.getD i 0))) :
    Calls Try.prog 36 #[.pointer (some ⟨b, 0, none⟩), .slice (some ⟨g, 0, none⟩) m m] w fun e w' => ∃ r : Int, r ∈ xs ∧ e = .returned (.int .i64 r) ∧ Src w' b p q cs (t + 1) ∧ w.grownBy w' (some b) := by
  go_enter Try.func36, Try.ntmps36
  go_wp2_with fail
  refine (l1Next_c b p q cs t m w hs ht ht2 (by omega) (by omega)).mono ?_
  rintro e w1 ⟨r, rfl, hr0, hr1, hs1, hg1⟩
  have hi : r.toNat < xs.length := by omega
  have hc : w1.cell? ⟨g, r.toNat, none⟩ = some (.int .i64 (xs.getD r.toNat 0)) := cell_other (hx r.toNat (by omega)) hg1 (fun e => hg (by simpa using e))
  have hmem : Hid (xs.getD r.toNat 0 ∈ xs) := by show _ ∈ _; simp [hi]
  generalize xs.getD r.toNat 0 = y at *
  go_wp2
  go_ret
  exact ⟨y, hmem.out, rfl, hs1, hg1⟩



theorem below_of_grown {w w1 w2 : World} (h : Below w.heap.size w w1) (hg : w1.grownBy w2 (some w.heap.size)) : Below w.heap.size w w2 :=
  h.grown hg h.size (fun k hk => by simp at hk; omega)


end Go.Proofs.Ytpbkncliepkhaaa

/- The contracts of HexOf in the specification, and of what it calls. -/
namespace Go.Proofs.Ytpbkncliepkhaaa
open Go.ChangeShapes Go.WideShapes Go.ChangeAt Go.RowKit

def hexCode (bs : List UInt8) : Int := if bs.length ≤ 600 then 0 else 2
def hexText (bs : List UInt8) : List UInt8 := if bs.length ≤ 600 then hexL bs else []

end Go.Proofs.Ytpbkncliepkhaaa

/- The contracts of the draws of bytes and of texts: some bytes, at most so many; some text. -/
namespace Go.Proofs.Ytpbkncliepkhaaa
open Go.ChangeShapes Go.WideShapes Go.ChangeAt Go.RowKit

/-- Behind a call that writes, of what lay there, block b alone: a step that writes new blocks alone. -/
theorem grownBy_step {w x y : World} {b : Nat} {row : Option Nat} (h : w.grownBy x (some b)) (k : x.grownBy y row) (hr : ∀ j, row = some j → w.heap.size ≤ j ∨ j = b) : w.grownBy y (some b) :=
  ⟨k.os.trans h.os, k.tape.trans h.tape, k.output.trans h.output, Nat.le_trans h.size k.size, fun i hi hne =>
    (k.block i (Nat.lt_of_lt_of_le hi h.size) (fun e => by
      rcases hr i e.symm with h1 | h1
      · omega
      · exact hne (by rw [h1]))).trans (h.block i hi hne)⟩


set_option maxRecDepth 4000 in
set_option maxHeartbeats 2000000 in
theorem l1Some_c (b : Nat) (p : Option Addr) (q : Nat) (cs : List UInt8) (t n : Int) (w : World) (hs : Src w b p q cs t) (ht : 0 ≤ t) (ht2 : t ≤ 900000000) (hn : 0 ≤ n) (hn2 : n ≤ 1000000) :
    Calls Try.prog 58 #[.pointer (some ⟨b, 0, none⟩), .int .i64 n] w fun e w' => ∃ (u : Value) (bs : List UInt8), e = .returned u ∧ bs.length = n.toNat ∧ Own w' w.heap.size u bs ∧ Src w' b p q cs (t + n) ∧ w.grownBy w' (some b) := by
  obtain ⟨i0, hi, hz0, hz1, hz2⟩ := info_parts info8
  have hbw := hs.lt
  go_enter Try.func58, Try.ntmps58
  go_wp2
  go_loopw [1, 5] (fun m v wr => ∃ (k : Nat) (bs : List UInt8), (k : Int) ≤ n ∧ m = .int .i64 (n - k) ∧ bs.length = k ∧ Own wr w.heap.size v bs ∧ Src wr b p q cs (t + k) ∧ w.grownBy wr (some b))
    (fun m _ _ => (intOf m).toNat)
  case atStart => exact ⟨0, [], by omega, by simp, rfl, ⟨by simp, .inr ⟨w.heap.size, 0, #[], rfl, Nat.le_refl _, heap_alloc_new w _, Nat.le_refl _, by simp [maxLen], by simp, by simp⟩⟩, by simpa using hs.keep (alloc_below _ _), World.grownBy_alloc _ _ _⟩
  case round =>
    obtain ⟨k, bs, hk, rfl, hbs, ho, hs1, hg⟩ := hrel
    obtain ⟨pv, cv, rfl, -⟩ := ho.rd
    by_cases hend : (k : Int) = n
    · have hge : n - (k : Int) ≤ 0 := by omega
      have HE : Hid ((k : Int) = n) := hend
      clear hend
      go_wp2
      go_ret
      exact ⟨_, bs, rfl, by have := HE.out; omega, ho, by have := HE.out; rw [← this]; exact hs1, hg⟩
    · have hpos : 0 < n - (k : Int) := by omega
      go_wp2_with fail
      refine (l1Next_c b p q cs (t + k) 256 wr hs1 (by omega) (by omega) (by omega) (by omega)).mono ?_
      rintro e w1 ⟨r, rfl, hr0, hr1, hs2, hg2⟩
      have ho1 := ho.other hg2 (fun j hj e => by have := ho.ge j hj; simp at e; omega)
      have ho2 : w1.ownsRow w.heap.size 5 1 (.slice pv k cv) k (bs.map u8v) := by have h := ho1; unfold Own at h; rw [hbs] at h; exact h
      have hge : Hid (∀ j, (Value.slice pv k cv).ownBlock = some j → w.heap.size ≤ j) := fun j hj => (World.ownsRow.lt ho2 j hj).1
      have hsz : w.heap.size ≤ w1.heap.size := Nat.le_trans hg.size hg2.size
      have hkk : k ≤ 1000000 := by omega
      rw [hbs]
      go_wp2_with (first
        | (at_builtin; refine wpList_append_lies _ rfl (.tmp 11) (.tmp 15) 22 rfl w.heap.size 5 i0 (.int .u8 0) 1 1 Try.underlying22 hi hz0 hz1 hz2 rfl (by decide) (.slice pv k cv) k (bs.map u8v) rfl (World.ownsRow.alloc ho2 _) ⟨w1.heap.size, 0, none⟩ 1 1 [.int .u8 r] rfl rfl (cell_one_new w1 _ _) (by intro u hu; simp at hu; subst hu; rfl) (by decide) (by unfold maxLen; omega) (by omega) (by simp; omega) (w1.heap.size + 1) (by simp) ?_; intro g cap2 w3 hown3 hgrow3 hat3 hlt3)
        | go_in)
      have er : r = ((UInt8.ofNat r.toNat).toNat : Int) := by rw [UInt8.toNat_ofNat']; omega
      have R : Own w3 w.heap.size (.slice (some ⟨g, 0, none⟩) (k + 1) cap2) (bs ++ [UInt8.ofNat r.toNat]) := by
        refine own_one ?_
        rw [← er, hbs]
        exact hown3
      have RS : Src w3 b p q cs (t + k + 1) := (hs2.keep (alloc_below _ _)).other hgrow3 (fun j hj => by have := hge.out j hj; omega)
      have RG : w.grownBy w3 (some b) := grownBy_step (grownBy_step (grownBy_step hg hg2 (fun j hj => .inr (by simpa using hj.symm))) (World.grownBy_alloc _ _ none) (fun j hj => by simp at hj)) hgrow3 (fun j hj => .inl (hge.out j hj))
      go_roundw
      case rel => exact ⟨k + 1, bs ++ [UInt8.ofNat r.toNat], by omega, by go_num, by simp [hbs], R, by rw [show t + ((k + 1 : Nat) : Int) = t + k + 1 by omega]; exact RS, RG⟩
      case measure => simp [intOf]; omega


end Go.Proofs.Ytpbkncliepkhaaa

