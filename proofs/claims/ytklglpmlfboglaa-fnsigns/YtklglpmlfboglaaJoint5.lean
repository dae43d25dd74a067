/- Behind a drawn region in which a local is made at any time and the answer of the last call is stored in it (tools/picks.py store_region): the local holds it, all else is left; share: one walk for all branches. No program in it. -/
import Derived.Test.YtklglpmlfboglaaPick
import Derived.Test.YtklglpmlfboglaaArr
import Derived.Test.YtklglpmlfboglaaRows
import Derived.Test.YtklglpmlfboglaaBytes
import Derived.ProofKit
import Derived.OpenShut
import Derived.Test.YtklglpmlfboglaaSrc
import Derived.Deep.QuietTactic
import Derived.BigQuiet
import Derived.Test.YtklglpmlfboglaaJoint2
namespace Go.Proofs.Ytklglpmlfboglaa
open Go Go.RowKit

def NotIn (p : Option Addr) (n q g : Nat) : Prop := ∀ k, (Value.slice p n q).ownBlock = some k → k ≠ g
theorem stored {V W : World} {g n q : Nat} {t : TypeId} {p : Option Addr} {L : List UInt8} (BB : Below V.heap.size V W) (AA : Arr W g t [.int .i64 0, .slice none 0 0]) (GG : V.heap.size ≤ g) (r : Rd W p q L) (NE : NotIn p n q g) :
    Arr ((W.setCell ⟨g, 0, none⟩ (.int .i64 0)).setCell ⟨g, 1, none⟩ (.slice p n q)) g t [.int .i64 0, .slice p n q] ∧ Rd ((W.setCell ⟨g, 0, none⟩ (.int .i64 0)).setCell ⟨g, 1, none⟩ (.slice p n q)) p q L ∧ Below V.heap.size V ((W.setCell ⟨g, 0, none⟩ (.int .i64 0)).setCell ⟨g, 1, none⟩ (.slice p n q)) := by
  refine ⟨(AA.set 0 _).set 1 _, ⟨r.1, r.2.1, r.2.2.1, fun hp => ?_⟩, (BB.setCell GG _).setCell GG _⟩
  obtain ⟨b, o, rfl, hc⟩ := r.2.2.2 hp
  have hb : b ≠ g := NE b (by simp [Value.ownBlock])
  refine ⟨b, o, rfl, fun i hi => ?_⟩
  rw [World.cell?_setCell_other _ _ _ _ (by simp; try omega), World.cell?_setCell_other _ _ _ _ (by simp; try omega)]
  exact hc i hi
theorem share {J A : Prop} (h : Hid J → A) (hj : J) : A := h hj
end Go.Proofs.Ytklglpmlfboglaa

/- The contract of lwBig: codes of more than 1048576 bytes are passed by. -/
namespace Go.Proofs.Ytklglpmlfboglaa
open Go.ChangeShapes Go.WideShapes Go.ChangeAt Go.RowKit

set_option maxRecDepth 4000 in
set_option maxHeartbeats 400000 in
theorem lwBig_yes (a : Option Addr) (n cap : Nat) (w : World) (h : 1048576 < n) :
    Calls Try.prog 9 #[.slice a n cap] w fun e w' => e = .returned (.bool true) ∧ w' = w := by
  have h' : (1048576 : Int) < (n : Int) := by omega
  go_enter Try.func9, Try.ntmps9
  go_wp2
  go_ret
  exact ⟨rfl, rfl⟩
set_option maxRecDepth 4000 in
set_option maxHeartbeats 400000 in
theorem lwBig_no (a : Option Addr) (n cap : Nat) (w : World) (h : n ≤ 1048576) :
    Calls Try.prog 9 #[.slice a n cap] w fun e w' => e = .returned (.bool false) ∧ w' = w := by
  have h' : (n : Int) ≤ 1048576 := by omega
  go_enter Try.func9, Try.ntmps9
  go_wp2
  go_ret
  refine ⟨?_, rfl⟩
  show Ending.returned (.bool (decide _)) = _
  rw [decide_eq_false (by omega)]
end Go.Proofs.Ytklglpmlfboglaa

/- The contracts of the draws: they answer numbers within their bounds, and move the source's count on. -/
namespace Go.Proofs.Ytklglpmlfboglaa
open Go.ChangeShapes Go.WideShapes Go.ChangeAt Go.RowKit

set_option maxHeartbeats 400000 in
theorem l1Source_c (p : Option Addr) (q : Nat) (cs : List UInt8) (w : World) (hr : Rd w p q cs) :
    Calls Try.prog 39 #[.slice p cs.length q] w fun e w' => e = .returned (.pointer (some ⟨w.heap.size, 0, none⟩)) ∧ Src w' w.heap.size p q cs 0 ∧ Below w.heap.size w w' ∧ w.heap.size < w'.heap.size := by
  go_enter Try.func39, Try.ntmps39
  go_wp2
  go_ret
  refine ⟨rfl, ⟨Loc.new _ _ _, hr.keep (alloc_below _ _), fun hp x hx => ?_⟩, alloc_below _ _, by simp⟩
  obtain ⟨b, o, rfl, hc⟩ := hr.2.2.2 hp
  simp only [Option.some.injEq] at hx
  subst hx
  exact World.block_lt_of_cell? w _ (hc 0 hp)

set_option maxHeartbeats 2000000 in
theorem l1Next_c (b : Nat) (p : Option Addr) (q : Nat) (cs : List UInt8) (t n : Int) (w : World) (hs : Src w b p q cs t) (ht : 0 ≤ t) (ht2 : t ≤ 1000000000) (hn : 1 ≤ n) (hn2 : n ≤ 4611686018427387904) :
    Calls Try.prog 42 #[.pointer (some ⟨b, 0, none⟩), .int .i64 n] w fun e w' => ∃ r : Int, e = .returned (.int .i64 r) ∧ 0 ≤ r ∧ r < n ∧ Src w' b p q cs (t + 1) ∧ w.grownBy w' (some b) := by
  have c0 := hs.loc.1 0 _ rfl
  have c1 := hs.loc.1 1 _ rfl
  have hf := hs.loc.2
  have hnx := hs.next (t + 1)
  have hgr := grownBy_set w b 1 (.int .i64 (t + 1))
  have e1 : (w.setCell ⟨b, 1, none⟩ (.int .i64 (t + 1))).cell? ⟨b, 1, none⟩ = some (.int .i64 (t + 1)) := hnx.loc.1 1 _ rfl
  have e0 : (w.setCell ⟨b, 1, none⟩ (.int .i64 (t + 1))).cell? ⟨b, 0, none⟩ = some (.slice p cs.length q) := hnx.loc.1 0 _ rfl
  by_cases hk : cs.length = 0
  · have hkb : ((cs.length : Int) == 0) = true := by rw [beq_iff_eq]; omega
    clear hk
    go_enter Try.func42, Try.ntmps42
    go_wp2
    go_ret
    exact ⟨_, rfl, Int.emod_nonneg _ (by omega), Int.emod_lt_of_pos _ (by omega), hnx, hgr⟩
  · have hkb : ((cs.length : Int) == 0) = false := by rw [beq_eq_false_iff_ne]; omega
    have hkp : (0 : Int) < (cs.length : Int) := by omega
    obtain ⟨pb, po, rfl, hc⟩ := hnx.rd.2.2.2 (by omega)
    have hm0 := Int.emod_nonneg t (show (cs.length : Int) ≠ 0 by omega)
    have hm1 := Int.emod_lt_of_pos t hkp
    have hd0 := Int.ediv_nonneg ht (Int.le_of_lt hkp)
    have hd1 : t / (cs.length : Int) ≤ t := Int.ediv_le_self _ ht
    have hm2 := Int.emod_nonneg (t + 1) (show (cs.length : Int) ≠ 0 by omega)
    have hm3 := Int.emod_lt_of_pos (t + 1) hkp
    have f1 := hc (t % (cs.length : Int)).toNat (by omega)
    have f2 := hc ((t + 1) % (cs.length : Int)).toNat (by omega)
    have g0 := at8_lo cs (t % (cs.length : Int)).toNat
    have g1 := at8_hi cs (t % (cs.length : Int)).toNat
    have g2 := at8_lo cs ((t + 1) % (cs.length : Int)).toNat
    have g3 := at8_hi cs ((t + 1) % (cs.length : Int)).toNat
    clear hc
    by_cases h2 : 200 < n
    · go_enter Try.func42, Try.ntmps42
      go_wp2
      go_quiet (fail)
      go_wp2
      go_quiet (fail)
      go_wp2
      go_ret
      exact ⟨_, rfl, Int.emod_nonneg _ (by omega), Int.emod_lt_of_pos _ (by omega), hnx.drewN _, grownBy_trans hgr (grownBy_drewN _ _ _)⟩
    · go_enter Try.func42, Try.ntmps42
      go_wp2
      go_quiet (fail)
      go_wp2
      go_ret
      exact ⟨_, rfl, Int.emod_nonneg _ (by omega), Int.emod_lt_of_pos _ (by omega), hnx.drewN _, grownBy_trans hgr (grownBy_drewN _ _ _)⟩

theorem Src.other {w w' : World} {b : Nat} {p : Option Addr} {q : Nat} {cs : List UInt8} {n : Int} {row : Option Nat} (h : Src w b p q cs n) (hg : w.grownBy w' row) (hne : ∀ k, row = some k → b < k) : Src w' b p q cs n :=
  ⟨h.loc.other hg (fun e => by have := hne b e; omega), h.rd.other hg (fun hp y hy e => by have h1 := h.apart hp y hy; have h2 := hne _ e; omega), h.apart⟩

set_option maxHeartbeats 1000000 in
theorem l1Pick_c (b : Nat) (p : Option Addr) (q : Nat) (cs : List UInt8) (t : Int) (g : Nat) (xs : List Int) (m : Nat) (w : World) (hs : Src w b p q cs t) (ht : 0 ≤ t) (ht2 : t ≤ 1000000000) (hm : xs.length = m) (hx0 : 0 < m) (hx1 : m ≤ 1000)
    (hg : b ≠ g) (hx : ∀ i, i < m → w.cell? ⟨g, i, none⟩ = some (.int .i64 (xs.getD i 0))) :
    Calls Try.prog 45 #[.pointer (some ⟨b, 0, none⟩), .slice (some ⟨g, 0, none⟩) m m] w fun e w' => ∃ r : Int, r ∈ xs ∧ e = .returned (.int .i64 r) ∧ Src w' b p q cs (t + 1) ∧ w.grownBy w' (some b) := by
  go_enter Try.func45, Try.ntmps45
  go_wp2_with fail
  refine (l1Next_c b p q cs t m w hs ht ht2 (by omega) (by omega)).mono ?_
  rintro e w1 ⟨r, rfl, hr0, hr1, hs1, hg1⟩
  have hi : r.toNat < xs.length := by omega
  have hc : w1.cell? ⟨g, r.toNat, none⟩ = some (.int .i64 (xs.getD r.toNat 0)) := cell_other (hx r.toNat (by omega)) hg1 (fun e => hg (by simpa using e))
  have hmem : Hid (xs.getD r.toNat 0 ∈ xs) := by show _ ∈ _; simp [hi]
  generalize xs.getD r.toNat 0 = y at *
  go_wp2
  go_ret
  exact ⟨y, hmem.out, rfl, hs1, hg1⟩



theorem below_of_grown {w w1 w2 : World} (h : Below w.heap.size w w1) (hg : w1.grownBy w2 (some w.heap.size)) : Below w.heap.size w w2 :=
  h.grown hg h.size (fun k hk => by simp at hk; omega)


end Go.Proofs.Ytklglpmlfboglaa

/- The contracts of HexOf in the specification, and of what it calls. -/
namespace Go.Proofs.Ytklglpmlfboglaa
open Go.ChangeShapes Go.WideShapes Go.ChangeAt Go.RowKit

def hexCode (bs : List UInt8) : Int := if bs.length ≤ 600 then 0 else 2
def hexText (bs : List UInt8) : List UInt8 := if bs.length ≤ 600 then hexL bs else []

end Go.Proofs.Ytklglpmlfboglaa

