/- How Session lies in memory, and the contracts of the laws' helpers on it (written by tools/codgen.py). -/
import Derived.Test.YtflhoefocjmihaaJoint6
import Derived.Test.YtflhoefocjmihaaJoint7
import Derived.Test.YtflhoefocjmihaaJoint5
import Derived.Deep.AppendLies
namespace Go.Proofs.Ytflhoefocjmihaa
open Go.ChangeShapes Go.WideShapes Go.ChangeAt Go.RowKit

abbrev SessionD := List UInt8 × Int × List (List UInt8) × List (List UInt8) × List HeldD
def sessionC : Cod SessionD := prodC bytC (prodC (intC .i64) (prodC blksC (prodC blksC holdsC)))
theorem session_rep {w : World} {a : SessionD} {vs : List Value} (h : sessionC.rep w a vs) : ∃ p1 q1 p3 q3 p4 q4 p5 q5, vs = [.slice p1 a.1.length q1, .int .i64 a.2.1, .slice p3 a.2.2.1.length q3, .slice p4 a.2.2.2.1.length q4, .slice p5 a.2.2.2.2.length q5] ∧ Rd w p1 q1 a.1 ∧ RdL bytC w p3 q3 a.2.2.1 ∧ RdL bytC w p4 q4 a.2.2.2.1 ∧ RdL holdC w p5 q5 a.2.2.2.2 := by
  obtain ⟨us0, ts0, rfl, h0, us1, ts1, rfl, h1, us2, ts2, rfl, h2, us3, ts3, rfl, h3, h4⟩ := h
  obtain ⟨p1, q1, rfl, r1⟩ := h0
  have e1 : us1 = [Value.int .i64 _] := h1
  subst e1
  obtain ⟨p3, q3, rfl, r3⟩ := h2
  obtain ⟨p4, q4, rfl, r4⟩ := h3
  obtain ⟨p5, q5, rfl, r5⟩ := h4
  exact ⟨p1, q1, p3, q3, p4, q4, p5, q5, rfl, r1, r3, r4, r5⟩
theorem session_mk {w : World} {a : SessionD} {p1 : Option Addr} {q1 : Nat} {p3 : Option Addr} {q3 : Nat} {p4 : Option Addr} {q4 : Nat} {p5 : Option Addr} {q5 : Nat} (r1 : Rd w p1 q1 a.1) (r3 : RdL bytC w p3 q3 a.2.2.1) (r4 : RdL bytC w p4 q4 a.2.2.2.1) (r5 : RdL holdC w p5 q5 a.2.2.2.2) : sessionC.rep w a [.slice p1 a.1.length q1, .int .i64 a.2.1, .slice p3 a.2.2.1.length q3, .slice p4 a.2.2.2.1.length q4, .slice p5 a.2.2.2.2.length q5] := ⟨[.slice p1 a.1.length q1], _, rfl, ⟨p1, q1, rfl, r1⟩, ⟨[.int .i64 a.2.1], _, rfl, rfl, ⟨[.slice p3 a.2.2.1.length q3], _, rfl, ⟨p3, q3, rfl, r3⟩, ⟨[.slice p4 a.2.2.2.1.length q4], _, rfl, ⟨p4, q4, rfl, r4⟩, ⟨p5, q5, rfl, r5⟩⟩⟩⟩⟩
def sessionT (a : SessionD) : Nat := a.1.length + sumB a.2.2.1 + sumB a.2.2.2.1 + bulkH a.2.2.2.2
def sessionM (a : SessionD) (m : Nat) : SessionD := (marks m a.1.length, a.2.1, mkB a.2.2.1 (m + a.1.length), mkB a.2.2.2.1 ((m + a.1.length) + sumB a.2.2.1), mkH a.2.2.2.2 (((m + a.1.length) + sumB a.2.2.1) + sumB a.2.2.2.1))

def sessionN (a : SessionD) : Nat := a.1.length + bulkB a.2.2.1 + bulkB a.2.2.2.1 + sizeH a.2.2.2.2
theorem sessionT_le (a : SessionD) : sessionT a ≤ 8 * sessionN a := by
  have h2 := sumB_bulk a.2.2.1
  have h3 := sumB_bulk a.2.2.2.1
  have h4 := bulkH_le a.2.2.2.2
  unfold sessionT sessionN
  omega






end Go.Proofs.Ytflhoefocjmihaa

/- How SessionResult lies in memory, and the contracts of the laws' helpers on it (written by tools/codgen.py). -/
namespace Go.Proofs.Ytflhoefocjmihaa
open Go.ChangeShapes Go.WideShapes Go.ChangeAt Go.RowKit

abbrev SessionResultD := Int × Int × SessionD
def sessionResultC : Cod SessionResultD := prodC (intC .i64) (prodC (intC .i64) sessionC)
theorem sessionResult_rep {w : World} {a : SessionResultD} {vs : List Value} (h : sessionResultC.rep w a vs) : ∃ p3_1 q3_1 p3_3 q3_3 p3_4 q3_4 p3_5 q3_5, vs = [.int .i64 a.1, .int .i64 a.2.1, .slice p3_1 a.2.2.1.length q3_1, .int .i64 a.2.2.2.1, .slice p3_3 a.2.2.2.2.1.length q3_3, .slice p3_4 a.2.2.2.2.2.1.length q3_4, .slice p3_5 a.2.2.2.2.2.2.length q3_5] ∧ Rd w p3_1 q3_1 a.2.2.1 ∧ RdL bytC w p3_3 q3_3 a.2.2.2.2.1 ∧ RdL bytC w p3_4 q3_4 a.2.2.2.2.2.1 ∧ RdL holdC w p3_5 q3_5 a.2.2.2.2.2.2 := by
  obtain ⟨us0, ts0, rfl, h0, us1, ts1, rfl, h1, h2⟩ := h
  have e0 : us0 = [Value.int .i64 _] := h0
  subst e0
  have e1 : us1 = [Value.int .i64 _] := h1
  subst e1
  obtain ⟨p3_1, q3_1, p3_3, q3_3, p3_4, q3_4, p3_5, q3_5, rfl, r3_1, r3_3, r3_4, r3_5⟩ := session_rep h2
  exact ⟨p3_1, q3_1, p3_3, q3_3, p3_4, q3_4, p3_5, q3_5, rfl, r3_1, r3_3, r3_4, r3_5⟩
theorem sessionResult_mk {w : World} {a : SessionResultD} {p3_1 : Option Addr} {q3_1 : Nat} {p3_3 : Option Addr} {q3_3 : Nat} {p3_4 : Option Addr} {q3_4 : Nat} {p3_5 : Option Addr} {q3_5 : Nat} (r3_1 : Rd w p3_1 q3_1 a.2.2.1) (r3_3 : RdL bytC w p3_3 q3_3 a.2.2.2.2.1) (r3_4 : RdL bytC w p3_4 q3_4 a.2.2.2.2.2.1) (r3_5 : RdL holdC w p3_5 q3_5 a.2.2.2.2.2.2) : sessionResultC.rep w a [.int .i64 a.1, .int .i64 a.2.1, .slice p3_1 a.2.2.1.length q3_1, .int .i64 a.2.2.2.1, .slice p3_3 a.2.2.2.2.1.length q3_3, .slice p3_4 a.2.2.2.2.2.1.length q3_4, .slice p3_5 a.2.2.2.2.2.2.length q3_5] := ⟨[.int .i64 a.1], _, rfl, rfl, ⟨[.int .i64 a.2.1], _, rfl, rfl, (session_mk r3_1 r3_3 r3_4 r3_5)⟩⟩
def sessionResultT (a : SessionResultD) : Nat := sessionT a.2.2
def sessionResultM (a : SessionResultD) (m : Nat) : SessionResultD := (a.1, a.2.1, sessionM a.2.2 m)

def sessionResultN (a : SessionResultD) : Nat := sessionN a.2.2
theorem sessionResultT_le (a : SessionResultD) : sessionResultT a ≤ 8 * sessionResultN a := by
  have h2 := sessionT_le a.2.2
  unfold sessionResultT sessionResultN
  omega






end Go.Proofs.Ytflhoefocjmihaa

/- The contracts of the draws of bytes and of texts: some bytes, at most so many; some text. -/
namespace Go.Proofs.Ytflhoefocjmihaa
open Go.ChangeShapes Go.WideShapes Go.ChangeAt Go.RowKit

/-- Behind a call that writes, of what lay there, block b alone: a step that writes new blocks alone. -/
theorem grownBy_step {w x y : World} {b : Nat} {row : Option Nat} (h : w.grownBy x (some b)) (k : x.grownBy y row) (hr : ∀ j, row = some j → w.heap.size ≤ j ∨ j = b) : w.grownBy y (some b) :=
  ⟨k.os.trans h.os, k.tape.trans h.tape, k.output.trans h.output, Nat.le_trans h.size k.size, fun i hi hne =>
    (k.block i (Nat.lt_of_lt_of_le hi h.size) (fun e => by
      rcases hr i e.symm with h1 | h1
      · omega
      · exact hne (by rw [h1]))).trans (h.block i hi hne)⟩

set_option maxRecDepth 4000 in
set_option maxHeartbeats 1000000 in
theorem l1Chance_c (b : Nat) (p : Option Addr) (q : Nat) (cs : List UInt8) (t n : Int) (w : World) (hs : Src w b p q cs t) (ht : 0 ≤ t) (ht2 : t ≤ 1000000000) (hn : 1 ≤ n) (hn2 : n ≤ 1000000) :
    Calls Try.prog 15 #[.pointer (some ⟨b, 0, none⟩), .int .i64 n] w fun e w' => ∃ r : Bool, e = .returned (.bool r) ∧ Src w' b p q cs (t + 1) ∧ w.grownBy w' (some b) := by
  go_enter Try.func15, Try.ntmps15
  go_wp2_with fail
  refine (l1Next_c b p q cs t n w hs ht ht2 hn (by omega)).mono ?_
  rintro e w1 ⟨r, rfl, hr0, hr1, hs1, hg1⟩
  go_wp2
  go_ret
  exact ⟨_, rfl, hs1, hg1⟩

set_option maxRecDepth 4000 in
set_option maxHeartbeats 2000000 in
theorem l1Some_c (b : Nat) (p : Option Addr) (q : Nat) (cs : List UInt8) (t n : Int) (w : World) (hs : Src w b p q cs t) (ht : 0 ≤ t) (ht2 : t ≤ 900000000) (hn : 0 ≤ n) (hn2 : n ≤ 1000000) :
    Calls Try.prog 48 #[.pointer (some ⟨b, 0, none⟩), .int .i64 n] w fun e w' => ∃ (u : Value) (bs : List UInt8), e = .returned u ∧ bs.length = n.toNat ∧ Own w' w.heap.size u bs ∧ Src w' b p q cs (t + n) ∧ w.grownBy w' (some b) := by
  obtain ⟨i0, hi, hz0, hz1, hz2⟩ := info_parts info8
  have hbw := hs.lt
  go_enter Try.func48, Try.ntmps48
  go_wp2
  go_loopw [1, 5] (fun m v wr => ∃ (k : Nat) (bs : List UInt8), (k : Int) ≤ n ∧ m = .int .i64 (n - k) ∧ bs.length = k ∧ Own wr w.heap.size v bs ∧ Src wr b p q cs (t + k) ∧ w.grownBy wr (some b))
    (fun m _ _ => (intOf m).toNat)
  case atStart => exact ⟨0, [], by omega, by simp, rfl, ⟨by simp, .inr ⟨w.heap.size, 0, #[], rfl, Nat.le_refl _, heap_alloc_new w _, Nat.le_refl _, by simp [maxLen], by simp, by simp⟩⟩, by simpa using hs.keep (alloc_below _ _), World.grownBy_alloc _ _ _⟩
  case round =>
    obtain ⟨k, bs, hk, rfl, hbs, ho, hs1, hg⟩ := hrel
    obtain ⟨pv, cv, rfl, -⟩ := ho.rd
    by_cases hend : (k : Int) = n
    · have hge : n - (k : Int) ≤ 0 := by omega
      have HE : Hid ((k : Int) = n) := hend
      clear hend
      go_wp2
      go_ret
      exact ⟨_, bs, rfl, by have := HE.out; omega, ho, by have := HE.out; rw [← this]; exact hs1, hg⟩
    · have hpos : 0 < n - (k : Int) := by omega
      go_wp2_with fail
      refine (l1Next_c b p q cs (t + k) 256 wr hs1 (by omega) (by omega) (by omega) (by omega)).mono ?_
      rintro e w1 ⟨r, rfl, hr0, hr1, hs2, hg2⟩
      have ho1 := ho.other hg2 (fun j hj e => by have := ho.ge j hj; simp at e; omega)
      have ho2 : w1.ownsRow w.heap.size 5 1 (.slice pv k cv) k (bs.map u8v) := by have h := ho1; unfold Own at h; rw [hbs] at h; exact h
      have hge : Hid (∀ j, (Value.slice pv k cv).ownBlock = some j → w.heap.size ≤ j) := fun j hj => (World.ownsRow.lt ho2 j hj).1
      have hsz : w.heap.size ≤ w1.heap.size := Nat.le_trans hg.size hg2.size
      have hkk : k ≤ 1000000 := by omega
      rw [hbs]
      go_wp2_with (first
        | (at_builtin; refine wpList_append_lies _ rfl (.tmp 11) (.tmp 15) 22 rfl w.heap.size 5 i0 (.int .u8 0) 1 1 Try.underlying22 hi hz0 hz1 hz2 rfl (by decide) (.slice pv k cv) k (bs.map u8v) rfl (World.ownsRow.alloc ho2 _) ⟨w1.heap.size, 0, none⟩ 1 1 [.int .u8 r] rfl rfl (cell_one_new w1 _ _) (by intro u hu; simp at hu; subst hu; rfl) (by decide) (by unfold maxLen; omega) (by omega) (by simp; omega) (w1.heap.size + 1) (by simp) ?_; intro g cap2 w3 hown3 hgrow3 hat3 hlt3)
        | go_in)
      have er : r = ((UInt8.ofNat r.toNat).toNat : Int) := by rw [UInt8.toNat_ofNat']; omega
      have R : Own w3 w.heap.size (.slice (some ⟨g, 0, none⟩) (k + 1) cap2) (bs ++ [UInt8.ofNat r.toNat]) := by
        refine own_one ?_
        rw [← er, hbs]
        exact hown3
      have RS : Src w3 b p q cs (t + k + 1) := (hs2.keep (alloc_below _ _)).other hgrow3 (fun j hj => by have := hge.out j hj; omega)
      have RG : w.grownBy w3 (some b) := grownBy_step (grownBy_step (grownBy_step hg hg2 (fun j hj => .inr (by simpa using hj.symm))) (World.grownBy_alloc _ _ none) (fun j hj => by simp at hj)) hgrow3 (fun j hj => .inl (hge.out j hj))
      go_roundw
      case rel => exact ⟨k + 1, bs ++ [UInt8.ofNat r.toNat], by omega, by go_num, by simp [hbs], R, by rw [show t + ((k + 1 : Nat) : Int) = t + k + 1 by omega]; exact RS, RG⟩
      case measure => simp [intOf]; omega


end Go.Proofs.Ytflhoefocjmihaa

