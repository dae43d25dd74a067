/- The contracts of SameBytes and of what it calls, in the specification and in the program: both answer whether the two slices hold the same bytes. -/
import Derived.Test.YtpbkncliepkhaaaCopy
import Derived.Test.YtpbkncliepkhaaaJoint6
import Derived.Test.YtpbkncliepkhaaaJoinI
import Derived.Test.YtpbkncliepkhaaaJoint4
import Derived.Test.YtpbkncliepkhaaaMsgC
import Derived.Test.YtpbkncliepkhaaaWire
import Derived.Test.YtpbkncliepkhaaaJoint10
namespace Go.Proofs.Ytpbkncliepkhaaa
open Go.ChangeShapes Go.WideShapes Go.ChangeAt Go.RowKit

def sameB (a b : List UInt8) : Bool := a == b


set_option maxRecDepth 4000 in
set_option maxHeartbeats 1000000 in
theorem bytesEqual_c (a b : Option Addr) (ca cb : Nat) (xs bs : List UInt8) (w : World) (hra : Rd w a ca xs) (hrb : Rd w b cb bs) :
    Calls Try.prog 79 #[.slice a xs.length ca, .slice b bs.length cb] w fun e w' => e = .returned (.bool (sameB xs bs)) ∧ w' = w := by
  have e1 := run_str (P := Try.prog) hra (src := 22) (dst := 9) (e := 5) Try.underlying22 Try.underlying5 Try.underlying9
  have e2 := run_str (P := Try.prog) hrb (src := 22) (dst := 9) (e := 5) Try.underlying22 Try.underlying5 Try.underlying9
  go_enter Try.func79, Try.ntmps79
  go_wp2
  go_ret
  rw [strB_list, strB_list]
  exact ⟨rfl, rfl⟩


set_option maxRecDepth 4000 in
set_option maxHeartbeats 1000000 in
theorem implSame_c (a b : Option Addr) (ca cb : Nat) (xs bs : List UInt8) (w : World) (hra : Rd w a ca xs) (hrb : Rd w b cb bs) :
    Calls Try.prog 68 #[.slice a xs.length ca, .slice b bs.length cb] w fun e w' => e = .returned (.bool (sameB xs bs)) ∧ Below w.heap.size w w' := by
  go_enter Try.func68, Try.ntmps68
  go_wp2_with fail
  refine (bytesEqual_c a b ca cb xs bs _ hra hrb).mono ?_
  rintro e w1 ⟨rfl, rfl⟩
  go_wp2
  go_ret
  exact ⟨rfl, Below.refl _ _⟩

end Go.Proofs.Ytpbkncliepkhaaa

/- The contracts of the wire in the specification: l6Fault, MsgFault, l6Pack, PackMsg, l6PackAll, PackMsgs: code and bytes, at every argument. What was there stays. -/
namespace Go.Proofs.Ytpbkncliepkhaaa
open Go.ChangeShapes Go.WideShapes Go.ChangeAt Go.RowKit
set_option maxRecDepth 4000 in
set_option maxHeartbeats 400000 in
theorem l6Fault_c (b o n q : Nat) (p : Option Addr) (k : Int) (w : World) (c0 : w.cell? ⟨b, o, none⟩ = some (.int .i64 k)) (c1 : w.cell? ⟨b, o + 1, none⟩ = some (.slice p n q)) :
    Calls Try.prog 43 #[.pointer (some ⟨b, o, none⟩)] w fun e w' => e = .returned (.int .i64 (faultW k n)) ∧ w' = w := by
  cases hk : inB k 0 255
  · rw [show faultW k n = 3 by simp [faultW, hk]]
    go_enter Try.func43, Try.ntmps43
    go_wp2_with fail
    refine (l1In_c _ _ _ _).mono ?_
    rintro e w' ⟨rfl, rfl⟩
    rw [hk]
    go_wp2
    go_ret
    exact ⟨rfl, rfl⟩
  · by_cases hn : n ≤ 160
    · rw [show faultW k n = 0 by simp [faultW, hk, hn]]
      have hnI : ¬ (160 < (n : Int)) := by omega
      go_enter Try.func43, Try.ntmps43
      go_wp2_with fail
      refine (l1In_c _ _ _ _).mono ?_
      rintro e w' ⟨rfl, rfl⟩
      rw [hk]
      go_wp2
      go_ret
      exact ⟨rfl, rfl⟩
    · rw [show faultW k n = 2 by simp [faultW, hk, hn]]
      have hnI : 160 < (n : Int) := by omega
      go_enter Try.func43, Try.ntmps43
      go_wp2_with fail
      refine (l1In_c _ _ _ _).mono ?_
      rintro e w' ⟨rfl, rfl⟩
      rw [hk]
      go_wp2
      go_ret
      exact ⟨rfl, rfl⟩

def pmL (a : MsgD) : List UInt8 := if faultW a.1 a.2.length = 0 then packW a.1 a.2 else []
theorem pmL_len (a : MsgD) : (pmL a).length ≤ 1048576 := by
  unfold pmL; split
  · rename_i h; have := (faultW_zero h).2; rw [packW_len]; omega
  · simp


end Go.Proofs.Ytpbkncliepkhaaa

/- Regions that draw their order in which an append (it may write in an old row) stands ahead of one operation that needs no world (an address): that one is taken first, the append and what waits for it come at the end, each alone. Beside Pick.lean. No program in it. -/
namespace Go.Proofs.Ytpbkncliepkhaaa
open Go Go.RowKit

section
variable {P : Program} {ops : Array Oper} {md : Region.Mode} {Q' : Exit → Act → World → Prop} {last m : Nat}

/-- These come up one behind the other, each alone, and nothing is left. -/
def okCh (md : Region.Mode) (ops : Array Oper) : Array Bool → List Nat → Bool
  | L, [] => (Region.ready md ops L).isEmpty
  | L, j :: js => (Region.ready md ops L == [j]) && ((ops[j]?).isSome && okCh md ops (L.setIfInBounds j true) js)
theorem wpAny_chainL : ∀ (js : List Nat) (L : Array Bool) (a : Act) (w : World), okCh md ops L js = true → wpList P ops Q' (opsAt ops js) a w → wpAny P md ops Q' js.length L a w
  | [], L, a, w, hB, h => ⟨by simpa [okCh] using hB, by simpa [opsAt, wpList] using h⟩
  | j :: js, L, a, w, hB, h => by
    simp only [okCh, Bool.and_eq_true, beq_iff_eq] at hB
    obtain ⟨hr, hs, hB'⟩ := hB
    obtain ⟨o, h0⟩ := Option.isSome_iff_exists.1 hs
    have ho : opsAt ops (j :: js) = o :: opsAt ops js := by simp only [opsAt, h0]
    rw [ho] at h
    refine ⟨fun e => (by rw [hr] at e; cases e), fun i hi => ?_⟩
    rw [hr] at hi
    have hij := List.mem_singleton.1 hi
    subst hij
    have hrec := fun a' w' => wpAny_chainL js (L.setIfInBounds i true) a' w' hB'
    unfold wpOp
    simp only [h0]
    unfold wpList at h
    split
    · rename_i hw
      rw [if_pos hw] at h
      rcases h with h | h
      · exact .inl (Oper.wp_mono (fun a' w' hh => hrec a' w' hh) h)
      · exact .inr h
    · rename_i hw
      rw [if_neg hw] at h
      exact hrec _ _ h
theorem wpM_endL {L : Array Bool} {a : Act} {V : World} (js : List Nat) (hm : m = js.length + 1) (hB : okCh md ops L (last :: js) = true) (h : ∀ w, (∃ s : HW V, w = s.w) → wpList P ops Q' (opsAt ops (last :: js)) a w) : wpM P md ops Q' last m 0 L a V := by
  have hr : Region.ready md ops L = [last] := by
    simp only [okCh, Bool.and_eq_true, beq_iff_eq] at hB
    exact hB.1
  refine ⟨fun i hi => by rw [hr] at hi; exact List.mem_singleton.1 hi, fun w hw => ?_⟩
  subst hm
  exact wpAny_chainL (last :: js) L a w hB (h w hw)
/-- The region: number j first (it needs no world), these quiet operations, then k more ahead of the chain of m. -/
theorem wp_region_pickW {id : Nat} {a : Act} {w : World} (j : Nat) {oj : Oper} (v : Value) (hj : ops[j]? = some oj) (is : List Nat) (last k m : Nat) (hk : last = is.length + k) (hn : ops.size = last + m + 1) (hm : P.follows .mixedOrders = true) (hs : Region.noSelect ops = true)
    (hfj : Region.free .any ops (Array.replicate ops.size false) j = true) (hrj : (Region.ready .any ops (Array.replicate ops.size false)).contains j = true) (hQ : ∀ c a w, Q' (.panic c) (a.put oj.dst v) w → Q' (.panic c) a w) (hy : Yields P ops oj v a)
    (hlast : waitsT .any ops last = true) (hB : okSeq .any ops last ((Array.replicate ops.size false).setIfInBounds j true) is = true) (hp : (opsAt ops is).all plainB = true)
    (h : wpQuiet P ops (fun w' => ∃ s : HW w, w' = s.w) (fun a' => wpM P .any ops Q' last m k (setAll ((Array.replicate ops.size false).setIfInBounds j true) is) a' w) (opsAt ops is) (a.put oj.dst v)) : (Code.region id ops true).wp P Q' a w := by
  have h1 := wpM_pick (Q' := Q') (m := m) hlast hs k is ((Array.replicate ops.size false).setIfInBounds j true) (a.put oj.dst v) hB hp h
  refine wp_region_any hm ?_
  have h2 := wpAny_of_M (is.length + k) _ (a.put oj.dst v) w { w with drawn := w.drawn + 1 } ⟨⟨w.drew, (Below.refl _ _).drew⟩, rfl⟩ h1
  rw [← hk] at h2
  rw [hn]
  rw [hn] at hfj hrj h2
  exact wpAny_take hj hs hfj hrj hQ hy h2
end
end Go.Proofs.Ytpbkncliepkhaaa

