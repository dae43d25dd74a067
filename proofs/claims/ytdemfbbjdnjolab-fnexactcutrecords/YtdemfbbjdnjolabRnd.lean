/- Regions that draw their order in a round of a loop over an iterator: what is walked outside a round is walked in one, where no operation defers a call. Beside Pick.lean. No program in it. -/
import Derived.Test.YtdemfbbjdnjolabPick
import Derived.RangeFuncNested
import Derived.RangeFuncBound
import Derived.RangeFuncCalls
import Derived.RangeFuncLeaves
import Derived.Shelf.Abstract
import Derived.Shelf.RegionOpen
import Derived.WalkKit
import Derived.OwnWalkIn
import Derived.TacticsInMore
import Derived.LoopNIn
import Derived.LoopIn
namespace Go.Proofs.Ytdemfbbjdnjolab
open Go Go.RowKit

def plainO (o : Oper) : Bool := match o.op with
  | .defer _ => false
  | _ => true
theorem plainO_spec {o : Oper} (h : plainO o = true) : ∀ c, o.op ≠ .defer c := fun c e => by simp [plainO, e] at h

section
variable {P : Program} {ops : Array Oper} {md : Region.Mode} {Q' : Exit → Act → World → Prop}

theorem rowsIn_of {l n : Nat} {row : String} {args : Array Value} {w : World} {R : Value → World → Prop} (h : Rows P row args w R) : RowsIn (Fence.wide.inRound l) n P row args w R := fun c cs _ =>
  let ⟨v, w', r, s⟩ := h c cs
  ⟨v, w', r, stepsIn_wide.2 s⟩
theorem wpIn_of_wp {l n : Nat} {o : Oper} {a : Act} {w : World} {K : Act → World → Prop} (hp : plainO o = true) (h : o.wp P a w K Q') : o.wpIn (Fence.wide.inRound l) n P a w K Q' := by
  unfold Oper.wpIn
  refine ⟨fun _ _ => trivial, ?_⟩
  rw [Oper.semAt_plain _ _ _ (plainO_spec hp)]
  unfold Oper.wp at h
  generalize (execOp a.eval o).run P w = r at *
  cases r with
  | ok x w' =>
    cases x <;> simp only [Oper.upon, Oper.uponIn] at h ⊢ <;>
      first
        | exact h
        | exact ⟨fun e => by simp [Fence.wide, Fence.inRound] at e, CallsIn.inRound l (callsIn_wide.2 h)⟩
        | exact ⟨fun e => by simp [Fence.wide, Fence.inRound] at e, rowsIn_of h⟩
  | halt x w' => cases x <;> simp only [Oper.upon, Oper.uponIn] at h ⊢ <;> exact h
theorem wpAnyIn_of_wpAny {l n : Nat} (hp : ops.toList.all plainO = true) (hQ : ¬ LetsOut Q') : ∀ (fuel : Nat) (L : Array Bool) (a : Act) (w : World), wpAny P md ops Q' fuel L a w → wpAnyIn (Fence.wide.inRound l) n P md ops Q' fuel L a w
  | 0, _, _, _, h => h
  | fuel + 1, L, a, w, ⟨h0, h1⟩ => ⟨h0, fun i hi => by
    have h := h1 i hi
    unfold wpOp at h
    unfold wpOpIn
    cases ho : ops[i]? with
    | none =>
      simp only [ho] at h
      exact wpAnyIn_of_wpAny hp hQ fuel _ _ _ h
    | some o =>
      simp only [ho] at h ⊢
      have hpo : plainO o = true := (List.all_eq_true.1 hp) o (by rw [Array.mem_toList_iff]; exact Array.mem_of_getElem? ho)
      split
      · rename_i hw
        rw [if_pos hw] at h
        rcases h with h | h
        · exact Oper.wpIn_mono (fun a' w' hh => wpAnyIn_of_wpAny hp hQ fuel _ _ _ hh) (wpIn_of_wp hpo h)
        · exact absurd h.2 hQ
      · rename_i hw
        rw [if_neg hw] at h
        exact ⟨fun _ _ => trivial, wpAnyIn_of_wpAny hp hQ fuel _ _ _ h⟩⟩
/-- What is left of a region's ways out where it runs to its end. -/
def Thro (Q : Exit → Act → World → Prop) : Exit → Act → World → Prop := fun e a w => e = .normal ∧ Q .normal a w
theorem thro_out (Q : Exit → Act → World → Prop) : ¬ LetsOut (Thro Q) := fun ⟨_, _, h⟩ => by cases h.1
theorem wpIn_region_pick {id l n : Nat} {a : Act} {w : World} (is : List Nat) (last k m : Nat) (hk : last = is.length + k) (hn : ops.size = last + m) (hm : P.follows .mixedOrders = true) (hs : Region.noSelect ops = true) (hlast : waitsT .any ops last = true) (hB : okSeq .any ops last (Array.replicate ops.size false) is = true) (hp : (opsAt ops is).all plainB = true) (hd : ops.toList.all plainO = true)
    (h : wpQuiet P ops (fun w' => ∃ s : HW w, w' = s.w) (fun a' => wpM P .any ops (Thro Q') last m k (setAll (Array.replicate ops.size false) is) a' w) (opsAt ops is) a) : (Code.region id ops true).wpIn (Fence.wide.inRound l) n P Q' a w := by
  have h1 := wpM_pick (Q' := Thro Q') (m := m) hlast hs k is (Array.replicate ops.size false) a hB hp h
  refine wpIn_mono (Q := Thro Q') (wpIn_region_any hm (wpAnyIn_of_wpAny hd (thro_out Q') _ _ _ _ ?_)) (fun e a w h => by obtain ⟨rfl, h⟩ := h; exact h)
  have h2 := wpAny_of_M (is.length + k) _ a w { w with drawn := w.drawn + 1 } ⟨⟨w.drew, (Below.refl _ _).drew⟩, rfl⟩ h1
  rw [← hk, ← hn] at h2
  exact h2
end
end Go.Proofs.Ytdemfbbjdnjolab
