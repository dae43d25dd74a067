/- Regions that draw their order in which an append (it may write in an old row) stands ahead of one operation that needs no world (an address): that one is taken first, the append and what waits for it come at the end, each alone. Beside Pick.lean. No program in it. -/
import Derived.Test.YtpbkncliepkhaabDoorPick
namespace Go.Proofs.YtpbkncliepkhaabDoor
open Go Go.RowKit

section
variable {P : Program} {ops : Array Oper} {md : Region.Mode} {Q' : Exit → Act → World → Prop} {last m : Nat}

/-- These come up one behind the other, each alone, and nothing is left. -/
def okCh (md : Region.Mode) (ops : Array Oper) : Array Bool → List Nat → Bool
  | L, [] => (Region.ready md ops L).isEmpty
  | L, j :: js => (Region.ready md ops L == [j]) && ((ops[j]?).isSome && okCh md ops (L.setIfInBounds j true) js)
theorem wpAny_chainL : ∀ (js : List Nat) (L : Array Bool) (a : Act) (w : World), okCh md ops L js = true → wpList P ops Q' (opsAt ops js) a w → wpAny P md ops Q' js.length L a w
  | [], L, a, w, hB, h => ⟨by simpa [okCh] using hB, by simpa [opsAt, wpList] using h⟩
  | j :: js, L, a, w, hB, h => by
    simp only [okCh, Bool.and_eq_true, beq_iff_eq] at hB
    obtain ⟨hr, hs, hB'⟩ := hB
    obtain ⟨o, h0⟩ := Option.isSome_iff_exists.1 hs
    have ho : opsAt ops (j :: js) = o :: opsAt ops js := by simp only [opsAt, h0]
    rw [ho] at h
    refine ⟨fun e => (by rw [hr] at e; cases e), fun i hi => ?_⟩
    rw [hr] at hi
    have hij := List.mem_singleton.1 hi
    subst hij
    have hrec := fun a' w' => wpAny_chainL js (L.setIfInBounds i true) a' w' hB'
    unfold wpOp
    simp only [h0]
    unfold wpList at h
    split
    · rename_i hw
      rw [if_pos hw] at h
      rcases h with h | h
      · exact .inl (Oper.wp_mono (fun a' w' hh => hrec a' w' hh) h)
      · exact .inr h
    · rename_i hw
      rw [if_neg hw] at h
      exact hrec _ _ h
theorem wpM_endL {L : Array Bool} {a : Act} {V : World} (js : List Nat) (hm : m = js.length + 1) (hB : okCh md ops L (last :: js) = true) (h : ∀ w, (∃ s : HW V, w = s.w) → wpList P ops Q' (opsAt ops (last :: js)) a w) : wpM P md ops Q' last m 0 L a V := by
  have hr : Region.ready md ops L = [last] := by
    simp only [okCh, Bool.and_eq_true, beq_iff_eq] at hB
    exact hB.1
  refine ⟨fun i hi => by rw [hr] at hi; exact List.mem_singleton.1 hi, fun w hw => ?_⟩
  subst hm
  exact wpAny_chainL (last :: js) L a w hB (h w hw)
/-- The region: number j first (it needs no world), these quiet operations, then k more ahead of the chain of m. -/
theorem wp_region_pickW {id : Nat} {a : Act} {w : World} (j : Nat) {oj : Oper} (v : Value) (hj : ops[j]? = some oj) (is : List Nat) (last k m : Nat) (hk : last = is.length + k) (hn : ops.size = last + m + 1) (hm : P.follows .mixedOrders = true) (hs : Region.noSelect ops = true)
    (hfj : Region.free .any ops (Array.replicate ops.size false) j = true) (hrj : (Region.ready .any ops (Array.replicate ops.size false)).contains j = true) (hQ : ∀ c a w, Q' (.panic c) (a.put oj.dst v) w → Q' (.panic c) a w) (hy : Yields P ops oj v a)
    (hlast : waitsT .any ops last = true) (hB : okSeq .any ops last ((Array.replicate ops.size false).setIfInBounds j true) is = true) (hp : (opsAt ops is).all plainB = true)
    (h : wpQuiet P ops (fun w' => ∃ s : HW w, w' = s.w) (fun a' => wpM P .any ops Q' last m k (setAll ((Array.replicate ops.size false).setIfInBounds j true) is) a' w) (opsAt ops is) (a.put oj.dst v)) : (Code.region id ops true).wp P Q' a w := by
  have h1 := wpM_pick (Q' := Q') (m := m) hlast hs k is ((Array.replicate ops.size false).setIfInBounds j true) (a.put oj.dst v) hB hp h
  refine wp_region_any hm ?_
  have h2 := wpAny_of_M (is.length + k) _ (a.put oj.dst v) w { w with drawn := w.drawn + 1 } ⟨⟨w.drew, (Below.refl _ _).drew⟩, rfl⟩ h1
  rw [← hk] at h2
  rw [hn]
  rw [hn] at hfj hrj h2
  exact wpAny_take hj hs hfj hrj hQ hy h2
end
end Go.Proofs.YtpbkncliepkhaabDoor

