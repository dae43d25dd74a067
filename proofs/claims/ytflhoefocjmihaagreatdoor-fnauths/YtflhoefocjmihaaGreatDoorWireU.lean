/- The contracts of what reads messages in the specification: l6Unpack, UnpackMsgs (code, place, messages, each of which owns its memory), SameMsgs. What was there stays. -/
import Derived.Test.YtflhoefocjmihaaGreatDoorJoint11
import Derived.Deep.AppendLies
namespace Go.Proofs.YtflhoefocjmihaaGreatDoor
open Go.ChangeShapes Go.WideShapes Go.ChangeAt Go.RowKit
theorem none_ownM (w : World) (B : Nat) (h : B ≤ w.heap.size) : OwnL 261 msgC (w.alloc (.cells #[] 261)) B (.slice (some ⟨w.heap.size, 0, none⟩) 0 0) [] [] [] :=
  ⟨World.ownsRow_lit (base := B) (e := 261) (size := 2) w #[] 0 h (by unfold maxLen; decide) (by simp), ⟨rfl, rfl⟩, by simp [Value.ownBlock]⟩
theorem nil_ownM (w : World) (B : Nat) : OwnL 261 msgC w B (.slice none 0 0) [] [] [] := ⟨World.ownsRow_nil _ _ _ _, ⟨rfl, rfl⟩, by simp [Value.ownBlock]⟩


theorem packAll_bulk : ∀ (l : List MsgD), bulkM l ≤ (packAll l).length
  | [] => by simp [bulkM]
  | a :: l => by
    have h := packAll_bulk l
    rw [packAll_cons, List.length_append, packW_len]
    simp only [bulkM, List.map_cons, List.sum_cons, List.length_cons] at h ⊢
    omega

def sameM (a b : List MsgD) : Bool := decide (a = b)
theorem sameM_at {a b : List MsgD} {k : Nat} {x y : MsgD} (hx : a[k]? = some x) (hy : b[k]? = some y) (h : x ≠ y) : sameM a b = false := by
  simp only [sameM, decide_eq_false_iff_not]
  intro e
  subst e
  rw [hx] at hy
  cases hy
  exact h rfl
end Go.Proofs.YtflhoefocjmihaaGreatDoor

