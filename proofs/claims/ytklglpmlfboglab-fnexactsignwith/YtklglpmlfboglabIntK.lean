/- Lists of whole numbers (int64) as arguments of the laws: read as such, kept in a stretch of memory, marked. What was there stays. -/
import Derived.Test.YtklglpmlfboglabCopyI
import Derived.Test.YtklglpmlfboglabWin
namespace Go.Proofs.Ytklglpmlfboglab
open Go.ChangeShapes Go.WideShapes Go.ChangeAt Go.RowKit

theorem rdI_cod {w : World} {p : Option Addr} {q : Nat} {l : List Int} (h : RdL (intC .i64) w p q l) : RdI w p q l := by
  obtain ⟨h1, h2, h3, h4⟩ := h
  refine ⟨h1, h2, h3, fun hp => ?_⟩
  obtain ⟨b, o, rfl, hc⟩ := h4 hp
  refine ⟨b, o, rfl, fun i hi => ?_⟩
  obtain ⟨us, hu, hcell⟩ := hc i l[i] (by simp [hi])
  have e : us = [Value.int .i64 l[i]] := hu
  subst e
  have h5 := hcell 0 _ rfl
  rw [show (intC .i64).n = 1 from rfl, Nat.mul_one, Nat.add_zero] at h5
  rw [h5, atI_get hi]
theorem OwnI.fr {w w' : World} {B : Nat} {v : Value} {l : List Int} (h : OwnI w B v l) (hk : ∀ k, v.ownBlock = some k → w'.heap[k]? = w.heap[k]?) : OwnI w' B v l := ownsRow_fr h hk
theorem OwnI.ins {w : World} {B : Nat} {v : Value} {l : List Int} (h : OwnI w B v l) : ∀ k, k ∈ v.ownBlock.toList → B ≤ k ∧ k < w.heap.size := fun k hk => World.ownsRow.lt h k (mem_opt.1 hk)
theorem OwnI.win {w : World} {B lo hi : Nat} {v : Value} {l : List Int} (h : OwnI w B v l) (ht : hi ≤ w.heap.size) (hin : ∀ k, k ∈ v.ownBlock.toList → lo ≤ k ∧ k < hi) : Win (fun w => OwnI w B v l) lo hi w :=
  ⟨h, ht, fun _ hs => h.fr fun k hk => hs k (hin k (mem_opt.2 hk)).1 (hin k (mem_opt.2 hk)).2⟩
set_option maxRecDepth 4000 in
set_option maxHeartbeats 1000000 in
theorem markInt64S_w (B : Nat) (v : Value) (l : List Int) (m : Nat) (w : World) (ho : OwnI w B v l) (hm : m + l.length ≤ 1000000000000) :
    Calls Try.prog 22 #[v, .int .i64 m] w fun e w' => e = .returned (.int .i64 ((m : Int) + (l.length : Int))) ∧ OwnI w' B v (marksI m l.length) ∧ w.grownBy w' v.ownBlock := by
  obtain ⟨h1, h2⟩ := id ho
  rcases h2 with ⟨rfl, hn⟩ | ⟨g, cap, cur, rfl, hb, hg, hle, hcm, hs, ht⟩
  · have e : l = [] := List.length_eq_zero_iff.1 hn
    subst e
    go_enter Try.func22, Try.ntmps22
    go_wp2
    refine wp_loop_rounds 1 ?_
    rw [rounds_succ]
    go_wp2
    go_ret
    exact ⟨by simp, ho, World.grownBy.refl _ _⟩
  · clear h1 hb hg hs ht cur
    go_enter Try.func22, Try.ntmps22
    go_wp2
    go_loopw [1, 5] (fun q i wr => ∃ j : Nat, j ≤ l.length ∧ i = .int .i64 j ∧ q = .int .i64 ((m : Int) + j) ∧ OwnI wr B (.slice (some ⟨g, 0, none⟩) l.length cap) (markedI l m j) ∧ w.grownBy wr (some g))
      (fun _ i _ => l.length - (intOf i).toNat)
    case atStart => exact ⟨0, Nat.zero_le _, rfl, by simp, by rw [markedI_zero]; exact ho, World.grownBy.refl _ _⟩
    case round =>
      obtain ⟨j, hj, rfl, rfl, hown, hgr⟩ := hrel
      have hml := markedI_len l m j hj
      by_cases hlt : j < l.length
      · unfold OwnI at hown
        rw [hml] at hown
        have hcy : wr.cell? ⟨g, j, none⟩ = some (.int .i64 (atI (markedI l m j) j)) := by rw [World.ownsRow.cellAt hown j (by omega), i64z_at (by omega)]
        have hfy : wr.frozen? ⟨g, j, none⟩ = false := World.ownsRow.frozenAt hown j
        have R := World.ownsRow.stored hown j (.int .i64 ((m : Int) + j))
        rw [markedI_set l m j hlt] at R
        have hml2 := markedI_len l m (j + 1) hlt
        clear hown hml ho
        go_wp2
        go_roundw
        case rel => exact ⟨j + 1, by omega, by go_num, by go_num, by unfold OwnI; rw [hml2]; exact R.1, grownBy_trans hgr R.2⟩
        case measure => simp [intOf]; omega
      · have e : j = l.length := by omega
        subst e
        rw [markedI_all] at hown
        go_wp2
        go_ret
        exact ⟨rfl, hown, hgr⟩
end Go.Proofs.Ytklglpmlfboglab

