/- The contract of bytes.Clone: a copy in a row of its own. What was there stays. -/
import Derived.Test.YtdemfbbjdnjolabDoorJoinI
import Derived.Handy
import Derived.Test.YtdemfbbjdnjolabDoorJoint6
namespace Go.Proofs.YtdemfbbjdnjolabDoor
open Go.ChangeShapes Go.WideShapes Go.ChangeAt Go.RowKit

set_option maxRecDepth 4000 in
set_option maxHeartbeats 1000000 in
theorem bytesClone_c (p : Option Addr) (q : Nat) (bs : List UInt8) (w : World) (hr : Rd w p q bs) (hl : bs.length ≤ 1000000) :
    Calls Tryd.prog 30 #[.slice p bs.length q] w fun e w' => ∃ u, e = .returned u ∧ Own w' w.heap.size u bs ∧ Below w.heap.size w w' := by
  cases p with
  | none =>
    have hq := hr.2.2.1 rfl
    have hb : bs = [] := List.eq_nil_of_length_eq_zero (by have := hr.1; omega)
    subst hb hq
    have hnil : ∀ w, (Go.binOp .eql 22 (.slice none 0 0) (.slice none 0 0)).run Tryd.prog w = .ok (.bool true) w := by intro w; kernel_rfl
    go_enter Tryd.func30, Tryd.ntmps30
    go_wp2
    go_ret
    exact ⟨_, rfl, Own_nil _ _, Below.refl _ _⟩
  | some ad =>
    have hnil : ∀ w, (Go.binOp .eql 22 (.slice (some ad) bs.length q) (.slice none 0 0)).run Tryd.prog w = .ok (.bool false) w := by intro w; kernel_rfl
    have hr2 := hr.keep (alloc_below w (Obj.cells #[] 5))
    have ho := none_own8 w w.heap.size (Nat.le_refl _)
    go_enter Tryd.func30, Tryd.ntmps30
    go_wp2_with (at_builtin; refine wpList_append_rd rfl (.tmp 5) (.tmp 6) rfl w.heap.size _ [] rfl ho (some ad) q bs rfl hr2 (by simp; omega) (by simp) ?_; intro v' w' ho' hg')
    have RB := (alloc_below w (Obj.cells #[] 5)).grown hg' (by simp) (fun k hk => ho.ge k hk)
    go_ret
    exact ⟨_, rfl, ho', RB⟩
end Go.Proofs.YtdemfbbjdnjolabDoor

/- The functions of chapter 9 in the program that read no table: StreamFault, roomFault, isRecordKind, sendFault, isRecord, ownStream, readContent, at every argument. What was there stays. -/
namespace Go.Proofs.YtdemfbbjdnjolabDoor
open Go.ChangeShapes Go.WideShapes Go.ChangeAt Go.RowKit

theorem rd_nix (w : World) : Rd w none 0 [] := ⟨Nat.le_refl _, by unfold maxLen; decide, fun _ => rfl, fun hp => by simp at hp⟩
theorem isKeyR_c (p : Option Addr) (q : Nat) (bs : List UInt8) (w : World) : Calls Tryd.prog 29 #[.slice p bs.length q] w fun e w' => e = .returned (.bool (is32 bs)) ∧ w' = w := by
  by_cases h : bs.length = 32
  · rw [show is32 bs = true by simp [is32, h]]
    have d1 : ((bs.length : Int) == 32) = true := by rw [beq_iff_eq]; omega
    clear h
    go_enter Tryd.func29, Tryd.ntmps29
    go_wp2
    go_ret
    exact ⟨rfl, rfl⟩
  · rw [show is32 bs = false by simp [is32, h]]
    have d1 : ((bs.length : Int) == 32) = false := by rw [beq_eq_false_iff_ne]; omega
    clear h
    go_enter Tryd.func29, Tryd.ntmps29
    go_wp2
    go_ret
    exact ⟨rfl, rfl⟩
set_option maxRecDepth 4000 in
set_option maxHeartbeats 1000000 in
theorem streamFault_c (x : StreamD) (p : Option Addr) (q : Nat) (w : World) : Calls Tryd.prog 18 #[.agg #[.slice p x.1.length q, .int .i64 x.2.1, .int .i64 x.2.2]] w fun e w' => e = .returned (.int .i64 (stC x)) ∧ Below w.heap.size w w' := by
  cases h1 : is32 x.1
  · rw [show stC x = 1 by simp [stC, h1]]
    go_enter Tryd.func18, Tryd.ntmps18
    go_wp2_with fail
    refine (isKeyR_c p q x.1 _).mono ?_
    rintro e w' ⟨rfl, hw⟩
    subst hw
    rw [h1]
    go_wp2
    go_ret
    exact ⟨rfl, alloc_below _ _⟩
  · by_cases s0 : x.2.1 < 0
    · rw [show stC x = 3 by simp [stC, h1, inB]; omega]
      go_enter Tryd.func18, Tryd.ntmps18
      go_wp2_with fail
      refine (isKeyR_c p q x.1 _).mono ?_
      rintro e w' ⟨rfl, hw⟩
      subst hw
      rw [h1]
      go_wp2
      go_ret
      exact ⟨rfl, alloc_below _ _⟩
    · by_cases s1 : 200 < x.2.1
      · rw [show stC x = 3 by simp [stC, h1, inB]; omega]
        go_enter Tryd.func18, Tryd.ntmps18
        go_wp2_with fail
        refine (isKeyR_c p q x.1 _).mono ?_
        rintro e w' ⟨rfl, hw⟩
        subst hw
        rw [h1]
        go_wp2
        go_ret
        exact ⟨rfl, alloc_below _ _⟩
      · by_cases s2 : x.2.2 < 0
        · rw [show stC x = 3 by simp [stC, h1, inB]; omega]
          go_enter Tryd.func18, Tryd.ntmps18
          go_wp2_with fail
          refine (isKeyR_c p q x.1 _).mono ?_
          rintro e w' ⟨rfl, hw⟩
          subst hw
          rw [h1]
          go_wp2
          go_ret
          exact ⟨rfl, alloc_below _ _⟩
        · by_cases s3 : 99 < x.2.2
          · rw [show stC x = 3 by simp [stC, h1, inB]; omega]
            go_enter Tryd.func18, Tryd.ntmps18
            go_wp2_with fail
            refine (isKeyR_c p q x.1 _).mono ?_
            rintro e w' ⟨rfl, hw⟩
            subst hw
            rw [h1]
            go_wp2
            go_ret
            exact ⟨rfl, alloc_below _ _⟩
          · rw [show stC x = 0 by simp [stC, h1, inB]; omega]
            go_enter Tryd.func18, Tryd.ntmps18
            go_wp2_with fail
            refine (isKeyR_c p q x.1 _).mono ?_
            rintro e w' ⟨rfl, hw⟩
            subst hw
            rw [h1]
            go_wp2
            go_ret
            exact ⟨rfl, alloc_below _ _⟩
theorem implSf_k (x : StreamD) (us : List Value) (w : World) (h : streamC.rep w x us) :
    Calls Tryd.prog 18 #[.agg us.toArray] w fun e w' => e = .returned (.int .i64 (stC x)) ∧ Below w.heap.size w w' := by
  obtain ⟨p, q, rfl, -⟩ := stream_rep h
  exact streamFault_c x p q w
end Go.Proofs.YtdemfbbjdnjolabDoor

