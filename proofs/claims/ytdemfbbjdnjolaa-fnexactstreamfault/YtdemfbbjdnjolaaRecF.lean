/- The functions of chapter 9 in the program that read no table: StreamFault, roomFault, isRecordKind, sendFault, isRecord, ownStream, readContent, at every argument. What was there stays. -/
import Derived.Test.YtdemfbbjdnjolaaRecS
namespace Go.Proofs.Ytdemfbbjdnjolaa
open Go.ChangeShapes Go.WideShapes Go.ChangeAt Go.RowKit

theorem rd_nix (w : World) : Rd w none 0 [] := ⟨Nat.le_refl _, by unfold maxLen; decide, fun _ => rfl, fun hp => by simp at hp⟩
theorem isKeyR_c (p : Option Addr) (q : Nat) (bs : List UInt8) (w : World) : Calls Try.prog 12 #[.slice p bs.length q] w fun e w' => e = .returned (.bool (is32 bs)) ∧ w' = w := by
  by_cases h : bs.length = 32
  · rw [show is32 bs = true by simp [is32, h]]
    have d1 : ((bs.length : Int) == 32) = true := by rw [beq_iff_eq]; omega
    clear h
    go_enter Try.func12, Try.ntmps12
    go_wp2
    go_ret
    exact ⟨rfl, rfl⟩
  · rw [show is32 bs = false by simp [is32, h]]
    have d1 : ((bs.length : Int) == 32) = false := by rw [beq_eq_false_iff_ne]; omega
    clear h
    go_enter Try.func12, Try.ntmps12
    go_wp2
    go_ret
    exact ⟨rfl, rfl⟩
set_option maxRecDepth 4000 in
set_option maxHeartbeats 1000000 in
theorem streamFault_c (x : StreamD) (p : Option Addr) (q : Nat) (w : World) : Calls Try.prog 7 #[.agg #[.slice p x.1.length q, .int .i64 x.2.1, .int .i64 x.2.2]] w fun e w' => e = .returned (.int .i64 (stC x)) ∧ Below w.heap.size w w' := by
  cases h1 : is32 x.1
  · rw [show stC x = 1 by simp [stC, h1]]
    go_enter Try.func7, Try.ntmps7
    go_wp2_with fail
    refine (isKeyR_c p q x.1 _).mono ?_
    rintro e w' ⟨rfl, hw⟩
    subst hw
    rw [h1]
    go_wp2
    go_ret
    exact ⟨rfl, alloc_below _ _⟩
  · by_cases s0 : x.2.1 < 0
    · rw [show stC x = 3 by simp [stC, h1, inB]; omega]
      go_enter Try.func7, Try.ntmps7
      go_wp2_with fail
      refine (isKeyR_c p q x.1 _).mono ?_
      rintro e w' ⟨rfl, hw⟩
      subst hw
      rw [h1]
      go_wp2
      go_ret
      exact ⟨rfl, alloc_below _ _⟩
    · by_cases s1 : 200 < x.2.1
      · rw [show stC x = 3 by simp [stC, h1, inB]; omega]
        go_enter Try.func7, Try.ntmps7
        go_wp2_with fail
        refine (isKeyR_c p q x.1 _).mono ?_
        rintro e w' ⟨rfl, hw⟩
        subst hw
        rw [h1]
        go_wp2
        go_ret
        exact ⟨rfl, alloc_below _ _⟩
      · by_cases s2 : x.2.2 < 0
        · rw [show stC x = 3 by simp [stC, h1, inB]; omega]
          go_enter Try.func7, Try.ntmps7
          go_wp2_with fail
          refine (isKeyR_c p q x.1 _).mono ?_
          rintro e w' ⟨rfl, hw⟩
          subst hw
          rw [h1]
          go_wp2
          go_ret
          exact ⟨rfl, alloc_below _ _⟩
        · by_cases s3 : 99 < x.2.2
          · rw [show stC x = 3 by simp [stC, h1, inB]; omega]
            go_enter Try.func7, Try.ntmps7
            go_wp2_with fail
            refine (isKeyR_c p q x.1 _).mono ?_
            rintro e w' ⟨rfl, hw⟩
            subst hw
            rw [h1]
            go_wp2
            go_ret
            exact ⟨rfl, alloc_below _ _⟩
          · rw [show stC x = 0 by simp [stC, h1, inB]; omega]
            go_enter Try.func7, Try.ntmps7
            go_wp2_with fail
            refine (isKeyR_c p q x.1 _).mono ?_
            rintro e w' ⟨rfl, hw⟩
            subst hw
            rw [h1]
            go_wp2
            go_ret
            exact ⟨rfl, alloc_below _ _⟩
theorem implSf_k (x : StreamD) (us : List Value) (w : World) (h : streamC.rep w x us) :
    Calls Try.prog 7 #[.agg us.toArray] w fun e w' => e = .returned (.int .i64 (stC x)) ∧ Below w.heap.size w w' := by
  obtain ⟨p, q, rfl, -⟩ := stream_rep h
  exact streamFault_c x p q w
end Go.Proofs.Ytdemfbbjdnjolaa
