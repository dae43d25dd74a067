/- The functions of chapter 9 in the program that read no table: StreamFault, roomFault, isRecordKind, sendFault, isRecord, ownStream, readContent, at every argument. What was there stays. -/
import Derived.Test.YtdemfbbjdnjolaaDoorJoint12
import Derived.Test.YtdemfbbjdnjolaaDoorJoint13
namespace Go.Proofs.YtdemfbbjdnjolaaDoor
open Go.ChangeShapes Go.WideShapes Go.ChangeAt Go.RowKit

theorem rd_nix (w : World) : Rd w none 0 [] := ⟨Nat.le_refl _, by unfold maxLen; decide, fun _ => rfl, fun hp => by simp at hp⟩
theorem isKeyR_c (p : Option Addr) (q : Nat) (bs : List UInt8) (w : World) : Calls Tryd.prog 42 #[.slice p bs.length q] w fun e w' => e = .returned (.bool (is32 bs)) ∧ w' = w := by
  by_cases h : bs.length = 32
  · rw [show is32 bs = true by simp [is32, h]]
    have d1 : ((bs.length : Int) == 32) = true := by rw [beq_iff_eq]; omega
    clear h
    go_enter Tryd.func42, Tryd.ntmps42
    go_wp2
    go_ret
    exact ⟨rfl, rfl⟩
  · rw [show is32 bs = false by simp [is32, h]]
    have d1 : ((bs.length : Int) == 32) = false := by rw [beq_eq_false_iff_ne]; omega
    clear h
    go_enter Tryd.func42, Tryd.ntmps42
    go_wp2
    go_ret
    exact ⟨rfl, rfl⟩
set_option maxRecDepth 4000 in
set_option maxHeartbeats 1000000 in
theorem streamFault_c (x : StreamD) (p : Option Addr) (q : Nat) (w : World) : Calls Tryd.prog 37 #[.agg #[.slice p x.1.length q, .int .i64 x.2.1, .int .i64 x.2.2]] w fun e w' => e = .returned (.int .i64 (stC x)) ∧ Below w.heap.size w w' := by
  cases h1 : is32 x.1
  · rw [show stC x = 1 by simp [stC, h1]]
    go_enter Tryd.func37, Tryd.ntmps37
    go_wp2_with fail
    refine (isKeyR_c p q x.1 _).mono ?_
    rintro e w' ⟨rfl, hw⟩
    subst hw
    rw [h1]
    go_wp2
    go_ret
    exact ⟨rfl, alloc_below _ _⟩
  · by_cases s0 : x.2.1 < 0
    · rw [show stC x = 3 by simp [stC, h1, inB]; omega]
      go_enter Tryd.func37, Tryd.ntmps37
      go_wp2_with fail
      refine (isKeyR_c p q x.1 _).mono ?_
      rintro e w' ⟨rfl, hw⟩
      subst hw
      rw [h1]
      go_wp2
      go_ret
      exact ⟨rfl, alloc_below _ _⟩
    · by_cases s1 : 200 < x.2.1
      · rw [show stC x = 3 by simp [stC, h1, inB]; omega]
        go_enter Tryd.func37, Tryd.ntmps37
        go_wp2_with fail
        refine (isKeyR_c p q x.1 _).mono ?_
        rintro e w' ⟨rfl, hw⟩
        subst hw
        rw [h1]
        go_wp2
        go_ret
        exact ⟨rfl, alloc_below _ _⟩
      · by_cases s2 : x.2.2 < 0
        · rw [show stC x = 3 by simp [stC, h1, inB]; omega]
          go_enter Tryd.func37, Tryd.ntmps37
          go_wp2_with fail
          refine (isKeyR_c p q x.1 _).mono ?_
          rintro e w' ⟨rfl, hw⟩
          subst hw
          rw [h1]
          go_wp2
          go_ret
          exact ⟨rfl, alloc_below _ _⟩
        · by_cases s3 : 99 < x.2.2
          · rw [show stC x = 3 by simp [stC, h1, inB]; omega]
            go_enter Tryd.func37, Tryd.ntmps37
            go_wp2_with fail
            refine (isKeyR_c p q x.1 _).mono ?_
            rintro e w' ⟨rfl, hw⟩
            subst hw
            rw [h1]
            go_wp2
            go_ret
            exact ⟨rfl, alloc_below _ _⟩
          · rw [show stC x = 0 by simp [stC, h1, inB]; omega]
            go_enter Tryd.func37, Tryd.ntmps37
            go_wp2_with fail
            refine (isKeyR_c p q x.1 _).mono ?_
            rintro e w' ⟨rfl, hw⟩
            subst hw
            rw [h1]
            go_wp2
            go_ret
            exact ⟨rfl, alloc_below _ _⟩
theorem implSf_k (x : StreamD) (us : List Value) (w : World) (h : streamC.rep w x us) :
    Calls Tryd.prog 37 #[.agg us.toArray] w fun e w' => e = .returned (.int .i64 (stC x)) ∧ Below w.heap.size w w' := by
  obtain ⟨p, q, rfl, -⟩ := stream_rep h
  exact streamFault_c x p q w
set_option maxRecDepth 4000 in
set_option maxHeartbeats 1000000 in
theorem roomFault_c (x : StreamD) (p : Option Addr) (q : Nat) (w : World) : Calls Tryd.prog 33 #[.agg #[.slice p x.1.length q, .int .i64 x.2.1, .int .i64 x.2.2]] w fun e w' => e = .returned (.int .i64 (askC x)) ∧ Below w.heap.size w w' := by
  have K : Hid (∀ w, Calls Tryd.prog 37 #[.agg #[.slice p x.1.length q, .int .i64 x.2.1, .int .i64 x.2.2]] w fun e w' => e = .returned (.int .i64 (stC x)) ∧ Below w.heap.size w w') := fun w => streamFault_c x p q w
  have A := Arr.new w [.slice p x.1.length q, .int .i64 x.2.1, .int .i64 x.2.2] 25
  by_cases h1 : stC x = 0
  · have hp := st_parts h1
    rw [h1] at K
    by_cases h2 : x.2.1 = 200
    · have d2 : (x.2.1 == 200) = true := by rw [beq_iff_eq]; exact h2
      rw [show askC x = 10 by simp [askC, h1, h2]]
      clear h1 h2 hp
      go_enter Tryd.func33, Tryd.ntmps33
      go_wp2_with fail
      refine (K.out _).mono ?_
      rintro e w1 ⟨rfl, hb⟩
      replace A := A.stay hb
      have c1 := (A.cell 1).trans (show _ = some _ from rfl)
      go_wp2
      go_ret
      exact ⟨rfl, Below.step (alloc_below _ _) hb⟩
    · have d2 : (x.2.1 == 200) = false := by rw [beq_eq_false_iff_ne]; exact h2
      rw [show askC x = 0 by simp [askC, h1]; omega]
      clear h1 h2 hp
      go_enter Tryd.func33, Tryd.ntmps33
      go_wp2_with fail
      refine (K.out _).mono ?_
      rintro e w1 ⟨rfl, hb⟩
      replace A := A.stay hb
      have c1 := (A.cell 1).trans (show _ = some _ from rfl)
      go_wp2
      go_ret
      exact ⟨rfl, Below.step (alloc_below _ _) hb⟩
  · have d1 : (stC x == 0) = false := by rw [beq_eq_false_iff_ne]; exact h1
    rw [show askC x = stC x by simp [askC, h1]]
    clear h1
    generalize stC x = sc at *
    go_enter Tryd.func33, Tryd.ntmps33
    go_wp2_with fail
    refine (K.out _).mono ?_
    rintro e w1 ⟨rfl, hb⟩
    replace A := A.stay hb
    have c1 := (A.cell 1).trans (show _ = some _ from rfl)
    go_wp2
    go_ret
    exact ⟨rfl, Below.step (alloc_below _ _) hb⟩
set_option maxRecDepth 4000 in
theorem isRecordKind_c (k : Int) (w : World) : Calls Tryd.prog 56 #[.int .i64 k] w fun e w' => e = .returned (.bool (kindB k)) ∧ w' = w := by
  by_cases h1 : 21 ≤ k
  · by_cases h2 : k ≤ 23
    · rw [show kindB k = true by simp [kindB, inB]; omega]
      go_enter Tryd.func56, Tryd.ntmps56
      go_wp2
      go_ret
      exact ⟨rfl, rfl⟩
    · rw [show kindB k = false by simp [kindB, inB]; omega]
      go_enter Tryd.func56, Tryd.ntmps56
      go_wp2
      go_ret
      exact ⟨rfl, rfl⟩
  · rw [show kindB k = false by simp [kindB, inB]; omega]
    go_enter Tryd.func56, Tryd.ntmps56
    go_wp2
    go_ret
    exact ⟨rfl, rfl⟩
set_option maxRecDepth 4000 in
set_option maxHeartbeats 1000000 in
theorem sendFault_c (x : StreamD) (p p2 : Option Addr) (q q2 : Nat) (kind : Int) (plain : List UInt8) (pad : Int) (w : World) : Calls Tryd.prog 29 #[.agg #[.slice p x.1.length q, .int .i64 x.2.1, .int .i64 x.2.2], .int .i64 kind, .slice p2 plain.length q2, .int .i64 pad] w fun e w' => e = .returned (.int .i64 (srC x kind plain pad)) ∧ Below w.heap.size w w' := by
  have K : Hid (∀ w, Calls Tryd.prog 33 #[.agg #[.slice p x.1.length q, .int .i64 x.2.1, .int .i64 x.2.2]] w fun e w' => e = .returned (.int .i64 (askC x)) ∧ Below w.heap.size w w') := fun w => roomFault_c x p q w
  by_cases h1 : askC x = 0
  · rw [h1] at K
    cases hk : kindB kind
    · rw [show srC x kind plain pad = 3 by simp [srC, h1, hk]]
      clear h1
      go_enter Tryd.func29, Tryd.ntmps29
      go_wp2_with fail
      refine (K.out _).mono ?_
      rintro e w1 ⟨rfl, hb⟩
      go_wp2_with fail
      refine (isRecordKind_c kind _).mono ?_
      rintro e w' ⟨rfl, hw⟩
      subst hw
      rw [hk]
      go_wp2
      go_ret
      exact ⟨rfl, Below.step (alloc_below _ _) hb⟩
    · by_cases h2 : pad < 0
      · rw [show srC x kind plain pad = 3 by simp [srC, h1, hk, inB]; omega]
        clear h1
        go_enter Tryd.func29, Tryd.ntmps29
        go_wp2_with fail
        refine (K.out _).mono ?_
        rintro e w1 ⟨rfl, hb⟩
        go_wp2_with fail
        refine (isRecordKind_c kind _).mono ?_
        rintro e w' ⟨rfl, hw⟩
        subst hw
        rw [hk]
        go_wp2
        go_ret
        exact ⟨rfl, Below.step (alloc_below _ _) hb⟩
      · by_cases h3 : 16 < pad
        · rw [show srC x kind plain pad = 3 by simp [srC, h1, hk, inB]; omega]
          clear h1
          go_enter Tryd.func29, Tryd.ntmps29
          go_wp2_with fail
          refine (K.out _).mono ?_
          rintro e w1 ⟨rfl, hb⟩
          go_wp2_with fail
          refine (isRecordKind_c kind _).mono ?_
          rintro e w' ⟨rfl, hw⟩
          subst hw
          rw [hk]
          go_wp2
          go_ret
          exact ⟨rfl, Below.step (alloc_below _ _) hb⟩
        · by_cases h4 : 200 < plain.length
          · rw [show srC x kind plain pad = 2 by simp [srC, h1, hk, inB]; omega]
            have h4I : (200 : Int) < (plain.length : Int) := by omega
            clear h1 h4
            go_enter Tryd.func29, Tryd.ntmps29
            go_wp2_with fail
            refine (K.out _).mono ?_
            rintro e w1 ⟨rfl, hb⟩
            go_wp2_with fail
            refine (isRecordKind_c kind _).mono ?_
            rintro e w' ⟨rfl, hw⟩
            subst hw
            rw [hk]
            go_wp2
            go_ret
            exact ⟨rfl, Below.step (alloc_below _ _) hb⟩
          · rw [show srC x kind plain pad = 0 by simp [srC, h1, hk, inB]; omega]
            have h4I : ¬ (200 : Int) < (plain.length : Int) := by omega
            clear h1 h4
            go_enter Tryd.func29, Tryd.ntmps29
            go_wp2_with fail
            refine (K.out _).mono ?_
            rintro e w1 ⟨rfl, hb⟩
            go_wp2_with fail
            refine (isRecordKind_c kind _).mono ?_
            rintro e w' ⟨rfl, hw⟩
            subst hw
            rw [hk]
            go_wp2
            go_ret
            exact ⟨rfl, Below.step (alloc_below _ _) hb⟩
  · have d1 : (askC x != 0) = true := by rw [bne_iff_ne]; exact h1
    rw [show srC x kind plain pad = askC x by simp [srC, h1]]
    clear h1
    generalize askC x = ac at *
    go_enter Tryd.func29, Tryd.ntmps29
    go_wp2_with fail
    refine (K.out _).mono ?_
    rintro e w1 ⟨rfl, hb⟩
    go_wp2
    go_ret
    exact ⟨rfl, Below.step (alloc_below _ _) hb⟩
theorem at8_eqN {bs : List UInt8} {i k : Nat} (hk : k < 256) : (at8 bs i == (k : Int)) = (bs.getD i 0 == UInt8.ofNat k) := by
  unfold at8
  rw [Bool.eq_iff_iff, beq_iff_eq, beq_iff_eq]
  constructor
  · intro h
    apply UInt8.toNat.inj
    rw [UInt8.toNat_ofNat']
    omega
  · intro h
    rw [h, UInt8.toNat_ofNat']
    omega
set_option maxRecDepth 4000 in
set_option maxHeartbeats 1000000 in
theorem isRecord_c (p : Option Addr) (q : Nat) (r : List UInt8) (w : World) (hr : Rd w p q r) : Calls Tryd.prog 34 #[.slice p r.length q] w fun e w' => e = .returned (.bool (bodyOk r)) ∧ Below w.heap.size w w' := by
  have hq1 : r.length ≤ q := hr.1
  have hq2 : q ≤ 2 ^ 63 - 1 := hr.2.1
  by_cases h5 : r.length < 5
  · have h5I : (r.length : Int) < 5 := by omega
    rw [show bodyOk r = false by simp [bodyOk]; omega]
    go_enter Tryd.func34, Tryd.ntmps34
    go_wp2
    go_ret
    exact ⟨rfl, Below.refl _ _⟩
  · have h5I : ¬ (r.length : Int) < 5 := by omega
    have KT : Hid (Calls Tryd.prog 60 #[.slice p r.length q] w fun e w' => e = .returned (.int .i64 (getB ((r.drop 3).take 2) : Nat)) ∧ Below w.heap.size w w') := toldLength_c p q r w hr (by omega)
    obtain ⟨b, o, rfl, hc⟩ := hr.2.2.2 (by omega)
    have c0 := hc 0 (by omega)
    have c1 := hc 1 (by omega)
    have c2 := hc 2 (by omega)
    rw [Nat.add_zero] at c0
    have hl0 : (0 : Int) < (r.length : Int) := by omega
    have hl1 : (1 : Int) < (r.length : Int) := by omega
    have hl2 : (2 : Int) < (r.length : Int) := by omega
    have E0 := at8_eqN (bs := r) (i := 0) (k := 23) (by decide)
    have E1 := at8_eqN (bs := r) (i := 1) (k := 3) (by decide)
    have E2 := at8_eqN (bs := r) (i := 2) (k := 3) (by decide)
    clear hr hc
    have HB : Hid (bodyOk r = ((r.getD 0 0 == UInt8.ofNat 23) && (r.getD 1 0 == UInt8.ofNat 3) && (r.getD 2 0 == UInt8.ofNat 3) && decide (r.length - 5 = getB ((r.drop 3).take 2)))) := by
      show _ = _
      unfold bodyOk
      rw [decide_eq_true (show 5 ≤ r.length by omega), Bool.true_and]
      rfl
    rw [HB.out, ← E0, ← E1, ← E2]
    clear E0 E1 E2 HB
    generalize at8 r 0 = x0 at *
    generalize at8 r 1 = x1 at *
    generalize at8 r 2 = x2 at *
    generalize getB ((r.drop 3).take 2) = n at *
    cases d0 : (x0 == ((23 : Nat) : Int))
    · have f0 : (x0 != 23) = true := by rw [bne, show (x0 == 23) = false from d0]; rfl
      clear d0
      rw [Bool.false_and, Bool.false_and, Bool.false_and]
      go_enter Tryd.func34, Tryd.ntmps34
      go_wp2
      go_ret
      exact ⟨rfl, Below.refl _ _⟩
    · have f0 : (x0 != 23) = false := by rw [bne, show (x0 == 23) = true from d0]; rfl
      clear d0
      cases d1 : (x1 == ((3 : Nat) : Int))
      · have f1 : (x1 != 3) = true := by rw [bne, show (x1 == 3) = false from d1]; rfl
        clear d1
        rw [Bool.true_and, Bool.false_and, Bool.false_and]
        go_enter Tryd.func34, Tryd.ntmps34
        go_wp2
        go_ret
        exact ⟨rfl, Below.refl _ _⟩
      · have f1 : (x1 != 3) = false := by rw [bne, show (x1 == 3) = true from d1]; rfl
        clear d1
        cases d2 : (x2 == ((3 : Nat) : Int))
        · have f2 : (x2 != 3) = true := by rw [bne, show (x2 == 3) = false from d2]; rfl
          clear d2
          rw [Bool.true_and, Bool.true_and, Bool.false_and]
          go_enter Tryd.func34, Tryd.ntmps34
          go_wp2
          go_ret
          exact ⟨rfl, Below.refl _ _⟩
        · have f2 : (x2 != 3) = false := by rw [bne, show (x2 == 3) = true from d2]; rfl
          clear d2
          rw [Bool.true_and, Bool.true_and, Bool.true_and]
          by_cases hn : r.length - 5 = n
          · have hnI : ((r.length : Int) - 5 == (n : Int)) = true := by rw [beq_iff_eq]; omega
            rw [decide_eq_true hn]
            clear hn
            go_enter Tryd.func34, Tryd.ntmps34
            go_wp2_with fail
            refine KT.out.mono ?_
            rintro e w1 ⟨rfl, hb⟩
            go_wp2
            go_ret
            exact ⟨rfl, hb⟩
          · have hnI : ((r.length : Int) - 5 == (n : Int)) = false := by rw [beq_eq_false_iff_ne]; omega
            rw [decide_eq_false hn]
            clear hn
            go_enter Tryd.func34, Tryd.ntmps34
            go_wp2_with fail
            refine KT.out.mono ?_
            rintro e w1 ⟨rfl, hb⟩
            go_wp2
            go_ret
            exact ⟨rfl, hb⟩
end Go.Proofs.YtdemfbbjdnjolaaDoor

