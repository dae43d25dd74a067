import Derived.Test.YtiabacnmmojfjabGreatDoorJoint19
import Derived.Test.YtiabacnmmojfjabGreatDoorJoint14
import Derived.Test.YtiabacnmmojfjabGreatDoorJoint1
import Derived.Handy
import Derived.Test.YtiabacnmmojfjabGreatDoorJoint17
import Derived.Test.YtiabacnmmojfjabGreatDoorJoint6
import Derived.Test.YtiabacnmmojfjabGreatDoorJoint11
import Derived.Test.YtiabacnmmojfjabGreatDoorJoint18
import Derived.Test.YtiabacnmmojfjabGreatDoorJoint12
import Derived.Test.YtiabacnmmojfjabGreatDoorJoint7
import Derived.Test.YtiabacnmmojfjabGreatDoorJoint16
namespace Go.Proofs.YtiabacnmmojfjabGreatDoor
open Go.ChangeShapes Go.WideShapes Go.ChangeAt Go.RowKit
theorem isKeyR_c (p : Option Addr) (q : Nat) (bs : List UInt8) (w : World) : Calls Tryz.prog 141 #[.slice p bs.length q] w fun e w' => e = .returned (.bool (is32 bs)) ∧ w' = w := by
 by_cases h : bs.length = 32
 ·rw [show is32 bs = true by simp [is32, h]]
  have d1 : ((bs.length : Int) == 32) = true := by rw [beq_iff_eq]; omega
  clear h
  go_enter Tryz.func141, Tryz.ntmps141
  go_wp2
  go_ret
  exact ⟨rfl, rfl⟩
 ·rw [show is32 bs = false by simp [is32, h]]
  have d1 : ((bs.length : Int) == 32) = false := by rw [beq_eq_false_iff_ne]; omega
  clear h
  go_enter Tryz.func141, Tryz.ntmps141
  go_wp2
  go_ret
  exact ⟨rfl, rfl⟩
theorem isHelloKind_c (k : Int) (w : World) : Calls Tryz.prog 169 #[.int .i64 k] w fun e w' => e = .returned (.bool (hkB k)) ∧ w' = w := by
 by_cases h1 : k = 1
 ·rw [show hkB k = true by simp [hkB, h1]]
  have d1 : (k == 1) = true := by rw [beq_iff_eq]; exact h1
  clear h1
  go_enter Tryz.func169, Tryz.ntmps169
  go_wp2
  go_ret
  exact ⟨rfl, rfl⟩
 ·have d1 : (k == 1) = false := by rw [beq_eq_false_iff_ne]; exact h1
  by_cases h2 : k = 2
  ·rw [show hkB k = true by simp [hkB, h2]]
   have d2 : (k == 2) = true := by rw [beq_iff_eq]; exact h2
   clear h1 h2
   go_enter Tryz.func169, Tryz.ntmps169
   go_wp2
   go_ret
   exact ⟨rfl, rfl⟩
  ·rw [show hkB k = false by simp [hkB, h1, h2]]
   have d2 : (k == 2) = false := by rw [beq_eq_false_iff_ne]; exact h2
   clear h1 h2
   go_enter Tryz.func169, Tryz.ntmps169
   go_wp2
   go_ret
   exact ⟨rfl, rfl⟩
theorem isPsk_c (k : Int) (w : World) : Calls Tryz.prog 116 #[.int .i64 k] w fun e w' => e = .returned (.bool (inB k 0 9)) ∧ w' = w := by
 by_cases h1 : 0 ≤ k
 ·by_cases h2 : k ≤ 9
  ·rw [show inB k 0 9 = true by simp [inB, h1, h2]]
   go_enter Tryz.func116, Tryz.ntmps116
   go_wp2
   go_ret
   exact ⟨rfl, rfl⟩
  ·rw [show inB k 0 9 = false by simp [inB, h2]; try omega]
   go_enter Tryz.func116, Tryz.ntmps116
   go_wp2
   go_ret
   exact ⟨rfl, rfl⟩
 ·rw [show inB k 0 9 = false by simp [inB, h1]; try omega]
  go_enter Tryz.func116, Tryz.ntmps116
  go_wp2
  go_ret
  exact ⟨rfl, rfl⟩
theorem isWhole_c (p : Option Addr) (q : Nat) (bs : List UInt8) (w : World) : Calls Tryz.prog 117 #[.slice p bs.length q] w fun e w' => e = .returned (.bool (decide (bs.length = 8))) ∧ w' = w := by
 by_cases h : bs.length = 8
 ·rw [show decide (bs.length = 8) = true by simp [h]]
  have d1 : ((bs.length : Int) == 8) = true := by rw [beq_iff_eq]; omega
  clear h
  go_enter Tryz.func117, Tryz.ntmps117
  go_wp2
  go_ret
  exact ⟨rfl, rfl⟩
 ·rw [show decide (bs.length = 8) = false by simp [h]]
  have d1 : ((bs.length : Int) == 8) = false := by rw [beq_eq_false_iff_ne]; omega
  clear h
  go_enter Tryz.func117, Tryz.ntmps117
  go_wp2
  go_ret
  exact ⟨rfl, rfl⟩
theorem randomCopy_c (p : Option Addr) (q : Nat) (bs : List UInt8) (w : World) (hr : Rd w p q bs) (hl : bs.length ≤ 1000000) : Calls Tryz.prog 194 #[.slice p bs.length q] w fun e w' => ∃ u, e = .returned u ∧ Own w' w.heap.size u bs ∧ Below w.heap.size w w' := by
 go_enter Tryz.func194, Tryz.ntmps194
 go_wp2_with fail
 refine (bytesClone_c p q bs w hr hl).mono ?_
 rintro e w1 ⟨u, rfl, k, hb⟩
 go_wp2
 go_ret
 exact ⟨_, rfl, k, hb⟩
set_option maxRecDepth 4000 in
set_option maxHeartbeats 1000000 in
theorem helloFault_c (h : HelloD) (p : Option Addr) (q : Nat) (w : World) : Calls Tryz.prog 193 #[.agg #[.slice p h.1.length q, .int .i64 h.2.1, .int .i64 h.2.2]] w fun e w' => e = .returned (.int .i64 (hfC h)) ∧ Below w.heap.size w w' := by
 cases h1 : decide (h.1.length = 8)
 ·rw [show hfC h = 1 by simp only [decide_eq_false_iff_not] at h1; simp [hfC, h1]]
  go_enter Tryz.func193, Tryz.ntmps193
  go_wp2_with fail
  refine (isWhole_c _ _ _ _).mono ?_
  rintro e w' ⟨rfl, hw⟩
  subst hw
  rw [h1]
  go_wp2
  go_ret
  exact ⟨rfl, alloc_below _ _⟩
 ·have h8 : h.1.length = 8 := by simpa using h1
  cases h2 : inB h.2.1 1 65520
  ·rw [show hfC h = 3 by simp [hfC, h8, h2]]
   clear h8
   go_enter Tryz.func193, Tryz.ntmps193
   go_wp2_with fail
   refine (isWhole_c _ _ _ _).mono ?_
   rintro e w' ⟨rfl, hw⟩
   subst hw
   rw [h1]
   go_wp2_with fail
   refine (isElement_c _ _).mono ?_
   rintro e w' ⟨rfl, hw⟩
   subst hw
   rw [h2]
   go_wp2
   go_ret
   exact ⟨rfl, alloc_below _ _⟩
  ·cases h3 : inB h.2.2 0 9
   ·rw [show hfC h = 3 by simp [hfC, h8, h3]]
    clear h8
    go_enter Tryz.func193, Tryz.ntmps193
    go_wp2_with fail
    refine (isWhole_c _ _ _ _).mono ?_
    rintro e w' ⟨rfl, hw⟩
    subst hw
    rw [h1]
    go_wp2_with fail
    refine (isElement_c _ _).mono ?_
    rintro e w' ⟨rfl, hw⟩
    subst hw
    rw [h2]
    go_wp2_with fail
    refine (isPsk_c _ _).mono ?_
    rintro e w' ⟨rfl, hw⟩
    subst hw
    rw [h3]
    go_wp2
    go_ret
    exact ⟨rfl, alloc_below _ _⟩
   ·rw [show hfC h = 0 by simp [hfC, h8, h2, h3]]
    clear h8
    go_enter Tryz.func193, Tryz.ntmps193
    go_wp2_with fail
    refine (isWhole_c _ _ _ _).mono ?_
    rintro e w' ⟨rfl, hw⟩
    subst hw
    rw [h1]
    go_wp2_with fail
    refine (isElement_c _ _).mono ?_
    rintro e w' ⟨rfl, hw⟩
    subst hw
    rw [h2]
    go_wp2_with fail
    refine (isPsk_c _ _).mono ?_
    rintro e w' ⟨rfl, hw⟩
    subst hw
    rw [h3]
    go_wp2
    go_ret
    exact ⟨rfl, alloc_below _ _⟩
end Go.Proofs.YtiabacnmmojfjabGreatDoor
