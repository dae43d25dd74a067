/- The contracts of signatures in the specification that only read: l12Signs, SignsFault, l12Leaked, l12Check, CheckSign, at every argument. What was there stays. -/
import Derived.Test.YtklglpmlfboglaaCertS
import Derived.Test.YtklglpmlfboglaaSignsK
import Derived.Test.YtklglpmlfboglaaSchS
import Derived.Test.YtklglpmlfboglaaJoint7
import Derived.Test.YtklglpmlfboglaaInts
namespace Go.Proofs.Ytklglpmlfboglaa
open Go.ChangeShapes Go.WideShapes Go.ChangeAt Go.RowKit

set_option maxRecDepth 4000 in
set_option maxHeartbeats 1000000 in
theorem l12Signs_c (l : List SignD) (p : Option Addr) (q : Nat) (w : World) (hr : RdL signC w p q l) :
    Calls Try.prog 57 #[.slice p l.length q] w fun e w' => e = .returned (.int .i64 (sgC l)) ∧ w' = w := by
  have HR : Hid (RdL signC w p q l) := hr
  have hq1 : l.length ≤ q := hr.1
  have hq2 : q ≤ 2 ^ 63 - 1 := hr.2.1
  clear hr
  by_cases hl : l.length ≤ 40
  · have hlI : ¬ (40 < (l.length : Int)) := by omega
    have HC : Hid (sgC l = sgF l) := by show _ = _; rw [sgC, if_pos hl]
    go_enter Try.func57, Try.ntmps57
    go_wp2
    go_loopw [3] (fun i wr => wr = w ∧ ∃ k : Nat, k ≤ l.length ∧ i = .int .i64 k ∧ sgC l = sgF (l.drop k))
      (fun i _ => l.length - (intOf i).toNat)
    case atStart => exact ⟨rfl, 0, Nat.zero_le _, rfl, HC.out⟩
    case round =>
      obtain ⟨rfl, k, hk, rfl, hn⟩ := hrel
      by_cases hlt : k < l.length
      · have hI : (k : Int) < (l.length : Int) := by omega
        obtain ⟨b, o, e1, hc⟩ := HR.out.2.2.2 (by omega)
        subst e1
        obtain ⟨a, ha⟩ : ∃ a, l[k]? = some a := ⟨l[k], by simp [hlt]⟩
        obtain ⟨us, hrep, hcell⟩ := hc k a ha
        obtain ⟨pa, qa, rfl, ra⟩ := sign_rep hrep
        have c0 := hcell 0 _ rfl
        have c1 := hcell 1 _ rfl
        have c2 := hcell 2 _ rfl
        rw [show signC.n = 3 from rfl] at c0 c1 c2
        rw [Nat.add_zero] at c0
        clear hc hcell hrep ra
        have HO : Hid (sgO a = if inB a.1 1 99 && inB a.2.1 0 9 then (if is32 a.2.2 then 0 else 1) else 3) := rfl
        have H0 : Hid (sgO a = 0 → sgC l = sgF (l.drop (k + 1))) := fun h => hn.trans (sgF_step ha h)
        have H1 : Hid (sgO a ≠ 0 → sgC l = sgO a) := fun h => hn.trans (sgF_bad ha h)
        clear hn
        cases h1 : inB a.1 1 99
        · have hz : Hid (sgO a = 3) := by show _ = _; rw [HO.out, h1]; rfl
          have hz2 : Hid (sgC l = 3) := (H1.out (by rw [hz.out]; decide)).trans hz.out
          go_wp2_with fail
          refine (l1In_c _ _ _ _).mono ?_
          rintro e w2 ⟨rfl, rfl⟩
          rw [h1]
          go_wp2
          go_ret
          exact ⟨by rw [hz2.out]; rfl, rfl⟩
        · cases h2 : inB a.2.1 0 9
          · have hz : Hid (sgO a = 3) := by show _ = _; rw [HO.out, h1, h2]; rfl
            have hz2 : Hid (sgC l = 3) := (H1.out (by rw [hz.out]; decide)).trans hz.out
            go_wp2_with fail
            refine (l1In_c _ _ _ _).mono ?_
            rintro e w2 ⟨rfl, rfl⟩
            rw [h1]
            go_wp2_with fail
            refine (l1In_c _ _ _ _).mono ?_
            rintro e w2 ⟨rfl, rfl⟩
            rw [h2]
            go_wp2
            go_ret
            exact ⟨by rw [hz2.out]; rfl, rfl⟩
          · cases h3 : is32 a.2.2
            · have hz : Hid (sgO a = 1) := by show _ = _; rw [HO.out, h1, h2, h3]; rfl
              have hz2 : Hid (sgC l = 1) := (H1.out (by rw [hz.out]; decide)).trans hz.out
              go_wp2_with fail
              refine (l1In_c _ _ _ _).mono ?_
              rintro e w2 ⟨rfl, rfl⟩
              rw [h1]
              go_wp2_with fail
              refine (l1In_c _ _ _ _).mono ?_
              rintro e w2 ⟨rfl, rfl⟩
              rw [h2]
              go_wp2_with fail
              refine (l7Secret_c pa qa a.2.2 _).mono ?_
              rintro e w2 ⟨rfl, rfl⟩
              rw [h3]
              go_wp2
              go_ret
              exact ⟨by rw [hz2.out]; rfl, rfl⟩
            · have hz : Hid (sgO a = 0) := by show _ = _; rw [HO.out, h1, h2, h3]; rfl
              have hz2 : Hid (sgC l = sgF (l.drop (k + 1))) := H0.out hz.out
              go_wp2_with fail
              refine (l1In_c _ _ _ _).mono ?_
              rintro e w2 ⟨rfl, rfl⟩
              rw [h1]
              go_wp2_with fail
              refine (l1In_c _ _ _ _).mono ?_
              rintro e w2 ⟨rfl, rfl⟩
              rw [h2]
              go_wp2_with fail
              refine (l7Secret_c pa qa a.2.2 _).mono ?_
              rintro e w2 ⟨rfl, rfl⟩
              rw [h3]
              go_wp2_with fail
              go_roundw
              case rel => exact ⟨trivial, k + 1, by omega, by go_num, hz2.out⟩
              case measure => simp [intOf]; omega
      · have e : k = l.length := by omega
        subst e
        have hn2 : Hid (sgC l = 0) := hn.trans (sgF_end l)
        clear hn
        go_wp2
        go_ret
        exact ⟨by rw [hn2.out]; rfl, rfl⟩
  · have hlI : 40 < (l.length : Int) := by omega
    rw [show sgC l = 2 by rw [sgC, if_neg hl]]
    clear hl
    go_enter Try.func57, Try.ntmps57
    go_wp2
    go_ret
    exact ⟨rfl, rfl⟩
theorem atI_some {l : List Int} {k : Nat} {a : Int} (h : l[k]? = some a) : atI l k = a := by unfold atI; rw [List.getD_eq_getElem?_getD, h]; rfl
theorem lkB_at {l : List Int} {k : Nat} {id : Int} (h : l[k]? = some id) : lkB l id = true := by
  simp only [lkB, List.any_eq_true]; exact ⟨id, List.mem_of_getElem? h, by simp⟩
set_option maxRecDepth 4000 in
set_option maxHeartbeats 400000 in
theorem l12Leaked_c (l : List Int) (p : Option Addr) (q : Nat) (id : Int) (w : World) (hr : RdI w p q l) :
    Calls Try.prog 78 #[.slice p l.length q, .int .i64 id] w fun e w' => e = .returned (.bool (lkB l id)) ∧ w' = w := by
  have HR : Hid (RdI w p q l) := hr
  have hq1 : l.length ≤ q := hr.1
  have hq2 : q ≤ 2 ^ 63 - 1 := hr.2.1
  clear hr
  go_enter Try.func78, Try.ntmps78
  go_wp2
  go_loopw [5] (fun i wr => wr = w ∧ ∃ k : Nat, k ≤ l.length ∧ i = .int .i64 k ∧ lkB (l.take k) id = false)
    (fun i _ => l.length - (intOf i).toNat)
  case atStart => exact ⟨rfl, 0, Nat.zero_le _, rfl, by simp [lkB]⟩
  case round =>
    obtain ⟨rfl, k, hk, rfl, hn⟩ := hrel
    by_cases hlt : k < l.length
    · have hI : (k : Int) < (l.length : Int) := by omega
      obtain ⟨b, o, e1, hc⟩ := HR.out.2.2.2 (by omega)
      subst e1
      obtain ⟨a, ha⟩ : ∃ a, l[k]? = some a := ⟨l[k], by simp [hlt]⟩
      have c0 := hc k hlt
      rw [atI_some ha] at c0
      clear hc
      by_cases he : a = id
      · subst he
        have HE : Hid (lkB l a = true) := lkB_at ha
        clear hn
        go_wp2
        go_ret
        exact ⟨by rw [HE.out]; rfl, rfl⟩
      · have d : (a == id) = false := by rw [beq_eq_false_iff_ne]; exact he
        have hn2 : Hid (lkB (l.take (k + 1)) id = false) := by show _ = _; rw [lkB_take ha, hn, d]; rfl
        clear he hn
        go_wp2
        go_roundw
        case rel => exact ⟨trivial, k + 1, by omega, by go_num, hn2.out⟩
        case measure => simp [intOf]; omega
    · have e : k = l.length := by omega
      subst e
      rw [List.take_length] at hn
      go_wp2
      go_ret
      exact ⟨by rw [hn]; rfl, rfl⟩
set_option maxRecDepth 4000 in
set_option maxHeartbeats 1000000 in
theorem l12Check_c (l : List SignD) (p p2 : Option Addr) (q q2 : Nat) (place id : Int) (d : List UInt8) (w : World) (hr : RdL signC w p q l) (hd : Rd w p2 q2 d) (hpl : (Lit.int .i64 place).wf = true) :
    Calls Try.prog 65 #[.slice p l.length q, .int .i64 place, .int .i64 id, .slice p2 d.length q2] w fun e w' => e = .returned (.bool (ckA l place id d)) ∧ w' = w := by
  have HR : Hid (RdL signC w p q l) := hr
  have HD : Hid (Rd w p2 q2 d) := hd
  have hq1 : l.length ≤ q := hr.1
  have hq2 : q ≤ 2 ^ 63 - 1 := hr.2.1
  have hw : wrap64 ((l.length : Int) - 1) = (l.length : Int) - 1 := by unfold wrap64; omega
  clear hr hd
  by_cases h0 : 0 ≤ place ∧ place < (l.length : Int)
  · obtain ⟨k, rfl⟩ : ∃ k : Nat, place = (k : Int) := ⟨place.toNat, by omega⟩
    have hk : k < l.length := by omega
    have hkI : (k : Int) < (l.length : Int) := by omega
    obtain ⟨a, ha⟩ : ∃ a, l[k]? = some a := ⟨l[k], by simp [hk]⟩
    have HB : Hid (inB (k : Int) 0 ((l.length : Int) - 1) = true) := inB_true (by omega) (by omega)
    obtain ⟨b, o, e1, hc⟩ := HR.out.2.2.2 (by omega)
    subst e1
    obtain ⟨us, hrep, hcell⟩ := hc k a ha
    obtain ⟨pa, qa, rfl, ra⟩ := sign_rep hrep
    have c0 := hcell 0 _ rfl
    have c2 := hcell 2 _ rfl
    rw [show signC.n = 3 from rfl] at c0 c2
    rw [Nat.add_zero] at c0
    rw [ckA_at ha]
    clear hc hcell hrep h0
    cases he : (a.1 == id)
    · go_enter Try.func65, Try.ntmps65
      go_wp2_with fail
      try rw [hw]
      refine (l1In_c _ _ _ _).mono ?_
      rintro e w2 ⟨rfl, rfl⟩
      rw [HB.out]
      go_wp2
      go_ret
      exact ⟨rfl, rfl⟩
    · go_enter Try.func65, Try.ntmps65
      go_wp2_with fail
      try rw [hw]
      refine (l1In_c _ _ _ _).mono ?_
      rintro e w2 ⟨rfl, rfl⟩
      rw [HB.out]
      go_wp2_with fail
      refine (l1Same_c pa p2 qa q2 a.2.2 d _ ra HD.out).mono ?_
      rintro e w2 ⟨rfl, rfl⟩
      go_wp2
      go_ret
      exact ⟨by simp; exact Bool.eq_iff_iff.2 (by simp [sameB]), rfl⟩
  · have HB : Hid (inB place 0 ((l.length : Int) - 1) = false) := inB_false (by omega)
    rw [ckA_out h0]
    clear h0
    go_enter Try.func65, Try.ntmps65
    go_wp2_with fail
    try rw [hw]
    refine (l1In_c _ _ _ _).mono ?_
    rintro e w2 ⟨rfl, rfl⟩
    rw [HB.out]
    go_wp2
    go_ret
    exact ⟨rfl, rfl⟩
set_option maxRecDepth 4000 in
theorem specCk_c (l : List SignD) (p p2 : Option Addr) (q q2 : Nat) (place id : Int) (d : List UInt8) (w : World) (hr : RdL signC w p q l) (hd : Rd w p2 q2 d) (hpl : (Lit.int .i64 place).wf = true) :
    Calls Try.prog 27 #[.slice p l.length q, .int .i64 place, .int .i64 id, .slice p2 d.length q2] w fun e w' => e = .returned (.bool (ckB l place id d)) ∧ Below w.heap.size w w' := by
  have K : Hid (Calls Try.prog 57 #[.slice p l.length q] w fun e w' => e = .returned (.int .i64 (sgC l)) ∧ w' = w) := l12Signs_c l p q w hr
  have K2 : Hid (Calls Try.prog 65 #[.slice p l.length q, .int .i64 place, .int .i64 id, .slice p2 d.length q2] w fun e w' => e = .returned (.bool (ckA l place id d)) ∧ w' = w) := l12Check_c l p p2 q q2 place id d w hr hd hpl
  by_cases hs : sgC l = 0
  · rw [hs] at K
    rw [show ckB l place id d = ckA l place id d by simp [ckB, hs]]
    clear hs
    go_enter Try.func27, Try.ntmps27
    go_wp2_with fail
    refine K.out.mono ?_
    rintro e w2 ⟨rfl, rfl⟩
    go_wp2_with fail
    refine K2.out.mono ?_
    rintro e w2 ⟨rfl, rfl⟩
    go_wp2
    go_ret
    exact ⟨rfl, Below.refl _ _⟩
  · rw [show ckB l place id d = false by simp [ckB, hs]]
    obtain ⟨z, hz⟩ : ∃ z, Hid (sgC l = z) := ⟨_, rfl⟩
    rw [hz.out] at K hs
    have hd0 : (z == 0) = false := by rw [beq_eq_false_iff_ne]; exact hs
    clear hs hz
    go_enter Try.func27, Try.ntmps27
    go_wp2_with fail
    refine K.out.mono ?_
    rintro e w2 ⟨rfl, rfl⟩
    go_wp2
    go_ret
    exact ⟨rfl, Below.refl _ _⟩
end Go.Proofs.Ytklglpmlfboglaa

