/- Chapter 13 of the specification: faults (l13Fault), AuthKey, AuthDigest, MakeAuth: code and bytes at every argument. What was there stays. -/
import Derived.Test.YtflhoefocjmihaaGreatDoorAuthT
import Derived.Test.YtflhoefocjmihaaGreatDoorCertS
import Derived.Test.YtflhoefocjmihaaGreatDoorJoint9
import Derived.Test.YtflhoefocjmihaaGreatDoorJoint15
import Derived.Test.YtflhoefocjmihaaGreatDoorJoint7
import Derived.Test.YtflhoefocjmihaaGreatDoorJoint3
namespace Go.Proofs.YtflhoefocjmihaaGreatDoor
open Go.RowKit

theorem akC_len {x : List UInt8} {r : Int} (h : akC x r = 0) : x.length = 32 := by
  unfold akC at h
  cases h1 : is32 x
  · rw [h1] at h; cases h
  · simpa [is32] using h1
set_option maxRecDepth 4000 in
set_option maxHeartbeats 1000000 in
theorem l13Fault_c (p p2 : Option Addr) (q q2 b o : Nat) (x ctx : List UInt8) (r : Int) (c : CertD) (w : World) (c0 : w.cell? ⟨b, o, none⟩ = some (.int .i64 c.1)) (c1 : w.cell? ⟨b, o + 1, none⟩ = some (.int .i64 c.2.1)) (c2 : w.cell? ⟨b, o + 2, none⟩ = some (.int .i64 c.2.2)) :
    Calls Tryz.prog 67 #[.slice p x.length q, .int .i64 r, .slice p2 ctx.length q2, .pointer (some ⟨b, o, none⟩)] w fun e w' => e = .returned (.int .i64 (adC x r ctx c)) ∧ w' = w := by
  have KA : Hid (Calls Tryz.prog 80 #[.slice p x.length q, .int .i64 r] w fun e w' => e = .returned (.int .i64 (akC x r)) ∧ w' = w) := l13Asked_c p q x r w
  have KC := l13Context_c p2 q2 ctx w
  have KO := l12One_c b o c w c0 c1 c2
  have HD : adC x r ctx c = (if akC x r = 0 then (if ctxB ctx then (if okC c then 0 else 3) else 2) else akC x r) := rfl
  rw [HD]
  clear HD c0 c1 c2
  obtain ⟨k, HK⟩ : ∃ k, Hid (akC x r = k) := ⟨_, rfl⟩
  rw [HK.out] at KA ⊢
  clear HK
  by_cases h1 : k = 0
  · subst h1
    rw [if_pos rfl]
    cases h2 : ctxB ctx
    · rw [h2] at KC
      have KC : Hid _ := KC
      rw [if_neg (by decide)]
      clear KO
      go_enter Tryz.func67, Tryz.ntmps67
      go_wp2_with fail
      refine Calls.mono KA.out ?_
      rintro e w0 ⟨rfl, hw⟩
      subst hw
      go_wp2_with fail
      refine Calls.mono KC.out ?_
      rintro e w1 ⟨rfl, hw⟩
      subst hw
      go_wp2
      go_ret
      exact ⟨rfl, rfl⟩
    · rw [h2] at KC
      have KC : Hid _ := KC
      rw [if_pos rfl]
      cases h3 : okC c
      · rw [h3] at KO
        have KO : Hid _ := KO
        rw [if_neg (by decide)]
        go_enter Tryz.func67, Tryz.ntmps67
        go_wp2_with fail
        refine Calls.mono KA.out ?_
        rintro e w0 ⟨rfl, hw⟩
        subst hw
        go_wp2_with fail
        refine Calls.mono KC.out ?_
        rintro e w1 ⟨rfl, hw⟩
        subst hw
        go_wp2_with fail
        refine Calls.mono KO.out ?_
        rintro e w2 ⟨rfl, hw⟩
        subst hw
        go_wp2
        go_ret
        exact ⟨rfl, rfl⟩
      · rw [h3] at KO
        have KO : Hid _ := KO
        rw [if_pos rfl]
        go_enter Tryz.func67, Tryz.ntmps67
        go_wp2_with fail
        refine Calls.mono KA.out ?_
        rintro e w0 ⟨rfl, hw⟩
        subst hw
        go_wp2_with fail
        refine Calls.mono KC.out ?_
        rintro e w1 ⟨rfl, hw⟩
        subst hw
        go_wp2_with fail
        refine Calls.mono KO.out ?_
        rintro e w2 ⟨rfl, hw⟩
        subst hw
        go_wp2
        go_ret
        exact ⟨rfl, rfl⟩
  · rw [if_neg h1]
    clear KC KO
    go_enter Tryz.func67, Tryz.ntmps67
    go_wp2_with fail
    refine Calls.mono KA.out ?_
    rintro e w0 ⟨rfl, hw⟩
    subst hw
    go_wp2
    go_ret
    exact ⟨rfl, rfl⟩
set_option maxRecDepth 4000 in
set_option maxHeartbeats 1000000 in
theorem specMa_c (p p2 : Option Addr) (q q2 : Nat) (x ctx : List UInt8) (r : Int) (c : CertD) (place : Int) (w : World) (hr : Rd w p q x) (hr2 : Rd w p2 q2 ctx) :
    Calls Tryz.prog 17 #[.slice p x.length q, .int .i64 r, .slice p2 ctx.length q2, .agg #[.int .i64 c.1, .int .i64 c.2.1, .int .i64 c.2.2], .int .i64 place] w fun e w' => ∃ u, e = .returned (.agg #[.int .i64 (maD x r ctx c place).1, u]) ∧ Own w' w.heap.size u (maD x r ctx c place).2 ∧ Below w.heap.size w w' := by
  have BW := Below.mk (alloc_below w (.cells #[.int .i64 c.1, .int .i64 c.2.1, .int .i64 c.2.2] 41)) (.cells #[.int .i64 0, .slice none 0 0] 45)
  have A := (Arr.new w [.int .i64 c.1, .int .i64 c.2.1, .int .i64 c.2.2] 41).old _ (.cells #[.int .i64 0, .slice none 0 0] 45)
  have R := Arr.new (w.alloc (.cells #[.int .i64 c.1, .int .i64 c.2.1, .int .i64 c.2.2] 41)) [.int .i64 0, .slice none 0 0] 45
  rw [size_alloc] at R
  have KA : Hid _ := l13Fault_c p p2 q q2 w.heap.size 0 x ctx r c ((w.alloc (.cells #[.int .i64 c.1, .int .i64 c.2.1, .int .i64 c.2.2] 41)).alloc (.cells #[.int .i64 0, .slice none 0 0] 45)) (A.cell 0) (A.cell 1) (A.cell 2)
  by_cases h0 : adC x r ctx c = 0
  · cases h1 : inB place 0 39
    · rw [show maD x r ctx c place = (3, []) by rw [maD, maC, if_pos h0, h1]; rfl]
      rw [h0] at KA
      clear hr hr2 A R BW h0
      go_enter Tryz.func17, Tryz.ntmps17
      go_wp2_with fail
      refine Calls.mono KA.out ?_
      rintro e w2 ⟨rfl, hw⟩
      subst hw
      go_wp2_with fail
      refine (l1In_c _ _ _ _).mono ?_
      rintro e w2 ⟨rfl, hw⟩
      subst hw
      rw [h1]
      go_wp2
      exact bodyPost_ret (v := .agg #[.int .i64 3, .slice none 0 0]) (by simp [results, Tryz.results17, go_sem]) rfl ⟨_, rfl, Own_nil _ _, Below.mk (alloc_below _ _) _⟩
    · rw [show maD x r ctx c place = (0, mkN x r ctx c place) by rw [maD, maC, if_pos h0, h1]; rfl]
      obtain ⟨hk, hct, hoc⟩ := adC_ok h0
      have hx := akC_len hk
      have hcl := (ctxB_parts hct).2
      have hpl : 0 ≤ place ∧ place ≤ 39 := by simp only [inB, decide_eq_true_eq] at h1; exact h1
      have KK : Hid (Calls Tryz.prog 50 #[.slice p x.length q, .int .i64 r, .slice p2 ctx.length q2, .pointer (some ⟨w.heap.size, 0, none⟩), .int .i64 place] ((w.alloc (.cells #[.int .i64 c.1, .int .i64 c.2.1, .int .i64 c.2.2] 41)).alloc (.cells #[.int .i64 0, .slice none 0 0] 45)) fun e w' => ∃ u, e = .returned u ∧ Own w' ((w.alloc (.cells #[.int .i64 c.1, .int .i64 c.2.1, .int .i64 c.2.2] 41)).alloc (.cells #[.int .i64 0, .slice none 0 0] 45)).heap.size u (mkN x r ctx c place) ∧ Below ((w.alloc (.cells #[.int .i64 c.1, .int .i64 c.2.1, .int .i64 c.2.2] 41)).alloc (.cells #[.int .i64 0, .slice none 0 0] 45)).heap.size ((w.alloc (.cells #[.int .i64 c.1, .int .i64 c.2.1, .int .i64 c.2.2] 41)).alloc (.cells #[.int .i64 0, .slice none 0 0] 45)) w') := l13Make_c p p2 q q2 w.heap.size 0 x ctx r c place _ (hr.keep BW) (hr2.keep BW) (A.cell 0) (A.cell 1) (A.cell 2) (by omega) hcl hoc (by omega) (by omega)
      obtain ⟨pw, HP⟩ : ∃ pw, Hid (mkN x r ctx c place = pw) := ⟨_, rfl⟩
      rw [HP.out] at KK ⊢
      rw [h0] at KA
      clear HP hk hct hoc hx hcl h0 hr hr2 A hpl
      go_enter Tryz.func17, Tryz.ntmps17
      go_wp2_with fail
      refine Calls.mono KA.out ?_
      rintro e w2 ⟨rfl, hw⟩
      subst hw
      go_wp2_with fail
      refine (l1In_c _ _ _ _).mono ?_
      rintro e w2 ⟨rfl, hw⟩
      subst hw
      rw [h1]
      go_wp2_with fail
      refine Calls.mono KK.out ?_
      rintro e w3 ⟨u3, rfl, k3, hb3⟩
      have BW3 := Below.step BW hb3
      have R3 := R.stay hb3
      have hlt : Hid (w.heap.size + 1 < ((w.alloc (.cells #[.int .i64 c.1, .int .i64 c.2.1, .int .i64 c.2.2] 41)).alloc (.cells #[.int .i64 0, .slice none 0 0] 45)).heap.size) := R.lt
      obtain ⟨p3, q3, rfl, -⟩ := k3.rd
      have c0 := R3.cell 0
      have c1 := R3.cell 1
      have fz := R3.frozen
      simp at c0 c1
      clear R KK KA hb3 R3
      go_wp2
      refine bodyPost_ret (v := .agg #[.int .i64 0, .slice p3 pw.length q3]) (by simp [results, Tryz.results17, go_sem, c0, c1]) rfl ⟨_, rfl, ?_, (BW3.setCell (by show w.heap.size ≤ w.heap.size + 1; omega) _).setCell (by show w.heap.size ≤ w.heap.size + 1; omega) _⟩
      exact ((k3.set (a := ⟨w.heap.size + 1, 0, none⟩) hlt.out _).set (a := ⟨w.heap.size + 1, 1, none⟩) hlt.out _).lower (B' := w.heap.size) (by have := hlt.out; omega)
  · rw [show maD x r ctx c place = (adC x r ctx c, []) by rw [maD, maC, if_neg h0, if_neg h0]]
    obtain ⟨k, HK⟩ : ∃ k, Hid (adC x r ctx c = k) := ⟨_, rfl⟩
    rw [HK.out] at KA h0 ⊢
    clear HK hr hr2 A R BW
    go_enter Tryz.func17, Tryz.ntmps17
    go_wp2_with fail
    refine Calls.mono KA.out ?_
    rintro e w2 ⟨rfl, hw⟩
    subst hw
    go_wp2
    exact bodyPost_ret (v := .agg #[.int .i64 k, .slice none 0 0]) (by simp [results, Tryz.results17, go_sem]) rfl ⟨_, rfl, Own_nil _ _, Below.mk (alloc_below _ _) _⟩
end Go.Proofs.YtflhoefocjmihaaGreatDoor

/- The contracts of signatures in the specification that only read: l12Signs, SignsFault, l12Leaked, l12Check, CheckSign, at every argument. What was there stays. -/
namespace Go.Proofs.YtflhoefocjmihaaGreatDoor
open Go.ChangeShapes Go.WideShapes Go.ChangeAt Go.RowKit

set_option maxRecDepth 4000 in
set_option maxHeartbeats 1000000 in
theorem l12Signs_c (l : List SignD) (p : Option Addr) (q : Nat) (w : World) (hr : RdL signC w p q l) :
    Calls Tryz.prog 47 #[.slice p l.length q] w fun e w' => e = .returned (.int .i64 (sgC l)) ∧ w' = w := by
  have HR : Hid (RdL signC w p q l) := hr
  have hq1 : l.length ≤ q := hr.1
  have hq2 : q ≤ 2 ^ 63 - 1 := hr.2.1
  clear hr
  by_cases hl : l.length ≤ 40
  · have hlI : ¬ (40 < (l.length : Int)) := by omega
    have HC : Hid (sgC l = sgF l) := by show _ = _; rw [sgC, if_pos hl]
    go_enter Tryz.func47, Tryz.ntmps47
    go_wp2
    go_loopw [3] (fun i wr => wr = w ∧ ∃ k : Nat, k ≤ l.length ∧ i = .int .i64 k ∧ sgC l = sgF (l.drop k))
      (fun i _ => l.length - (intOf i).toNat)
    case atStart => exact ⟨rfl, 0, Nat.zero_le _, rfl, HC.out⟩
    case round =>
      obtain ⟨rfl, k, hk, rfl, hn⟩ := hrel
      by_cases hlt : k < l.length
      · have hI : (k : Int) < (l.length : Int) := by omega
        obtain ⟨b, o, e1, hc⟩ := HR.out.2.2.2 (by omega)
        subst e1
        obtain ⟨a, ha⟩ : ∃ a, l[k]? = some a := ⟨l[k], by simp [hlt]⟩
        obtain ⟨us, hrep, hcell⟩ := hc k a ha
        obtain ⟨pa, qa, rfl, ra⟩ := sign_rep hrep
        have c0 := hcell 0 _ rfl
        have c1 := hcell 1 _ rfl
        have c2 := hcell 2 _ rfl
        rw [show signC.n = 3 from rfl] at c0 c1 c2
        rw [Nat.add_zero] at c0
        clear hc hcell hrep ra
        have HO : Hid (sgO a = if inB a.1 1 99 && inB a.2.1 0 9 then (if is32 a.2.2 then 0 else 1) else 3) := rfl
        have H0 : Hid (sgO a = 0 → sgC l = sgF (l.drop (k + 1))) := fun h => hn.trans (sgF_step ha h)
        have H1 : Hid (sgO a ≠ 0 → sgC l = sgO a) := fun h => hn.trans (sgF_bad ha h)
        clear hn
        cases h1 : inB a.1 1 99
        · have hz : Hid (sgO a = 3) := by show _ = _; rw [HO.out, h1]; rfl
          have hz2 : Hid (sgC l = 3) := (H1.out (by rw [hz.out]; decide)).trans hz.out
          go_wp2_with fail
          refine (l1In_c _ _ _ _).mono ?_
          rintro e w2 ⟨rfl, rfl⟩
          rw [h1]
          go_wp2
          go_ret
          exact ⟨by rw [hz2.out]; rfl, rfl⟩
        · cases h2 : inB a.2.1 0 9
          · have hz : Hid (sgO a = 3) := by show _ = _; rw [HO.out, h1, h2]; rfl
            have hz2 : Hid (sgC l = 3) := (H1.out (by rw [hz.out]; decide)).trans hz.out
            go_wp2_with fail
            refine (l1In_c _ _ _ _).mono ?_
            rintro e w2 ⟨rfl, rfl⟩
            rw [h1]
            go_wp2_with fail
            refine (l1In_c _ _ _ _).mono ?_
            rintro e w2 ⟨rfl, rfl⟩
            rw [h2]
            go_wp2
            go_ret
            exact ⟨by rw [hz2.out]; rfl, rfl⟩
          · cases h3 : is32 a.2.2
            · have hz : Hid (sgO a = 1) := by show _ = _; rw [HO.out, h1, h2, h3]; rfl
              have hz2 : Hid (sgC l = 1) := (H1.out (by rw [hz.out]; decide)).trans hz.out
              go_wp2_with fail
              refine (l1In_c _ _ _ _).mono ?_
              rintro e w2 ⟨rfl, rfl⟩
              rw [h1]
              go_wp2_with fail
              refine (l1In_c _ _ _ _).mono ?_
              rintro e w2 ⟨rfl, rfl⟩
              rw [h2]
              go_wp2_with fail
              refine (l7Secret_c pa qa a.2.2 _).mono ?_
              rintro e w2 ⟨rfl, rfl⟩
              rw [h3]
              go_wp2
              go_ret
              exact ⟨by rw [hz2.out]; rfl, rfl⟩
            · have hz : Hid (sgO a = 0) := by show _ = _; rw [HO.out, h1, h2, h3]; rfl
              have hz2 : Hid (sgC l = sgF (l.drop (k + 1))) := H0.out hz.out
              go_wp2_with fail
              refine (l1In_c _ _ _ _).mono ?_
              rintro e w2 ⟨rfl, rfl⟩
              rw [h1]
              go_wp2_with fail
              refine (l1In_c _ _ _ _).mono ?_
              rintro e w2 ⟨rfl, rfl⟩
              rw [h2]
              go_wp2_with fail
              refine (l7Secret_c pa qa a.2.2 _).mono ?_
              rintro e w2 ⟨rfl, rfl⟩
              rw [h3]
              go_wp2_with fail
              go_roundw
              case rel => exact ⟨trivial, k + 1, by omega, by go_num, hz2.out⟩
              case measure => simp [intOf]; omega
      · have e : k = l.length := by omega
        subst e
        have hn2 : Hid (sgC l = 0) := hn.trans (sgF_end l)
        clear hn
        go_wp2
        go_ret
        exact ⟨by rw [hn2.out]; rfl, rfl⟩
  · have hlI : 40 < (l.length : Int) := by omega
    rw [show sgC l = 2 by rw [sgC, if_neg hl]]
    clear hl
    go_enter Tryz.func47, Tryz.ntmps47
    go_wp2
    go_ret
    exact ⟨rfl, rfl⟩
theorem atI_some {l : List Int} {k : Nat} {a : Int} (h : l[k]? = some a) : atI l k = a := by unfold atI; rw [List.getD_eq_getElem?_getD, h]; rfl
theorem lkB_at {l : List Int} {k : Nat} {id : Int} (h : l[k]? = some id) : lkB l id = true := by
  simp only [lkB, List.any_eq_true]; exact ⟨id, List.mem_of_getElem? h, by simp⟩
set_option maxRecDepth 4000 in
set_option maxHeartbeats 1000000 in
theorem l12Check_c (l : List SignD) (p p2 : Option Addr) (q q2 : Nat) (place id : Int) (d : List UInt8) (w : World) (hr : RdL signC w p q l) (hd : Rd w p2 q2 d) (hpl : (Lit.int .i64 place).wf = true) :
    Calls Tryz.prog 135 #[.slice p l.length q, .int .i64 place, .int .i64 id, .slice p2 d.length q2] w fun e w' => e = .returned (.bool (ckA l place id d)) ∧ w' = w := by
  have HR : Hid (RdL signC w p q l) := hr
  have HD : Hid (Rd w p2 q2 d) := hd
  have hq1 : l.length ≤ q := hr.1
  have hq2 : q ≤ 2 ^ 63 - 1 := hr.2.1
  have hw : wrap64 ((l.length : Int) - 1) = (l.length : Int) - 1 := by unfold wrap64; omega
  clear hr hd
  by_cases h0 : 0 ≤ place ∧ place < (l.length : Int)
  · obtain ⟨k, rfl⟩ : ∃ k : Nat, place = (k : Int) := ⟨place.toNat, by omega⟩
    have hk : k < l.length := by omega
    have hkI : (k : Int) < (l.length : Int) := by omega
    obtain ⟨a, ha⟩ : ∃ a, l[k]? = some a := ⟨l[k], by simp [hk]⟩
    have HB : Hid (inB (k : Int) 0 ((l.length : Int) - 1) = true) := inB_true (by omega) (by omega)
    obtain ⟨b, o, e1, hc⟩ := HR.out.2.2.2 (by omega)
    subst e1
    obtain ⟨us, hrep, hcell⟩ := hc k a ha
    obtain ⟨pa, qa, rfl, ra⟩ := sign_rep hrep
    have c0 := hcell 0 _ rfl
    have c2 := hcell 2 _ rfl
    rw [show signC.n = 3 from rfl] at c0 c2
    rw [Nat.add_zero] at c0
    rw [ckA_at ha]
    clear hc hcell hrep h0
    cases he : (a.1 == id)
    · go_enter Tryz.func135, Tryz.ntmps135
      go_wp2_with fail
      try rw [hw]
      refine (l1In_c _ _ _ _).mono ?_
      rintro e w2 ⟨rfl, rfl⟩
      rw [HB.out]
      go_wp2
      go_ret
      exact ⟨rfl, rfl⟩
    · go_enter Tryz.func135, Tryz.ntmps135
      go_wp2_with fail
      try rw [hw]
      refine (l1In_c _ _ _ _).mono ?_
      rintro e w2 ⟨rfl, rfl⟩
      rw [HB.out]
      go_wp2_with fail
      refine (l1Same_c pa p2 qa q2 a.2.2 d _ ra HD.out).mono ?_
      rintro e w2 ⟨rfl, rfl⟩
      go_wp2
      go_ret
      exact ⟨by simp; exact Bool.eq_iff_iff.2 (by simp [sameB]), rfl⟩
  · have HB : Hid (inB place 0 ((l.length : Int) - 1) = false) := inB_false (by omega)
    rw [ckA_out h0]
    clear h0
    go_enter Tryz.func135, Tryz.ntmps135
    go_wp2_with fail
    try rw [hw]
    refine (l1In_c _ _ _ _).mono ?_
    rintro e w2 ⟨rfl, rfl⟩
    rw [HB.out]
    go_wp2
    go_ret
    exact ⟨rfl, rfl⟩
end Go.Proofs.YtflhoefocjmihaaGreatDoor

