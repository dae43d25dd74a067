/- How pairs of ends own their memory; the parts of an end's answer. No program in it. -/
import Derived.Test.YtiabacnmmojfjabGreatDoorJoint19
import Derived.Test.YtiabacnmmojfjabGreatDoorJoint14
import Derived.Test.YtiabacnmmojfjabGreatDoorJoint1
import Derived.Handy
import Derived.Test.YtiabacnmmojfjabGreatDoorJoint17
import Derived.Test.YtiabacnmmojfjabGreatDoorJoint6
import Derived.Test.YtiabacnmmojfjabGreatDoorJoint11
import Derived.Test.YtiabacnmmojfjabGreatDoorJoint18
import Derived.Test.YtiabacnmmojfjabGreatDoorJoint12
import Derived.Test.YtiabacnmmojfjabGreatDoorJoint7
import Derived.Test.YtiabacnmmojfjabGreatDoorJoint16
namespace Go.Proofs.YtiabacnmmojfjabGreatDoor
open Go.ChangeShapes Go.WideShapes Go.ChangeAt Go.RowKit

/-- The end and what is sent, out of an answer that owns its memory. -/
theorem endR_parts {w : World} {B : Nat} {r : EndResultD} {us : List Value} {v : Value} {fp : List Nat} (h : endResultC.own w B r ([.int .i64 r.1] ++ (us ++ [v])) fp) (hu : us.length = 12) :
    ∃ fe fd, endC.own w B r.2.1 us fe ∧ msgsC.own w B r.2.2 [v] fd ∧ ∀ k, k ∈ fe → k ∈ fp := by
  obtain ⟨us0, ts0, f, g, e1, hf, -, ⟨h1, hf0⟩, us1, ts1, f1, g1, e2, hg, -, hE, hM⟩ := h
  subst h1
  have e3 : us ++ [v] = ts0 := by simpa using e1
  have hl := endC.len (endC.toRep hE)
  have e4 : us ++ [v] = us1 ++ ts1 := e3.trans e2
  obtain ⟨rfl, rfl⟩ := List.append_inj e4 (by rw [hu]; exact hl.symm)
  exact ⟨f1, g1, hE, hM, fun k hk => by rw [hf, hg]; exact List.mem_append_right _ (List.mem_append_left _ hk)⟩
theorem pairR_of {w : World} {B : Nat} {r : PairResultD} {us vs : List Value} {fe fd : List Nat} (ke : endC.own w B r.2.1 us fe) (kd : endC.own w B r.2.2 vs fd) (hd : ∀ k, k ∈ fe → k ∉ fd) :
    pairResultC.own w B r ([.int .i64 r.1] ++ (us ++ vs)) ([] ++ (fe ++ fd)) :=
  own_apartK (a := r) (us := [.int .i64 r.1]) own_int (own_apartK (a := r.2) ke kd hd) (fun _ h => by cases h)
theorem badP_own (w : World) (B : Nat) (c : Int) : pairResultC.own w B (badP c) [.int .i64 c, .int .i64 0, .slice none 0 0, .int .i64 0, .slice none 0 0, .int .i64 0, .int .i64 0, .slice none 0 0, .slice none 0 0, .slice none 0 0, .slice none 0 0, .slice none 0 0, .slice none 0 0, .int .i64 0, .slice none 0 0, .int .i64 0, .slice none 0 0, .int .i64 0, .int .i64 0, .slice none 0 0, .slice none 0 0, .slice none 0 0, .slice none 0 0, .slice none 0 0, .slice none 0 0] [] :=
  pairR_of (r := badP c) (fe := []) (fd := []) (zeroE_own w B) (zeroE_own w B) (fun _ h => by cases h)
/-- The first message of a list that owns its memory. -/
theorem head_at {w : World} {B : Nat} {l : List MsgD} {v : Value} {fp : List Nat} (h : msgsC.own w B l [v] fp) (hl : 0 < l.length) :
    ∃ g o q pm qm, v = .slice (some ⟨g, o, none⟩) l.length q ∧ l.length ≤ q ∧ q ≤ 2 ^ 63 - 1 ∧ w.cell? ⟨g, o, none⟩ = some (.int .i64 (headM l).1) ∧ w.cell? ⟨g, o + 1, none⟩ = some (.slice pm (headM l).2.length qm) ∧ Rd w pm qm (headM l).2 := by
  obtain ⟨p, q, e, r⟩ := msgsC.toRep h
  cases e
  obtain ⟨g, o, rfl, hc⟩ := r.2.2.2 hl
  have h0 : l[0]? = some (headM l) := by
    cases l with
    | nil => simp at hl
    | cons a l => rfl
  obtain ⟨us, hr, hu⟩ := hc 0 _ h0
  obtain ⟨pm, qm, rfl, rm⟩ := msg_rep hr
  have c0 := hu 0 _ rfl
  have c1 := hu 1 _ rfl
  rw [Nat.zero_mul, Nat.add_zero] at c0 c1
  exact ⟨g, o, q, pm, qm, rfl, r.1, r.2.1, c0, c1, rm⟩
/-- What is sent where no code is told. -/
theorem stE_send {x : SideD} (h : (stE x).1 = 0) : (stE x).2.2.length = 1 := by
  rw [stE_code] at h
  rw [stE_ok h]
  rfl
theorem hvE_send {e : EndD} {l : List MsgD} (h : (hvE e l).1 = 0) : (hvE e l).2.2.length = 1 := by
  obtain ⟨a, b, c, -, -, -, -, -, h5⟩ := hvE_zero h
  rw [h5]
  rfl
/-- What can be read by the cells of an end. -/
theorem end_unmk {w : World} {e : EndD} {p1 : Option Addr} {q1 : Nat} {p2 : Option Addr} {q2 : Nat} {p3 : Option Addr} {q3 : Nat} {p4 : Option Addr} {q4 : Nat} {p5 : Option Addr} {q5 : Nat} {p6 : Option Addr} {q6 : Nat} {p7 : Option Addr} {q7 : Nat} {p8 : Option Addr} {q8 : Nat} (h : endC.rep w e [.int .i64 e.1.1, .slice p1 e.1.2.1.length q1, .int .i64 e.1.2.2.1, .slice p2 e.1.2.2.2.length q2, .int .i64 e.2.1, .int .i64 e.2.2.1, .slice p3 e.2.2.2.1.length q3, .slice p4 e.2.2.2.2.1.length q4, .slice p5 e.2.2.2.2.2.1.length q5, .slice p6 e.2.2.2.2.2.2.1.length q6, .slice p7 e.2.2.2.2.2.2.2.1.length q7, .slice p8 e.2.2.2.2.2.2.2.2.length q8]) : Rd w p1 q1 e.1.2.1 ∧ Rd w p2 q2 e.1.2.2.2 ∧ RdL msgC w p3 q3 e.2.2.2.1 ∧ Rd w p4 q4 e.2.2.2.2.1 ∧ Rd w p5 q5 e.2.2.2.2.2.1 ∧ Rd w p6 q6 e.2.2.2.2.2.2.1 ∧ Rd w p7 q7 e.2.2.2.2.2.2.2.1 ∧ Rd w p8 q8 e.2.2.2.2.2.2.2.2 := by
  obtain ⟨a1, b1, a2, b2, a3, b3, a4, b4, a5, b5, a6, b6, a7, b7, a8, b8, eq, r1, r2, r3, r4, r5, r6, r7, r8⟩ := end_rep h
  simp only [List.cons.injEq, Value.slice.injEq, true_and, and_true] at eq
  obtain ⟨⟨rfl, rfl⟩, ⟨rfl, rfl⟩, ⟨rfl, rfl⟩, ⟨rfl, rfl⟩, ⟨rfl, rfl⟩, ⟨rfl, rfl⟩, ⟨rfl, rfl⟩, rfl, rfl⟩ := eq
  exact ⟨r1, r2, r3, r4, r5, r6, r7, r8⟩
theorem pairR_reps {w : World} {r : PairResultD} {us vs : List Value} (h : pairResultC.rep w r ([.int .i64 r.1] ++ (us ++ vs))) (hu : us.length = 12) : endC.rep w r.2.1 us ∧ endC.rep w r.2.2 vs := by
  obtain ⟨us0, ts0, e1, h1, us1, ts1, e2, hE, hF⟩ := h
  have h1' : us0 = [.int .i64 r.1] := h1
  subst h1'
  have e3 : us ++ vs = ts0 := by simpa using e1
  have hl := endC.len hE
  obtain ⟨rfl, rfl⟩ := List.append_inj (e3.trans e2) (by rw [hu]; exact hl.symm)
  exact ⟨hE, hF⟩
end Go.Proofs.YtiabacnmmojfjabGreatDoor

/- isKey of the program: does it have 32 bytes? -/
namespace Go.Proofs.YtiabacnmmojfjabGreatDoor
open Go.ChangeShapes Go.WideShapes Go.ChangeAt Go.RowKit

theorem isKeyR_c (p : Option Addr) (q : Nat) (bs : List UInt8) (w : World) : Calls Tryz.prog 141 #[.slice p bs.length q] w fun e w' => e = .returned (.bool (is32 bs)) ∧ w' = w := by
  by_cases h : bs.length = 32
  · rw [show is32 bs = true by simp [is32, h]]
    have d1 : ((bs.length : Int) == 32) = true := by rw [beq_iff_eq]; omega
    clear h
    go_enter Tryz.func141, Tryz.ntmps141
    go_wp2
    go_ret
    exact ⟨rfl, rfl⟩
  · rw [show is32 bs = false by simp [is32, h]]
    have d1 : ((bs.length : Int) == 32) = false := by rw [beq_eq_false_iff_ne]; omega
    clear h
    go_enter Tryz.func141, Tryz.ntmps141
    go_wp2
    go_ret
    exact ⟨rfl, rfl⟩
end Go.Proofs.YtiabacnmmojfjabGreatDoor

/- The program's functions on hellos that read no table: kinds, faults, hellos within, bodies, HelloFault, PackHello (written by tools/hel_i.py). What was there stays. -/
namespace Go.Proofs.YtiabacnmmojfjabGreatDoor
open Go.ChangeShapes Go.WideShapes Go.ChangeAt Go.RowKit

theorem isHelloKind_c (k : Int) (w : World) : Calls Tryz.prog 169 #[.int .i64 k] w fun e w' => e = .returned (.bool (hkB k)) ∧ w' = w := by
  by_cases h1 : k = 1
  · rw [show hkB k = true by simp [hkB, h1]]
    have d1 : (k == 1) = true := by rw [beq_iff_eq]; exact h1
    clear h1
    go_enter Tryz.func169, Tryz.ntmps169
    go_wp2
    go_ret
    exact ⟨rfl, rfl⟩
  · have d1 : (k == 1) = false := by rw [beq_eq_false_iff_ne]; exact h1
    by_cases h2 : k = 2
    · rw [show hkB k = true by simp [hkB, h2]]
      have d2 : (k == 2) = true := by rw [beq_iff_eq]; exact h2
      clear h1 h2
      go_enter Tryz.func169, Tryz.ntmps169
      go_wp2
      go_ret
      exact ⟨rfl, rfl⟩
    · rw [show hkB k = false by simp [hkB, h1, h2]]
      have d2 : (k == 2) = false := by rw [beq_eq_false_iff_ne]; exact h2
      clear h1 h2
      go_enter Tryz.func169, Tryz.ntmps169
      go_wp2
      go_ret
      exact ⟨rfl, rfl⟩
theorem isPsk_c (k : Int) (w : World) : Calls Tryz.prog 116 #[.int .i64 k] w fun e w' => e = .returned (.bool (inB k 0 9)) ∧ w' = w := by
  by_cases h1 : 0 ≤ k
  · by_cases h2 : k ≤ 9
    · rw [show inB k 0 9 = true by simp [inB, h1, h2]]
      go_enter Tryz.func116, Tryz.ntmps116
      go_wp2
      go_ret
      exact ⟨rfl, rfl⟩
    · rw [show inB k 0 9 = false by simp [inB, h2]; try omega]
      go_enter Tryz.func116, Tryz.ntmps116
      go_wp2
      go_ret
      exact ⟨rfl, rfl⟩
  · rw [show inB k 0 9 = false by simp [inB, h1]; try omega]
    go_enter Tryz.func116, Tryz.ntmps116
    go_wp2
    go_ret
    exact ⟨rfl, rfl⟩
theorem isWhole_c (p : Option Addr) (q : Nat) (bs : List UInt8) (w : World) : Calls Tryz.prog 117 #[.slice p bs.length q] w fun e w' => e = .returned (.bool (decide (bs.length = 8))) ∧ w' = w := by
  by_cases h : bs.length = 8
  · rw [show decide (bs.length = 8) = true by simp [h]]
    have d1 : ((bs.length : Int) == 8) = true := by rw [beq_iff_eq]; omega
    clear h
    go_enter Tryz.func117, Tryz.ntmps117
    go_wp2
    go_ret
    exact ⟨rfl, rfl⟩
  · rw [show decide (bs.length = 8) = false by simp [h]]
    have d1 : ((bs.length : Int) == 8) = false := by rw [beq_eq_false_iff_ne]; omega
    clear h
    go_enter Tryz.func117, Tryz.ntmps117
    go_wp2
    go_ret
    exact ⟨rfl, rfl⟩
theorem randomCopy_c (p : Option Addr) (q : Nat) (bs : List UInt8) (w : World) (hr : Rd w p q bs) (hl : bs.length ≤ 1000000) : Calls Tryz.prog 194 #[.slice p bs.length q] w fun e w' => ∃ u, e = .returned u ∧ Own w' w.heap.size u bs ∧ Below w.heap.size w w' := by
  go_enter Tryz.func194, Tryz.ntmps194
  go_wp2_with fail
  refine (bytesClone_c p q bs w hr hl).mono ?_
  rintro e w1 ⟨u, rfl, k, hb⟩
  go_wp2
  go_ret
  exact ⟨_, rfl, k, hb⟩
theorem helloOf_c (h : HelloD) (p : Option Addr) (q : Nat) (w : World) : Calls Tryz.prog 205 #[.agg #[.slice p h.1.length q, .int .i64 h.2.1, .int .i64 h.2.2]] w fun e w' => e = .returned (.agg #[.slice p h.1.length q, .int .i64 h.2.1, .int .i64 h.2.2]) ∧ Below w.heap.size w w' := by
  go_enter Tryz.func205, Tryz.ntmps205
  go_wp2
  exact bodyPost_ret (v := .agg #[.slice p h.1.length q, .int .i64 h.2.1, .int .i64 h.2.2]) (by simp [results, Tryz.results205, go_sem]) rfl ⟨rfl, Below.mk (alloc_below _ _) _⟩
set_option maxRecDepth 4000 in
set_option maxHeartbeats 1000000 in
theorem helloFault_c (h : HelloD) (p : Option Addr) (q : Nat) (w : World) : Calls Tryz.prog 193 #[.agg #[.slice p h.1.length q, .int .i64 h.2.1, .int .i64 h.2.2]] w fun e w' => e = .returned (.int .i64 (hfC h)) ∧ Below w.heap.size w w' := by
  cases h1 : decide (h.1.length = 8)
  · rw [show hfC h = 1 by simp only [decide_eq_false_iff_not] at h1; simp [hfC, h1]]
    go_enter Tryz.func193, Tryz.ntmps193
    go_wp2_with fail
    refine (isWhole_c _ _ _ _).mono ?_
    rintro e w' ⟨rfl, hw⟩
    subst hw
    rw [h1]
    go_wp2
    go_ret
    exact ⟨rfl, alloc_below _ _⟩
  · have h8 : h.1.length = 8 := by simpa using h1
    cases h2 : inB h.2.1 1 65520
    · rw [show hfC h = 3 by simp [hfC, h8, h2]]
      clear h8
      go_enter Tryz.func193, Tryz.ntmps193
      go_wp2_with fail
      refine (isWhole_c _ _ _ _).mono ?_
      rintro e w' ⟨rfl, hw⟩
      subst hw
      rw [h1]
      go_wp2_with fail
      refine (isElement_c _ _).mono ?_
      rintro e w' ⟨rfl, hw⟩
      subst hw
      rw [h2]
      go_wp2
      go_ret
      exact ⟨rfl, alloc_below _ _⟩
    · cases h3 : inB h.2.2 0 9
      · rw [show hfC h = 3 by simp [hfC, h8, h3]]
        clear h8
        go_enter Tryz.func193, Tryz.ntmps193
        go_wp2_with fail
        refine (isWhole_c _ _ _ _).mono ?_
        rintro e w' ⟨rfl, hw⟩
        subst hw
        rw [h1]
        go_wp2_with fail
        refine (isElement_c _ _).mono ?_
        rintro e w' ⟨rfl, hw⟩
        subst hw
        rw [h2]
        go_wp2_with fail
        refine (isPsk_c _ _).mono ?_
        rintro e w' ⟨rfl, hw⟩
        subst hw
        rw [h3]
        go_wp2
        go_ret
        exact ⟨rfl, alloc_below _ _⟩
      · rw [show hfC h = 0 by simp [hfC, h8, h2, h3]]
        clear h8
        go_enter Tryz.func193, Tryz.ntmps193
        go_wp2_with fail
        refine (isWhole_c _ _ _ _).mono ?_
        rintro e w' ⟨rfl, hw⟩
        subst hw
        rw [h1]
        go_wp2_with fail
        refine (isElement_c _ _).mono ?_
        rintro e w' ⟨rfl, hw⟩
        subst hw
        rw [h2]
        go_wp2_with fail
        refine (isPsk_c _ _).mono ?_
        rintro e w' ⟨rfl, hw⟩
        subst hw
        rw [h3]
        go_wp2
        go_ret
        exact ⟨rfl, alloc_below _ _⟩
theorem rdl_three_is (w : World) (pa pb : Option Addr) (qa qb gk : Nat) (h : HelloD) (ra : Rd w pa qa h.1) (rb : Rd w pb qb (putB h.2.1.toNat 2)) (rk : Rd w (some ⟨gk, 0, none⟩) 1 [UInt8.ofNat h.2.2.toNat]) :
    RdL bytC (w.alloc (.cells #[.slice pa h.1.length qa, .slice pb 2 qb, .slice (some ⟨gk, 0, none⟩) 1 1] 22)) (some ⟨w.heap.size, 0, none⟩) 3 (hpB h) := by
  have r3 := rdl_three w ⟨pa, qa, h.1⟩ ⟨pb, qb, putB h.2.1.toNat 2⟩ ⟨some ⟨gk, 0, none⟩, 1, [UInt8.ofNat h.2.2.toNat]⟩ 22 ra rb rk
  simp only [Pc.val, putB_len, List.length_singleton] at r3
  exact r3
set_option maxRecDepth 4000 in
set_option maxHeartbeats 2000000 in
theorem helloBody_c (h : HelloD) (p : Option Addr) (q : Nat) (w : World) (hr : Rd w p q h.1) (hc : hfC h = 0) :
    Calls Tryz.prog 206 #[.agg #[.slice p h.1.length q, .int .i64 h.2.1, .int .i64 h.2.2]] w fun e w' => ∃ u, e = .returned u ∧ Own w' w.heap.size u (hpL h) ∧ Below w.heap.size w w' := by
  obtain ⟨p1, p2, p3, p4, p5⟩ := hf_parts hc
  have HL8 : Hid (h.1.length = 8) := p1
  have HLen : Hid ((hpL h).length = 14) := hpL_len hc
  have HPB : Hid (pbC (hpB h) = 0 ∧ pbL (hpB h) = hpL h) := by
    have e1 : pbC (hpB h) = 0 := by
      have h14 := hpL_len hc
      unfold hpL at h14
      rw [pbC, if_pos ⟨by simp [hpB], by simp [okBl, hpB, putB_len, p1], by omega⟩]
    exact ⟨e1, by rw [pbL, if_pos e1]; rfl⟩
  have HR : Hid (Rd w p q h.1) := hr
  have BW := alloc_below w (.cells #[.slice p h.1.length q, .int .i64 h.2.1, .int .i64 h.2.2] 178)
  have A := Arr.new w [.slice p h.1.length q, .int .i64 h.2.1, .int .i64 h.2.2] 178
  have KP : Hid (∀ w, Calls Tryz.prog 105 #[.int .i64 h.2.1] w fun e w' => ∃ u, e = .returned (.agg #[.int .i64 0, u]) ∧ Own w' w.heap.size u (putB h.2.1.toNat 2) ∧ Below w.heap.size w w') := fun w => by
    have hh := implSb_c h.2.1 w
    have e1 : shbC h.2.1 = 0 := by rw [shbC, if_pos (by simp [inB, p2, p3])]
    rw [e1, show shbL h.2.1 = putB h.2.1.toNat 2 by rw [shbL, if_pos e1]] at hh
    exact hh
  have HKB : Hid (h.2.2 = ((UInt8.ofNat h.2.2.toNat).toNat : Int)) := by show _ = _; rw [UInt8.toNat_ofNat']; omega
  have F1 := bytes_f1
  clear hr hc p1
  obtain ⟨V, HV⟩ : ∃ V, Hid (V = w.alloc (.cells #[.slice p h.1.length q, .int .i64 h.2.1, .int .i64 h.2.2] 178)) := ⟨_, rfl⟩
  have hz0 : Hid (w.heap.size ≤ V.heap.size) := by show _ ≤ _; rw [HV.out, size_alloc]; omega
  rw [← HV.out] at BW A
  have c0 := (A.cell 0).trans (show _ = some _ from rfl)
  have c1 := (A.cell 1).trans (show _ = some _ from rfl)
  have c2 := (A.cell 2).trans (show _ = some _ from rfl)
  go_enter Tryz.func206, Tryz.ntmps206
  go_wp2_with fail
  rw [← HV.out]
  apply share
  case h =>
    intro JN
    have BB := Below.refl V.heap.size V
    have hne := HW.some V
    have g0 := HW.at (c0)
    have g1 := HW.at (c1)
    have g2 := HW.at (c2)
    refine wp_region_pick [0, 1, 3, 4, 7, 8, 9] 12 5 1 rfl rfl rfl (by kernel_rfl) (by kernel_rfl) (by kernel_rfl) (by kernel_rfl) ?_
    simp only [opsAt, List.getElem?_toArray, List.getElem?_cons_zero, List.getElem?_cons_succ]
    repeat (go_big_quiet_step (fail))
    refine wpQuiet_nil ?_
    clear g0 g1 g2
    refine wpM_two (i := 2) (j := 10) (by kernel_rfl) ?_ ?_
    · skip
      refine mOp_call rfl (by go_simp) 194 _ #[.slice p h.1.length q] (fun w => by go_simp) rfl ?_
      rintro _ ⟨sg, rfl⟩
      refine (randomCopy_c p q h.1 _ (HR.out.keep (Below.step BW (Below.step BB sg.h))) (by have := HL8.out; omega)).mono ?_
      rintro e wg1 ⟨ua, rfl, ka, hbx⟩
      obtain ⟨pa, qa, rfl, -⟩ := ka.rd
      have hbg := Below.step sg.h hbx
      refine ⟨_, rfl, ⟨⟨wg1, hbx⟩, rfl⟩, ?_⟩
      have Ra := Rd.own ka
      replace BB := Below.step BB hbg
      clear hbg hbx sg ka
      replace hne := HW.some wg1
      refine wpM_two (i := 5) (j := 10) (by kernel_rfl) ?_ ?_
      · skip
        refine mOp_call rfl (by go_simp) 105 _ #[.int .i64 h.2.1] (fun w => by go_simp) rfl ?_
        rintro _ ⟨sg, rfl⟩
        refine (KP.out _).mono ?_
        rintro e wg2 ⟨ub, rfl, kb, hbx⟩
        obtain ⟨pb, qb, rfl, -⟩ := kb.rd
        rw [putB_len] at kb ⊢
        have hbg := Below.step sg.h hbx
        refine ⟨_, rfl, ⟨⟨wg2, hbx⟩, rfl⟩, ?_⟩
        have Rb := Rd.own kb
        replace Ra := Ra.keep hbg
        replace BB := Below.step BB hbg
        clear hbg hbx sg kb
        replace hne := HW.some wg2
        refine wpM_more [6] 3 2 rfl (by kernel_rfl) (by kernel_rfl) (by kernel_rfl) (by kernel_rfl) ?_
        simp only [opsAt, List.getElem?_toArray, List.getElem?_cons_zero, List.getElem?_cons_succ]
        go_simp
        repeat (go_big_quiet_step (fail))
        refine wpQuiet_nil ?_
        refine wpM_only (i := 10) (by kernel_rfl) ?_
        refine mOp_make rfl (by go_simp) ?_
        rintro _ ⟨sg, rfl⟩
        refine ⟨.slice (some ⟨sg.w.heap.size, 0, none⟩) 1 1, sg.w.alloc (.cells #[.int .u8 h.2.2] 5), by go_simp, ⟨⟨_, alloc_below _ _⟩, rfl⟩, ?_⟩
        have hbg := Below.step sg.h (alloc_below sg.w (.cells #[.int .u8 h.2.2] 5))
        have Rk := rd_new sg.w [.int .u8 h.2.2] [UInt8.ofNat h.2.2.toNat] 5 1 (by simp only [List.map_cons, List.map_nil, u8v]; rw [← HKB.out]) rfl (by decide)
        replace Ra := Ra.keep hbg
        replace Rb := Rb.keep hbg
        replace BB := Below.step BB hbg
        clear hbg
        replace hne := HW.some (sg.w.alloc (.cells #[.int .u8 h.2.2] 5))
        generalize hW : (sg.w.alloc (.cells #[.int .u8 h.2.2] 5)) = wg3 at *
        clear hW
        generalize sg.w.heap.size = gk at *
        clear sg
        refine wpM_only (i := 11) (by kernel_rfl) ?_
        refine mOp_make rfl (by go_simp) ?_
        rintro _ ⟨sg, rfl⟩
        refine ⟨.slice (some ⟨sg.w.heap.size, 0, none⟩) 3 3, sg.w.alloc (.cells #[.slice pa h.1.length qa, .slice pb 2 qb, .slice (some ⟨gk, 0, none⟩) 1 1] 22), by go_simp, ⟨⟨_, alloc_below _ _⟩, rfl⟩, ?_⟩
        have hbg := Below.step sg.h (alloc_below sg.w (.cells #[.slice pa h.1.length qa, .slice pb 2 qb, .slice (some ⟨gk, 0, none⟩) 1 1] 22))
        have Rc := rdl_three_is sg.w pa pb qa qb gk h (Ra.keep sg.h) (Rb.keep sg.h) (Rk.keep sg.h)
        replace Ra := Ra.keep hbg
        replace Rb := Rb.keep hbg
        replace Rk := Rk.keep hbg
        replace BB := Below.step BB hbg
        clear hbg
        replace hne := HW.some (sg.w.alloc (.cells #[.slice pa h.1.length qa, .slice pb 2 qb, .slice (some ⟨gk, 0, none⟩) 1 1] 22))
        generalize hW : (sg.w.alloc (.cells #[.slice pa h.1.length qa, .slice pb 2 qb, .slice (some ⟨gk, 0, none⟩) 1 1] 22)) = wg4 at *
        clear hW
        generalize sg.w.heap.size = gb at *
        clear sg
        refine wpM_end (by kernel_rfl) rfl (by kernel_rfl) (by decide) ?_
        rintro _ ⟨sz, rfl⟩
        simp only [List.drop_succ_cons, List.drop_zero]
        go_simp
        replace Ra := Ra.keep sz.h
        replace Rb := Rb.keep sz.h
        replace Rk := Rk.keep sz.h
        replace Rc := Rc.keep sz.h
        replace BB := Below.step BB sz.h
        clear hne
        generalize sz.w = W at *
        clear sz
        revert Rc
        revert Rk
        revert Rb
        revert Ra
        revert BB
        revert gb
        revert gk
        revert qb
        revert pb
        revert qa
        revert pa
        revert W
        exact JN.out
      · skip
        refine mOp_make rfl (by go_simp) ?_
        rintro _ ⟨sg, rfl⟩
        refine ⟨.slice (some ⟨sg.w.heap.size, 0, none⟩) 1 1, sg.w.alloc (.cells #[.int .u8 h.2.2] 5), by go_simp, ⟨⟨_, alloc_below _ _⟩, rfl⟩, ?_⟩
        have hbg := Below.step sg.h (alloc_below sg.w (.cells #[.int .u8 h.2.2] 5))
        have Rk := rd_new sg.w [.int .u8 h.2.2] [UInt8.ofNat h.2.2.toNat] 5 1 (by simp only [List.map_cons, List.map_nil, u8v]; rw [← HKB.out]) rfl (by decide)
        replace Ra := Ra.keep hbg
        replace BB := Below.step BB hbg
        clear hbg
        replace hne := HW.some (sg.w.alloc (.cells #[.int .u8 h.2.2] 5))
        generalize hW : (sg.w.alloc (.cells #[.int .u8 h.2.2] 5)) = wg5 at *
        clear hW
        generalize sg.w.heap.size = gk at *
        clear sg
        refine wpM_only (i := 5) (by kernel_rfl) ?_
        refine mOp_call rfl (by go_simp) 105 _ #[.int .i64 h.2.1] (fun w => by go_simp) rfl ?_
        rintro _ ⟨sg, rfl⟩
        refine (KP.out _).mono ?_
        rintro e wg6 ⟨ub, rfl, kb, hbx⟩
        obtain ⟨pb, qb, rfl, -⟩ := kb.rd
        rw [putB_len] at kb ⊢
        have hbg := Below.step sg.h hbx
        refine ⟨_, rfl, ⟨⟨wg6, hbx⟩, rfl⟩, ?_⟩
        have Rb := Rd.own kb
        replace Ra := Ra.keep hbg
        replace Rk := Rk.keep hbg
        replace BB := Below.step BB hbg
        clear hbg hbx sg kb
        replace hne := HW.some wg6
        refine wpM_more [6] 2 1 rfl (by kernel_rfl) (by kernel_rfl) (by kernel_rfl) (by kernel_rfl) ?_
        simp only [opsAt, List.getElem?_toArray, List.getElem?_cons_zero, List.getElem?_cons_succ]
        go_simp
        repeat (go_big_quiet_step (fail))
        refine wpQuiet_nil ?_
        refine wpM_only (i := 11) (by kernel_rfl) ?_
        refine mOp_make rfl (by go_simp) ?_
        rintro _ ⟨sg, rfl⟩
        refine ⟨.slice (some ⟨sg.w.heap.size, 0, none⟩) 3 3, sg.w.alloc (.cells #[.slice pa h.1.length qa, .slice pb 2 qb, .slice (some ⟨gk, 0, none⟩) 1 1] 22), by go_simp, ⟨⟨_, alloc_below _ _⟩, rfl⟩, ?_⟩
        have hbg := Below.step sg.h (alloc_below sg.w (.cells #[.slice pa h.1.length qa, .slice pb 2 qb, .slice (some ⟨gk, 0, none⟩) 1 1] 22))
        have Rc := rdl_three_is sg.w pa pb qa qb gk h (Ra.keep sg.h) (Rb.keep sg.h) (Rk.keep sg.h)
        replace Ra := Ra.keep hbg
        replace Rk := Rk.keep hbg
        replace Rb := Rb.keep hbg
        replace BB := Below.step BB hbg
        clear hbg
        replace hne := HW.some (sg.w.alloc (.cells #[.slice pa h.1.length qa, .slice pb 2 qb, .slice (some ⟨gk, 0, none⟩) 1 1] 22))
        generalize hW : (sg.w.alloc (.cells #[.slice pa h.1.length qa, .slice pb 2 qb, .slice (some ⟨gk, 0, none⟩) 1 1] 22)) = wg7 at *
        clear hW
        generalize sg.w.heap.size = gb at *
        clear sg
        refine wpM_end (by kernel_rfl) rfl (by kernel_rfl) (by decide) ?_
        rintro _ ⟨sz, rfl⟩
        simp only [List.drop_succ_cons, List.drop_zero]
        go_simp
        replace Ra := Ra.keep sz.h
        replace Rk := Rk.keep sz.h
        replace Rb := Rb.keep sz.h
        replace Rc := Rc.keep sz.h
        replace BB := Below.step BB sz.h
        clear hne
        generalize sz.w = W at *
        clear sz
        revert Rc
        revert Rk
        revert Rb
        revert Ra
        revert BB
        revert gb
        revert gk
        revert qb
        revert pb
        revert qa
        revert pa
        revert W
        exact JN.out
    · skip
      refine mOp_make rfl (by go_simp) ?_
      rintro _ ⟨sg, rfl⟩
      refine ⟨.slice (some ⟨sg.w.heap.size, 0, none⟩) 1 1, sg.w.alloc (.cells #[.int .u8 h.2.2] 5), by go_simp, ⟨⟨_, alloc_below _ _⟩, rfl⟩, ?_⟩
      have hbg := Below.step sg.h (alloc_below sg.w (.cells #[.int .u8 h.2.2] 5))
      have Rk := rd_new sg.w [.int .u8 h.2.2] [UInt8.ofNat h.2.2.toNat] 5 1 (by simp only [List.map_cons, List.map_nil, u8v]; rw [← HKB.out]) rfl (by decide)
      replace BB := Below.step BB hbg
      clear hbg
      replace hne := HW.some (sg.w.alloc (.cells #[.int .u8 h.2.2] 5))
      generalize hW : (sg.w.alloc (.cells #[.int .u8 h.2.2] 5)) = wg8 at *
      clear hW
      generalize sg.w.heap.size = gk at *
      clear sg
      refine wpM_only (i := 2) (by kernel_rfl) ?_
      refine mOp_call rfl (by go_simp) 194 _ #[.slice p h.1.length q] (fun w => by go_simp) rfl ?_
      rintro _ ⟨sg, rfl⟩
      refine (randomCopy_c p q h.1 _ (HR.out.keep (Below.step BW (Below.step BB sg.h))) (by have := HL8.out; omega)).mono ?_
      rintro e wg9 ⟨ua, rfl, ka, hbx⟩
      obtain ⟨pa, qa, rfl, -⟩ := ka.rd
      have hbg := Below.step sg.h hbx
      refine ⟨_, rfl, ⟨⟨wg9, hbx⟩, rfl⟩, ?_⟩
      have Ra := Rd.own ka
      replace Rk := Rk.keep hbg
      replace BB := Below.step BB hbg
      clear hbg hbx sg ka
      replace hne := HW.some wg9
      refine wpM_only (i := 5) (by kernel_rfl) ?_
      refine mOp_call rfl (by go_simp) 105 _ #[.int .i64 h.2.1] (fun w => by go_simp) rfl ?_
      rintro _ ⟨sg, rfl⟩
      refine (KP.out _).mono ?_
      rintro e wg10 ⟨ub, rfl, kb, hbx⟩
      obtain ⟨pb, qb, rfl, -⟩ := kb.rd
      rw [putB_len] at kb ⊢
      have hbg := Below.step sg.h hbx
      refine ⟨_, rfl, ⟨⟨wg10, hbx⟩, rfl⟩, ?_⟩
      have Rb := Rd.own kb
      replace Rk := Rk.keep hbg
      replace Ra := Ra.keep hbg
      replace BB := Below.step BB hbg
      clear hbg hbx sg kb
      replace hne := HW.some wg10
      refine wpM_more [6] 2 1 rfl (by kernel_rfl) (by kernel_rfl) (by kernel_rfl) (by kernel_rfl) ?_
      simp only [opsAt, List.getElem?_toArray, List.getElem?_cons_zero, List.getElem?_cons_succ]
      go_simp
      repeat (go_big_quiet_step (fail))
      refine wpQuiet_nil ?_
      refine wpM_only (i := 11) (by kernel_rfl) ?_
      refine mOp_make rfl (by go_simp) ?_
      rintro _ ⟨sg, rfl⟩
      refine ⟨.slice (some ⟨sg.w.heap.size, 0, none⟩) 3 3, sg.w.alloc (.cells #[.slice pa h.1.length qa, .slice pb 2 qb, .slice (some ⟨gk, 0, none⟩) 1 1] 22), by go_simp, ⟨⟨_, alloc_below _ _⟩, rfl⟩, ?_⟩
      have hbg := Below.step sg.h (alloc_below sg.w (.cells #[.slice pa h.1.length qa, .slice pb 2 qb, .slice (some ⟨gk, 0, none⟩) 1 1] 22))
      have Rc := rdl_three_is sg.w pa pb qa qb gk h (Ra.keep sg.h) (Rb.keep sg.h) (Rk.keep sg.h)
      replace Rk := Rk.keep hbg
      replace Ra := Ra.keep hbg
      replace Rb := Rb.keep hbg
      replace BB := Below.step BB hbg
      clear hbg
      replace hne := HW.some (sg.w.alloc (.cells #[.slice pa h.1.length qa, .slice pb 2 qb, .slice (some ⟨gk, 0, none⟩) 1 1] 22))
      generalize hW : (sg.w.alloc (.cells #[.slice pa h.1.length qa, .slice pb 2 qb, .slice (some ⟨gk, 0, none⟩) 1 1] 22)) = wg11 at *
      clear hW
      generalize sg.w.heap.size = gb at *
      clear sg
      refine wpM_end (by kernel_rfl) rfl (by kernel_rfl) (by decide) ?_
      rintro _ ⟨sz, rfl⟩
      simp only [List.drop_succ_cons, List.drop_zero]
      go_simp
      replace Rk := Rk.keep sz.h
      replace Ra := Ra.keep sz.h
      replace Rb := Rb.keep sz.h
      replace Rc := Rc.keep sz.h
      replace BB := Below.step BB sz.h
      clear hne
      generalize sz.w = W at *
      clear sz
      revert Rc
      revert Rk
      revert Rb
      revert Ra
      revert BB
      revert gb
      revert gk
      revert qb
      revert pb
      revert qa
      revert pa
      revert W
      exact JN.out
  intro W pa qa pb qb gk gb BB Ra Rb Rk Rc
  clear c0 c1 c2
  go_wp2_with fail
  refine (implPB_c (hpB h) (some ⟨gb, 0, none⟩) 3 W (Rc)).mono ?_
  rintro e w3 ⟨u3, rfl, k3, hb3⟩
  rw [HPB.out.1, HPB.out.2] at *
  obtain ⟨a3, c3, rfl, -⟩ := k3.rd
  go_wp2
  go_ret
  exact ⟨_, rfl, k3.lower (Nat.le_trans hz0.out BB.size), Below.step (Below.step BW BB) hb3⟩
theorem msgR_ownG {w : World} {B : Nat} {c k : Int} {bs : List UInt8} {u : Value} (h : Own w B u bs) : msgResultC.own w B (c, k, bs) [.int .i64 c, .int .i64 k, u] ([] ++ ([] ++ u.ownBlock.toList)) :=
  own_pair 0 own_int (own_pair 0 own_int ⟨u, rfl, h, rfl⟩ lt_nil (fun _ _ => Nat.zero_le _)) lt_nil (fun _ _ => Nat.zero_le _)
set_option maxRecDepth 4000 in
set_option maxHeartbeats 1000000 in
theorem implPh_k (k : Int) (h : HelloD) (us : List Value) (w : World) (r : helloC.rep w h us) :
    Calls Tryz.prog 190 #[.int .i64 k, .agg us.toArray] w fun e w' => ∃ us fp, e = .returned (.agg us.toArray) ∧ msgResultC.own w' w.heap.size (phD k h) us fp ∧ Below w.heap.size w w' := by
  obtain ⟨p, q, rfl, rr⟩ := hello_rep r
  clear r
  have HR : Hid (Rd w p q h.1) := rr
  clear rr
  have BW := Below.mk (alloc_below w (.cells #[.slice p h.1.length q, .int .i64 h.2.1, .int .i64 h.2.2] 74)) (.cells #[.int .i64 0, .int .i64 0, .slice none 0 0] 112)
  have A := (Arr.new w [.slice p h.1.length q, .int .i64 h.2.1, .int .i64 h.2.2] 74).old _ (.cells #[.int .i64 0, .int .i64 0, .slice none 0 0] 112)
  have R := Arr.new (w.alloc (.cells #[.slice p h.1.length q, .int .i64 h.2.1, .int .i64 h.2.2] 74)) [.int .i64 0, .int .i64 0, .slice none 0 0] 112
  rw [size_alloc] at R
  cases hk : hkB k
  · rw [show phD k h = (3, 0, []) by simp [phD, phC, hk]]
    go_enter Tryz.func190, Tryz.ntmps190
    go_wp2_with fail
    refine (isHelloKind_c _ _).mono ?_
    rintro e w1 ⟨rfl, hw⟩
    subst w1
    rw [hk]
    go_wp2
    refine bodyPost_ret (v := .agg #[.int .i64 3, .int .i64 0, .slice none 0 0]) (by simp [results, Tryz.results190, go_sem]) rfl ⟨[_, _, _], _, rfl, msgR_ownG (Own_nil _ _), ?_⟩
    exact Below.mk (alloc_below _ _) _
  · have KF : Hid (∀ w, Calls Tryz.prog 193 #[.agg #[.slice p h.1.length q, .int .i64 h.2.1, .int .i64 h.2.2]] w fun e w' => e = .returned (.int .i64 (hfC h)) ∧ Below w.heap.size w w') := fun w => helloFault_c h p q w
    by_cases hc : hfC h = 0
    · have hp : phC k h = 0 := by rw [phC, hk, if_pos rfl]; exact hc
      rw [show phD k h = (0, k, hpL h) by rw [phD, if_pos hp]]
      have HC0 : Hid (hfC h = 0) := hc
      rw [hc] at KF
      clear hc hp
      go_enter Tryz.func190, Tryz.ntmps190
      go_wp2_with fail
      refine (isHelloKind_c _ _).mono ?_
      rintro e w1 ⟨rfl, hw⟩
      subst w1
      rw [hk]
      go_wp2_with fail
      refine (helloOf_c h p q _).mono ?_
      rintro e w1 ⟨rfl, hb1⟩
      replace BW := Below.step BW hb1
      replace R := R.stay hb1
      clear A hb1
      have N := Arr.new w1 [.slice p h.1.length q, .int .i64 h.2.1, .int .i64 h.2.2] 178
      have hb2 := alloc_below w1 (.cells #[.slice p h.1.length q, .int .i64 h.2.1, .int .i64 h.2.2] 178)
      replace BW := Below.step BW hb2
      replace R := R.stay hb2
      clear hb2
      go_wp2_with fail
      refine (KF.out _).mono ?_
      rintro e w2 ⟨rfl, hb2⟩
      replace BW := Below.step BW hb2
      replace R := R.stay hb2
      replace N := N.stay hb2
      clear hb2
      have c0 := (N.cell 0).trans (show _ = some _ from rfl)
      have c1 := (N.cell 1).trans (show _ = some _ from rfl)
      have c2 := (N.cell 2).trans (show _ = some _ from rfl)
      go_wp2_with fail
      refine (helloBody_c h p q w2 (HR.out.keep BW) HC0.out).mono ?_
      rintro e w3 ⟨u3, rfl, k3, hb3⟩
      have hz : Hid (w.heap.size + 2 ≤ w2.heap.size) := R.lt
      replace BW := Below.step BW hb3
      replace R := R.stay hb3
      obtain ⟨a3, c3, rfl, -⟩ := k3.rd
      replace k3 := k3.lower hz.out
      clear hb3 N c0 c1 c2
      have t0 := (R.cell 0).trans (show _ = some _ from rfl)
      have t1 := (R.cell 1).trans (show _ = some _ from rfl)
      have t2 := (R.cell 2).trans (show _ = some _ from rfl)
      have ft := R.frozen
      clear R
      go_wp2_with fail
      exact bodyPost_ret (v := .agg #[.int .i64 0, .int .i64 k, .slice a3 (hpL h).length c3]) (by simp [results, Tryz.results190, go_sem, t0, t1, t2]) rfl ⟨[_, _, _], _, rfl, msgR_ownG ((((k3.set (Nat.lt_succ_self _) _).set (Nat.lt_succ_self _) _).set (Nat.lt_succ_self _) _).lower (by omega)), ((BW.setCell (by show w.heap.size ≤ w.heap.size + 1; omega) _).setCell (by show w.heap.size ≤ w.heap.size + 1; omega) _).setCell (by show w.heap.size ≤ w.heap.size + 1; omega) _⟩
    · have hp : phC k h = hfC h := by rw [phC, hk, if_pos rfl]
      rw [show phD k h = (hfC h, 0, []) by rw [phD, hp, if_neg hc]]
      have hd : (hfC h != 0) = true := by rw [bne_iff_ne]; exact hc
      clear hc hp
      generalize hfC h = cc at *
      go_enter Tryz.func190, Tryz.ntmps190
      go_wp2_with fail
      refine (isHelloKind_c _ _).mono ?_
      rintro e w1 ⟨rfl, hw⟩
      subst w1
      rw [hk]
      go_wp2_with fail
      refine (helloOf_c h p q _).mono ?_
      rintro e w1 ⟨rfl, hb1⟩
      replace BW := Below.step BW hb1
      replace R := R.stay hb1
      clear A hb1
      have hb2 := alloc_below w1 (.cells #[.slice p h.1.length q, .int .i64 h.2.1, .int .i64 h.2.2] 178)
      replace BW := Below.step BW hb2
      replace R := R.stay hb2
      clear hb2
      go_wp2_with fail
      refine (KF.out _).mono ?_
      rintro e w2 ⟨rfl, hb2⟩
      replace BW := Below.step BW hb2
      replace R := R.stay hb2
      clear hb2
      have t0 := (R.cell 0).trans (show _ = some _ from rfl)
      have t1 := (R.cell 1).trans (show _ = some _ from rfl)
      have t2 := (R.cell 2).trans (show _ = some _ from rfl)
      have ft := R.frozen
      clear R
      go_wp2_with fail
      exact bodyPost_ret (v := .agg #[.int .i64 cc, .int .i64 0, .slice none 0 0]) (by simp [results, Tryz.results190, go_sem, t0, t1, t2]) rfl ⟨[_, _, _], _, rfl, msgR_ownG (Own_nil _ _), ((BW.setCell (by show w.heap.size ≤ w.heap.size + 1; omega) _).setCell (by show w.heap.size ≤ w.heap.size + 1; omega) _).setCell (by show w.heap.size ≤ w.heap.size + 1; omega) _⟩
end Go.Proofs.YtiabacnmmojfjabGreatDoor

