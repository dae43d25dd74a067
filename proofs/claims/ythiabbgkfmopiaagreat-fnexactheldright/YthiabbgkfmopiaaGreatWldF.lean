/- Chapter 15, the specification's side: whether a world has a fault (written by tools/wld_f.py).  -/
import Derived.Test.YthiabbgkfmopiaaGreatWldE
namespace Go.Proofs.YthiabbgkfmopiaaGreat
open Go.ChangeShapes Go.WideShapes Go.ChangeAt Go.RowKit

structure AtWld (w : World) (b o : Nat) (p2 p3 p4 p5 p6 p7 : Option Addr) (q2 q3 q4 q5 q6 q7 : Nat) (x : WorldD) : Prop where
  c0 : w.cell? ⟨b, o, none⟩ = some (.int .i64 x.1)
  c1 : w.cell? ⟨b, o + 1, none⟩ = some (.slice p2 x.2.1.length q2)
  c2 : w.cell? ⟨b, o + 2, none⟩ = some (.slice p3 x.2.2.1.length q3)
  c3 : w.cell? ⟨b, o + 3, none⟩ = some (.slice p4 x.2.2.2.1.length q4)
  c4 : w.cell? ⟨b, o + 4, none⟩ = some (.slice p5 x.2.2.2.2.1.length q5)
  c5 : w.cell? ⟨b, o + 5, none⟩ = some (.slice p6 x.2.2.2.2.2.1.length q6)
  c6 : w.cell? ⟨b, o + 6, none⟩ = some (.slice p7 x.2.2.2.2.2.2.length q7)
theorem AtWld.keep {w w' : World} {b o : Nat} {p2 p3 p4 p5 p6 p7 : Option Addr} {q2 q3 q4 q5 q6 q7 : Nat} {x : WorldD} (h : AtWld w b o p2 p3 p4 p5 p6 p7 q2 q3 q4 q5 q6 q7 x) (hb : Below w.heap.size w w') : AtWld w' b o p2 p3 p4 p5 p6 p7 q2 q3 q4 q5 q6 q7 x :=
  ⟨cell_keep h.c0 hb, cell_keep h.c1 hb, cell_keep h.c2 hb, cell_keep h.c3 hb, cell_keep h.c4 hb, cell_keep h.c5 hb, cell_keep h.c6 hb⟩
set_option maxRecDepth 4000 in
set_option maxHeartbeats 4000000 in
theorem l15Fault_c (b o : Nat) (p2 p3 p4 p5 p6 p7 : Option Addr) (q2 q3 q4 q5 q6 q7 : Nat) (x : WorldD) (w : World) (hA : AtWld w b o p2 p3 p4 p5 p6 p7 q2 q3 q4 q5 q6 q7 x) (r2 : RdL certC w p2 q2 x.2.1) (r3 : RdL (intC .i64) w p3 q3 x.2.2.1) (r4 : RdL signC w p4 q4 x.2.2.2.1) (r5 : RdL linkC w p5 q5 x.2.2.2.2.1) (r6 : RdL bytC w p6 q6 x.2.2.2.2.2.1) (r7 : RdL eventC w p7 q7 x.2.2.2.2.2.2) :
    Calls Tryz.prog 15 #[.pointer (some ⟨b, o, none⟩)] w fun e w' => e = .returned (.int .i64 (wfF hdS x)) ∧ Below w.heap.size w w' := by
  have HA : Hid (AtWld w b o p2 p3 p4 p5 p6 p7 q2 q3 q4 q5 q6 q7 x) := hA
  have R2 : Hid (RdL certC w p2 q2 x.2.1) := r2
  have R3 : Hid (RdL (intC .i64) w p3 q3 x.2.2.1) := r3
  have R4 : Hid (RdL signC w p4 q4 x.2.2.2.1) := r4
  have R5 : Hid (RdL linkC w p5 q5 x.2.2.2.2.1) := r5
  have R6 : Hid (RdL bytC w p6 q6 x.2.2.2.2.2.1) := r6
  have R7 : Hid (RdL eventC w p7 q7 x.2.2.2.2.2.2) := r7
  have hq2 : x.2.1.length ≤ q2 := r2.1
  have hq3 : x.2.2.1.length ≤ q3 := r3.1
  have hq4 : x.2.2.2.1.length ≤ q4 := r4.1
  have hq5 : x.2.2.2.2.1.length ≤ q5 := r5.1
  have hq6 : x.2.2.2.2.2.1.length ≤ q6 := r6.1
  have hq7 : x.2.2.2.2.2.2.length ≤ q7 := r7.1
  have hz2 : q2 ≤ 2 ^ 63 - 1 := r2.2.1
  have hz3 : q3 ≤ 2 ^ 63 - 1 := r3.2.1
  have hz4 : q4 ≤ 2 ^ 63 - 1 := r4.2.1
  have hz5 : q5 ≤ 2 ^ 63 - 1 := r5.2.1
  have hz6 : q6 ≤ 2 ^ 63 - 1 := r6.2.1
  have hz7 : q7 ≤ 2 ^ 63 - 1 := r7.2.1
  clear hA r2 r3 r4 r5 r6 r7
  have c0 := HA.out.c0
  have c1 := HA.out.c1
  have c2 := HA.out.c2
  have c3 := HA.out.c3
  have c4 := HA.out.c4
  have c5 := HA.out.c5
  have c6 := HA.out.c6
  obtain ⟨A, HN⟩ : ∃ A, inB x.1 0 9000 = A := ⟨_, rfl⟩
  go_enter Tryz.func15, Tryz.ntmps15
  go_wp2_with fail
  refine (l1In_c x.1 0 9000 w).mono ?_
  rintro e w1 ⟨rfl, hw⟩
  rw [hw, HN]
  clear hw w1
  cases A
  case false =>
    go_wp2_with fail
    go_ret
    exact ⟨by unfold wfF; rw [if_neg (by rw [HN]; decide)]; rfl, Below.refl _ _⟩
  go_wp2_with fail
  refine (l12Fault_c x.2.1 p2 q2 w R2.out).mono ?_
  rintro e w1 ⟨rfl, hw⟩
  rw [hw]
  clear hw w1
  by_cases h1 : ctC x.2.1 = 0
  case neg =>
    have d0 : (ctC x.2.1 != 0) = true := by rw [bne_iff_ne]; exact h1
    have he : Hid (wfF hdS x = ctC x.2.1) := by show _ = _; unfold wfF; rw [if_pos HN, if_neg h1]
    generalize ctC x.2.1 = k0 at *
    go_wp2_with fail
    go_ret
    exact ⟨by rw [he.out]; rfl, Below.refl _ _⟩
  rw [h1]
  go_wp2_with fail
  refine (l12Signs_c x.2.2.2.1 p4 q4 w R4.out).mono ?_
  rintro e w1 ⟨rfl, hw⟩
  rw [hw]
  clear hw w1
  by_cases h2 : sgC x.2.2.2.1 = 0
  case neg =>
    have d0 : (sgC x.2.2.2.1 != 0) = true := by rw [bne_iff_ne]; exact h2
    have he : Hid (wfF hdS x = sgC x.2.2.2.1) := by show _ = _; unfold wfF; rw [if_pos HN, if_pos h1, if_neg h2]
    generalize sgC x.2.2.2.1 = k0 at *
    go_wp2_with fail
    go_ret
    exact ⟨by rw [he.out]; rfl, Below.refl _ _⟩
  rw [h2]
  have HE : Hid (wfF hdS x = (if 8 < x.2.2.1.length ∨ 4 < x.2.2.2.2.1.length ∨ 30 < x.2.2.2.2.2.1.length ∨ 60 < x.2.2.2.2.2.2.length then 2 else (if x.2.2.1.all (fun i => inB i 1 99) = true then (if lksF hdS x.2.2.2.2.1 = 0 then (if x.2.2.2.2.2.1.all (fun d => decide (d.length ≤ 160)) = true then (if x.2.2.2.2.2.2.all (evB x.2.2.2.2.1.length) = true then 0 else 3) else 2) else lksF hdS x.2.2.2.2.1) else 3))) := by show _ = _; unfold wfF; rw [if_pos HN, if_pos h1, if_pos h2]
  clear HN h1 h2
  by_cases g0 : 8 < x.2.2.1.length
  case pos =>
    have i0 : 8 < (x.2.2.1.length : Int) := by omega
    have hz : Hid (wfF hdS x = 2) := by show _ = _; rw [HE.out, if_pos (by omega)]
    go_wp2_with fail
    go_ret
    exact ⟨by rw [hz.out]; rfl, Below.refl _ _⟩
  have i0 : ¬ (8 < (x.2.2.1.length : Int)) := by omega
  by_cases g1 : 4 < x.2.2.2.2.1.length
  case pos =>
    have i1 : 4 < (x.2.2.2.2.1.length : Int) := by omega
    have hz : Hid (wfF hdS x = 2) := by show _ = _; rw [HE.out, if_pos (by omega)]
    go_wp2_with fail
    go_ret
    exact ⟨by rw [hz.out]; rfl, Below.refl _ _⟩
  have i1 : ¬ (4 < (x.2.2.2.2.1.length : Int)) := by omega
  by_cases g2 : 30 < x.2.2.2.2.2.1.length
  case pos =>
    have i2 : 30 < (x.2.2.2.2.2.1.length : Int) := by omega
    have hz : Hid (wfF hdS x = 2) := by show _ = _; rw [HE.out, if_pos (by omega)]
    go_wp2_with fail
    go_ret
    exact ⟨by rw [hz.out]; rfl, Below.refl _ _⟩
  have i2 : ¬ (30 < (x.2.2.2.2.2.1.length : Int)) := by omega
  by_cases g3 : 60 < x.2.2.2.2.2.2.length
  case pos =>
    have i3 : 60 < (x.2.2.2.2.2.2.length : Int) := by omega
    have hz : Hid (wfF hdS x = 2) := by show _ = _; rw [HE.out, if_pos (by omega)]
    go_wp2_with fail
    go_ret
    exact ⟨by rw [hz.out]; rfl, Below.refl _ _⟩
  have i3 : ¬ (60 < (x.2.2.2.2.2.2.length : Int)) := by omega
  have HL : Hid (x.2.2.1.length ≤ 8 ∧ x.2.2.2.2.1.length ≤ 4 ∧ x.2.2.2.2.2.1.length ≤ 30 ∧ x.2.2.2.2.2.2.length ≤ 60) := by show _ ∧ _; omega
  have HE2 : Hid (wfF hdS x = (if x.2.2.1.all (fun i => inB i 1 99) = true then (if lksF hdS x.2.2.2.2.1 = 0 then (if x.2.2.2.2.2.1.all (fun d => decide (d.length ≤ 160)) = true then (if x.2.2.2.2.2.2.all (evB x.2.2.2.2.1.length) = true then 0 else 3) else 2) else lksF hdS x.2.2.2.2.1) else 3)) := by show _ = _; rw [HE.out, if_neg (by omega)]
  clear HE g0 g1 g2 g3
  go_wp2_with fail
  go_loopw [5] (fun i wr => ∃ k : Nat, k ≤ x.2.2.1.length ∧ i = .int .i64 k ∧ (∀ j id, j < k → x.2.2.1[j]? = some id → inB id 1 99 = true) ∧ wr = w)
    (fun i _ => x.2.2.1.length - (intOf i).toNat)
  case atStart => exact ⟨0, Nat.zero_le _, rfl, fun j id h => absurd h (Nat.not_lt_zero j), rfl⟩
  case round =>
    obtain ⟨k, hk, rfl, hall, hw⟩ := hrel
    rw [hw]
    clear hw wr
    by_cases hlt : k < x.2.2.1.length
    · have hkI : (k : Int) < (x.2.2.1.length : Int) := by omega
      obtain ⟨b3, o3, e1, hc⟩ := R3.out.2.2.2 (by omega)
      obtain ⟨id, ha⟩ : ∃ a, x.2.2.1[k]? = some a := ⟨x.2.2.1[k], by simp [hlt]⟩
      obtain ⟨us, hrep, hcell⟩ := hc k id ha
      have hu : us = [Value.int .i64 id] := hrep
      subst hu
      have d0 := hcell 0 _ rfl
      rw [show (intC .i64).n = 1 from rfl, Nat.mul_one, Nat.add_zero] at d0
      rw [e1] at c2
      clear hc hrep hcell e1
      go_wp2_with fail
      refine (l1In_c id 1 99 w).mono ?_
      rintro e w1 ⟨rfl, hw⟩
      rw [hw]
      clear hw w1
      cases hB : inB id 1 99
      · have hz : Hid (wfF hdS x = 3) := by
          show _ = _
          rw [HE2.out, if_neg (fun h => by have h2 := List.all_eq_true.1 h id (List.mem_of_getElem? ha); rw [hB] at h2; exact absurd h2 (by decide))]
        go_wp2_with fail
        go_ret
        exact ⟨by rw [hz.out]; rfl, Below.refl _ _⟩
      · have HR2 : Hid (∀ j id, j < k + 1 → x.2.2.1[j]? = some id → inB id 1 99 = true) := fun j id2 hj h => by
          by_cases hjk : j < k
          · exact hall j id2 hjk h
          · have e2 : j = k := by omega
            subst e2
            rw [ha] at h
            cases h
            exact hB
        clear hall
        go_wp2_with fail
        go_roundw
        case rel => exact ⟨k + 1, by omega, by go_num, HR2.out, trivial⟩
        case measure => simp [intOf]; omega
    · have hkI : ¬ ((k : Int) < (x.2.2.1.length : Int)) := by omega
      have HE3 : Hid (wfF hdS x = (if lksF hdS x.2.2.2.2.1 = 0 then (if x.2.2.2.2.2.1.all (fun d => decide (d.length ≤ 160)) = true then (if x.2.2.2.2.2.2.all (evB x.2.2.2.2.1.length) = true then 0 else 3) else 2) else lksF hdS x.2.2.2.2.1)) := by
        show _ = _
        rw [HE2.out, if_pos (List.all_eq_true.2 fun id hid => by obtain ⟨j, hj⟩ := List.getElem?_of_mem hid; exact hall j id (by have := (List.getElem?_eq_some_iff.1 hj).1; omega) hj)]
      clear HE2 hall
      go_wp2_with fail
      go_loopw [6] (fun i wr => ∃ k : Nat, k ≤ x.2.2.2.2.1.length ∧ i = .int .i64 k ∧ (∀ j a, j < k → x.2.2.2.2.1[j]? = some a → lkF hdS a = 0) ∧ Below w.heap.size w wr)
        (fun i _ => x.2.2.2.2.1.length - (intOf i).toNat)
      case atStart => exact ⟨0, Nat.zero_le _, rfl, fun j id h => absurd h (Nat.not_lt_zero j), Below.refl _ _⟩
      case round =>
        clear c0 c1 c2 c3 c4 c5 c6
        obtain ⟨m, hm, rfl, hall, BW⟩ := hrel
        have A1 := HA.out.keep BW
        have c0 := A1.c0
        have c1 := A1.c1
        have c2 := A1.c2
        have c3 := A1.c3
        have c4 := A1.c4
        have c5 := A1.c5
        have c6 := A1.c6
        clear A1
        by_cases hlt2 : m < x.2.2.2.2.1.length
        · have hmI : (m : Int) < (x.2.2.2.2.1.length : Int) := by omega
          obtain ⟨b5, o5, e1, hc⟩ := (R5.out.keep BW).2.2.2 (by omega)
          obtain ⟨a, ha⟩ : ∃ a, x.2.2.2.2.1[m]? = some a := ⟨x.2.2.2.2.1[m], by simp [hlt2]⟩
          obtain ⟨us, hrep, hcell⟩ := hc m a ha
          obtain ⟨p3_1, q3_1, p3_3, q3_3, p3_4, q3_4, p3_5, q3_5, p4_1, q4_1, p4_3, q4_3, p4_4, q4_4, p4_5, q4_5, rfl, r3_1, r3_3, r3_4, r3_5, r4_1, r4_3, r4_4, r4_5⟩ := link_rep hrep
          rw [show linkC.n = 12 from rfl] at hcell
          have d0 := hcell 0 _ rfl
          have d1 := hcell 1 _ rfl
          have d2 := hcell 2 _ rfl
          have d3 := hcell 3 _ rfl
          have d4 := hcell 4 _ rfl
          have d5 := hcell 5 _ rfl
          have d6 := hcell 6 _ rfl
          have d7 := hcell 7 _ rfl
          have d8 := hcell 8 _ rfl
          have d9 := hcell 9 _ rfl
          have d10 := hcell 10 _ rfl
          have d11 := hcell 11 _ rfl
          rw [Nat.add_zero] at d0
          have KL := l15Link_c b5 (o5 + m * 12) a p3_1 p3_3 p3_4 p3_5 p4_1 p4_3 p4_4 p4_5 q3_1 q3_3 q3_4 q3_5 q4_1 q4_3 q4_4 q4_5 wr d0 d1 ⟨d2, d3, d4, d5, d6⟩ ⟨d7, d8, d9, d10, d11⟩ r3_1 r3_3 r3_4 r3_5 r4_1 r4_3 r4_4 r4_5
          clear d0 d1 d2 d3 d4 d5 d6 d7 d8 d9 d10 d11 hc hrep hcell r3_1 r3_3 r3_4 r3_5 r4_1 r4_3 r4_4 r4_5
          rw [e1] at c4
          clear e1
          go_wp2_with fail
          refine KL.mono ?_
          rintro e w2 ⟨rfl, hb⟩
          have BW2 := Below.step BW hb
          clear KL c0 c1 c2 c3 c4 c5 c6
          by_cases hl : lkF hdS a = 0
          · have HR2 : Hid (∀ j b, j < m + 1 → x.2.2.2.2.1[j]? = some b → lkF hdS b = 0) := fun j b2 hj h => by
              by_cases hjk : j < m
              · exact hall j b2 hjk h
              · have e2 : j = m := by omega
                subst e2
                rw [ha] at h
                cases h
                exact hl
            rw [hl]
            clear hall hl
            go_wp2_with fail
            go_roundw
            case rel => exact ⟨m + 1, by omega, by go_num, HR2.out, BW2⟩
            case measure => simp [intOf]; omega
          · have hz : Hid (wfF hdS x = lkF hdS a) := by show _ = _; rw [HE3.out, if_neg (by rw [lksF_at ha hall hl]; exact hl), lksF_at ha hall hl]
            have d0 : (lkF hdS a != 0) = true := by rw [bne_iff_ne]; exact hl
            generalize lkF hdS a = k0 at *
            go_wp2_with fail
            go_ret
            exact ⟨by rw [hz.out]; rfl, BW2⟩
        · have hmI : ¬ ((m : Int) < (x.2.2.2.2.1.length : Int)) := by omega
          have HE4 : Hid (wfF hdS x = (if x.2.2.2.2.2.1.all (fun d => decide (d.length ≤ 160)) = true then (if x.2.2.2.2.2.2.all (evB x.2.2.2.2.1.length) = true then 0 else 3) else 2)) := by
            show _ = _
            rw [HE3.out, if_pos (lksF_zero fun a ha => by obtain ⟨j, hj⟩ := List.getElem?_of_mem ha; exact hall j a (by have := (List.getElem?_eq_some_iff.1 hj).1; omega) hj)]
          clear HE3 hall
          obtain ⟨W2, HW2⟩ : ∃ V, V = wr := ⟨_, rfl⟩
          subst HW2
          go_wp2_with fail
          go_loopw [8] (fun i wr => ∃ n : Nat, n ≤ x.2.2.2.2.2.1.length ∧ i = .int .i64 n ∧ (∀ j d, j < n → x.2.2.2.2.2.1[j]? = some d → d.length ≤ 160) ∧ wr = W2)
            (fun i _ => x.2.2.2.2.2.1.length - (intOf i).toNat)
          case atStart => exact ⟨0, Nat.zero_le _, rfl, fun j id h => absurd h (Nat.not_lt_zero j), rfl⟩
          case round =>
            obtain ⟨n, hn, rfl, hall, hw⟩ := hrel
            rw [hw]
            clear hw wr
            by_cases hlt3 : n < x.2.2.2.2.2.1.length
            · have hnI : (n : Int) < (x.2.2.2.2.2.1.length : Int) := by omega
              obtain ⟨b6, o6, e1, hc⟩ := (R6.out.keep BW).2.2.2 (by omega)
              obtain ⟨a, ha⟩ : ∃ a, x.2.2.2.2.2.1[n]? = some a := ⟨x.2.2.2.2.2.1[n], by simp [hlt3]⟩
              obtain ⟨us, hrep, hcell⟩ := hc n a ha
              obtain ⟨pd, qd, rfl, rd⟩ := blk_rep hrep
              have d0 := hcell 0 _ rfl
              rw [show bytC.n = 1 from rfl, Nat.mul_one, Nat.add_zero] at d0
              rw [e1] at c5
              clear hc hrep hcell e1 rd
              by_cases hl : a.length ≤ 160
              · have hlI : ¬ (160 < (a.length : Int)) := by omega
                have HR2 : Hid (∀ j b, j < n + 1 → x.2.2.2.2.2.1[j]? = some b → b.length ≤ 160) := fun j b2 hj h => by
                  by_cases hjk : j < n
                  · exact hall j b2 hjk h
                  · have e2 : j = n := by omega
                    subst e2
                    rw [ha] at h
                    cases h
                    exact hl
                clear hall hl
                go_wp2_with fail
                go_roundw
                case rel => exact ⟨n + 1, by omega, by go_num, HR2.out, trivial⟩
                case measure => simp [intOf]; omega
              · have hlI : 160 < (a.length : Int) := by omega
                have hz : Hid (wfF hdS x = 2) := by
                  show _ = _
                  rw [HE4.out, if_neg (fun h => by have h2 := List.all_eq_true.1 h a (List.mem_of_getElem? ha); simp at h2; omega)]
                go_wp2_with fail
                go_ret
                exact ⟨by rw [hz.out]; rfl, BW⟩
            · have hnI : ¬ ((n : Int) < (x.2.2.2.2.2.1.length : Int)) := by omega
              have HE5 : Hid (wfF hdS x = (if x.2.2.2.2.2.2.all (evB x.2.2.2.2.1.length) = true then 0 else 3)) := by
                show _ = _
                rw [HE4.out, if_pos (List.all_eq_true.2 fun d hd => by obtain ⟨j, hj⟩ := List.getElem?_of_mem hd; exact decide_eq_true (hall j d (by have := (List.getElem?_eq_some_iff.1 hj).1; omega) hj))]
              clear HE4 hall
              go_wp2_with fail
              go_loopw [9] (fun i wr => ∃ n : Nat, n ≤ x.2.2.2.2.2.2.length ∧ i = .int .i64 n ∧ (∀ j a, j < n → x.2.2.2.2.2.2[j]? = some a → evB x.2.2.2.2.1.length a = true) ∧ Below w.heap.size w wr)
                (fun i _ => x.2.2.2.2.2.2.length - (intOf i).toNat)
              case atStart => exact ⟨0, Nat.zero_le _, rfl, fun j id h => absurd h (Nat.not_lt_zero j), BW⟩
              case round =>
                clear c0 c1 c2 c3 c4 c5 c6
                obtain ⟨s, hs, rfl, hall, BE⟩ := hrel
                have A1 := HA.out.keep BE
                have c0 := A1.c0
                have c1 := A1.c1
                have c2 := A1.c2
                have c3 := A1.c3
                have c4 := A1.c4
                have c5 := A1.c5
                have c6 := A1.c6
                clear A1
                by_cases hlt4 : s < x.2.2.2.2.2.2.length
                · have hsI : (s : Int) < (x.2.2.2.2.2.2.length : Int) := by omega
                  obtain ⟨b7, o7, e1, hc⟩ := (R7.out.keep BE).2.2.2 (by omega)
                  obtain ⟨a, ha⟩ : ∃ a, x.2.2.2.2.2.2[s]? = some a := ⟨x.2.2.2.2.2.2[s], by simp [hlt4]⟩
                  obtain ⟨us, hrep, hcell⟩ := hc s a ha
                  obtain ⟨pc, qc, rfl, rc⟩ := event_rep hrep
                  rw [show eventC.n = 6 from rfl] at hcell
                  have d0 := hcell 0 _ rfl
                  have d1 := hcell 1 _ rfl
                  have d2 := hcell 2 _ rfl
                  have d3 := hcell 3 _ rfl
                  have d4 := hcell 4 _ rfl
                  have d5 := hcell 5 _ rfl
                  rw [Nat.add_zero] at d0
                  have KE := l15Event_c b o b7 (o7 + s * 6) a x.2.2.2.2.1.length p5 pc q5 qc wr c4 (by have := HL.out; omega) d0 d1 d2 d3 d4 d5
                  clear d0 d1 d2 d3 d4 d5 hc hrep hcell rc
                  rw [e1] at c6
                  clear e1
                  go_wp2_with fail
                  refine KE.mono ?_
                  rintro e w2 ⟨rfl, hb⟩
                  have BW2 := Below.step BE hb
                  clear KE c0 c1 c2 c3 c4 c5 c6
                  cases hl : evB x.2.2.2.2.1.length a
                  · have hz : Hid (wfF hdS x = 3) := by
                      show _ = _
                      rw [HE5.out, if_neg (fun h => by have h2 := List.all_eq_true.1 h a (List.mem_of_getElem? ha); rw [hl] at h2; cases h2)]
                    go_wp2_with fail
                    go_ret
                    exact ⟨by rw [hz.out]; rfl, BW2⟩
                  · have HR2 : Hid (∀ j b, j < s + 1 → x.2.2.2.2.2.2[j]? = some b → evB x.2.2.2.2.1.length b = true) := fun j b2 hj h => by
                      by_cases hjk : j < s
                      · exact hall j b2 hjk h
                      · have e2 : j = s := by omega
                        subst e2
                        rw [ha] at h
                        cases h
                        exact hl
                    clear hall hl
                    go_wp2_with fail
                    go_roundw
                    case rel => exact ⟨s + 1, by omega, by go_num, HR2.out, BW2⟩
                    case measure => simp [intOf]; omega
                · have hsI : ¬ ((s : Int) < (x.2.2.2.2.2.2.length : Int)) := by omega
                  have hz : Hid (wfF hdS x = 0) := by
                    show _ = _
                    rw [HE5.out, if_pos (List.all_eq_true.2 fun d hd => by obtain ⟨j, hj⟩ := List.getElem?_of_mem hd; exact hall j d (by have := (List.getElem?_eq_some_iff.1 hj).1; omega) hj)]
                  go_wp2_with fail
                  go_ret
                  exact ⟨by rw [hz.out]; rfl, BE⟩
end Go.Proofs.YthiabbgkfmopiaaGreat

