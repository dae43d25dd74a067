/- Chapter 15, the program's side: slices.Equal over what is held, (*Link).session, HeldRight (written by tools/wld_r.py). What was there stays. -/
import Derived.Test.YthiabbgkfmopiaaGreatWldL
import Derived.Test.YthiabbgkfmopiaaGreatPickG
namespace Go.Proofs.YthiabbgkfmopiaaGreat
open Go.ChangeShapes Go.WideShapes Go.ChangeAt Go.RowKit

set_option maxRecDepth 4000 in
set_option maxHeartbeats 2000000 in
theorem equalH_c (l l2 : List HeldD) (p p2 : Option Addr) (q q2 : Nat) (w : World) (r : RdL holdC w p q l) (r2 : RdL holdC w p2 q2 l2) :
    Calls Tryz.prog 25 #[.slice p l.length q, .slice p2 l2.length q2] w fun e w' => e = .returned (.bool (decide (l = l2))) ∧ Below w.heap.size w w' := by
  have R1 : Hid (RdL holdC w p q l) := r
  have R2 : Hid (RdL holdC w p2 q2 l2) := r2
  have hq1 : l.length ≤ q := r.1
  have hq2 : l2.length ≤ q2 := r2.1
  have hz1 : q ≤ 2 ^ 63 - 1 := r.2.1
  have hz2 : q2 ≤ 2 ^ 63 - 1 := r2.2.1
  clear r r2
  by_cases hlen : l.length = l2.length
  case neg =>
    have d : ((l.length : Int) != (l2.length : Int)) = true := by rw [bne_iff_ne]; omega
    have hz : Hid (decide (l = l2) = false) := by show _ = _; exact decide_eq_false (fun h => hlen (by rw [h]))
    clear hlen
    go_enter Tryz.func25, Tryz.ntmps25
    go_wp2_with fail
    go_ret
    exact ⟨by rw [hz.out]; rfl, Below.refl _ _⟩
  have d : ((l.length : Int) != (l2.length : Int)) = false := by rw [bne_eq_false_iff_eq]; omega
  have HL : Hid (l.length = l2.length) := hlen
  clear hlen
  have BW := Below.refl w.heap.size w
  go_enter Tryz.func25, Tryz.ntmps25
  go_wp2_with fail
  go_loopw [13] (fun i wr => ∃ k : Nat, k ≤ l.length ∧ i = .int .i64 k ∧ (∀ j, j < k → l[j]? = l2[j]?) ∧ Below w.heap.size w wr)
    (fun i _ => l.length - (intOf i).toNat)
  case atStart => exact ⟨0, Nat.zero_le _, rfl, fun j h => absurd h (Nat.not_lt_zero j), BW⟩
  case round =>
    clear BW
    obtain ⟨k, hk, rfl, hall, BW⟩ := hrel
    by_cases hlt : k < l.length
    case neg =>
      have hI : ¬ ((k : Int) < (l.length : Int)) := by omega
      have hz : Hid (decide (l = l2) = true) := by
        show _ = _
        refine decide_eq_true (List.ext_getElem? fun j => ?_)
        by_cases hj : j < k
        · exact hall j hj
        · rw [List.getElem?_eq_none (by omega), List.getElem?_eq_none (by have := HL.out; omega)]
      clear hall
      go_wp2_with fail
      go_ret
      exact ⟨by rw [hz.out]; rfl, BW⟩
    have hI : (k : Int) < (l.length : Int) := by omega
    have hI2 : (k : Int) < (l2.length : Int) := by have := HL.out; omega
    obtain ⟨wq, hwq⟩ : ∃ z, z = wr := ⟨_, rfl⟩
    subst hwq
    obtain ⟨b, o, e1, hcc⟩ := (R1.out.keep BW).2.2.2 (by omega)
    obtain ⟨b2, o2, e2, hcc2⟩ := (R2.out.keep BW).2.2.2 (by omega)
    subst e1
    subst e2
    obtain ⟨a, ha⟩ : ∃ a, l[k]? = some a := ⟨l[k], by simp [hlt]⟩
    obtain ⟨c, hc⟩ : ∃ c, l2[k]? = some c := ⟨l2[k]'(by have := HL.out; omega), by simp⟩
    obtain ⟨us, hrep, hcell⟩ := hcc k a ha
    obtain rfl := hold_rep hrep
    obtain ⟨us2, hrep2, hcell2⟩ := hcc2 k c hc
    obtain rfl := hold_rep hrep2
    have m0 := hcell 0 _ rfl
    have m1 := hcell 1 _ rfl
    have n0 := hcell2 0 _ rfl
    have n1 := hcell2 1 _ rfl
    rw [show holdC.n = 2 from rfl] at m0 m1 n0 n1
    rw [Nat.add_zero] at m0 n0
    have HA : Hid (l[k]? = some a) := ha
    have HC : Hid (l2[k]? = some c) := hc
    clear hcc hcc2 hrep hrep2 hcell hcell2 ha hc
    by_cases hac : a = c
    · have hall2 : Hid (∀ j, j < k + 1 → l[j]? = l2[j]?) := fun j hj => by
        by_cases hjk : j < k
        · exact hall j hjk
        · have e : j = k := by omega
          rw [e, HA.out, HC.out, hac]
      subst hac
      clear hall HA HC
      go_wp2_with fail
      go_quiet (fail)
      have hbq : Below wq.heap.size wq (wq.drewN nq) := ⟨rfl, rfl, rfl, Nat.le_refl _, fun _ _ => rfl⟩
      replace BW := Below.step BW hbq
      clear hbq m0 m1 n0 n1
      generalize wq.drewN nq = wv at *
      go_wp2_with fail
      go_roundw
      case rel => exact ⟨k + 1, by omega, by go_num, hall2.out, BW⟩
      case measure => simp [intOf]; omega
    · have hz : Hid (decide (l = l2) = false) := by
        show _ = _
        refine decide_eq_false (fun h => hac ?_)
        have h1 := HA.out
        rw [h, HC.out] at h1
        exact (Option.some.inj h1).symm
      clear hall HA HC
      by_cases hx : a.1 = c.1
      · have hy : ¬ a.2 = c.2 := fun h => hac (Prod.ext hx h)
        clear hac
        go_wp2_with fail
        go_quiet (fail)
        have hbq : Below wq.heap.size wq (wq.drewN nq) := ⟨rfl, rfl, rfl, Nat.le_refl _, fun _ _ => rfl⟩
        replace BW := Below.step BW hbq
        clear hbq m0 m1 n0 n1
        generalize wq.drewN nq = wv at *
        go_wp2_with fail
        go_ret
        exact ⟨by rw [hz.out]; rfl, BW⟩
      · clear hac
        go_wp2_with fail
        go_quiet (fail)
        have hbq : Below wq.heap.size wq (wq.drewN nq) := ⟨rfl, rfl, rfl, Nat.le_refl _, fun _ _ => rfl⟩
        replace BW := Below.step BW hbq
        clear hbq m0 m1 n0 n1
        generalize wq.drewN nq = wv at *
        go_wp2_with fail
        go_ret
        exact ⟨by rw [hz.out]; rfl, BW⟩
theorem session1_d (b o : Nat) (w : World) : Calls Tryz.prog 26 #[.pointer (some ⟨b, o, none⟩), .int .i64 1] w fun e w' => e = .returned (.pointer (some ⟨b, o + 2, none⟩)) ∧ Below w.heap.size w w' := by
  go_enter Tryz.func26, Tryz.ntmps26
  go_wp2
  go_ret
  exact ⟨rfl, Below.refl _ _⟩
theorem session2_d (b o : Nat) (w : World) : Calls Tryz.prog 26 #[.pointer (some ⟨b, o, none⟩), .int .i64 2] w fun e w' => e = .returned (.pointer (some ⟨b, o + 7, none⟩)) ∧ Below w.heap.size w w' := by
  go_enter Tryz.func26, Tryz.ntmps26
  go_wp2
  go_ret
  exact ⟨rfl, Below.refl _ _⟩
set_option maxRecDepth 4000 in
set_option maxHeartbeats 8000000 in
theorem implHr_k (x : WorldD) (us : List Value) (w : World) (h : worldC.rep w x us) :
    Calls Tryz.prog 7 #[.agg us.toArray] w fun e w' => e = .returned (.bool (hrB x)) ∧ Below w.heap.size w w' := by
  obtain ⟨p2, q2, p3, q3, p4, q4, p5, q5, p6, q6, p7, q7, rfl, r2, r3, r4, r5, r6, r7⟩ := world_rep h
  clear h
  have KW : Hid (∀ W, Below w.heap.size w W → Calls Tryz.prog 24 #[.agg #[.int .i64 x.1, .slice p2 x.2.1.length q2, .slice p3 x.2.2.1.length q3, .slice p4 x.2.2.2.1.length q4, .slice p5 x.2.2.2.2.1.length q5, .slice p6 x.2.2.2.2.2.1.length q6, .slice p7 x.2.2.2.2.2.2.length q7]] W fun e w' => e = .returned (.int .i64 (wfF hdC x)) ∧ Below W.heap.size W w') := fun W hb => worldFault_c x _ W (world_mk (r2.keep hb) (r3.keep hb) (r4.keep hb) (r5.keep hb) (r6.keep hb) (r7.keep hb))
  have HLF0 : Hid (ctC x.2.1 = 0 → x.2.2.2.2.2.2.length ≤ 1000 → (∀ e ∈ x.2.2.2.2.2.2, inB e.2.2.2.2.1 1 99 = true) → ∀ W, Below w.heap.size w W → ∀ link role : Int, role = 1 ∨ role = 2 → Calls Tryz.prog 27 #[.agg #[.int .i64 x.1, .slice p2 x.2.1.length q2, .slice p3 x.2.2.1.length q3, .slice p4 x.2.2.2.1.length q4, .slice p5 x.2.2.2.2.1.length q5, .slice p6 x.2.2.2.2.2.1.length q6, .slice p7 x.2.2.2.2.2.2.length q7], .int .i64 link, .int .i64 role] W fun e w' => ∃ (b n : Nat) (D : DataW Unit), e = .returned (.map (some b)) ∧ n ≤ 1000 ∧ MapH w' b n D ∧ MapIs D (lefF x.2.1 x.1 link role x.2.2.2.2.2.2) ∧ Below W.heap.size W w') :=
    fun h1 h2 h3 W hb link role h4 => leftOf_c x _ link role W (world_mk (r2.keep hb) (r3.keep hb) (r4.keep hb) (r5.keep hb) (r6.keep hb) (r7.keep hb)) h1 h2 h3 h4
  have R5 : Hid (RdL linkC w p5 q5 x.2.2.2.2.1) := r5
  have hq5 : x.2.2.2.2.1.length ≤ q5 := r5.1
  have hz5 : q5 ≤ 2 ^ 63 - 1 := r5.2.1
  clear r2 r3 r4 r5 r6 r7
  have BW := alloc_below w (.cells #[.int .i64 x.1, .slice p2 x.2.1.length q2, .slice p3 x.2.2.1.length q3, .slice p4 x.2.2.2.1.length q4, .slice p5 x.2.2.2.2.1.length q5, .slice p6 x.2.2.2.2.2.1.length q6, .slice p7 x.2.2.2.2.2.2.length q7] 37)
  have R := Arr.new w [.int .i64 x.1, .slice p2 x.2.1.length q2, .slice p3 x.2.2.1.length q3, .slice p4 x.2.2.2.1.length q4, .slice p5 x.2.2.2.2.1.length q5, .slice p6 x.2.2.2.2.2.1.length q6, .slice p7 x.2.2.2.2.2.2.length q7] 37
  obtain ⟨V, HV⟩ : ∃ V, Hid (w.alloc (.cells #[.int .i64 x.1, .slice p2 x.2.1.length q2, .slice p3 x.2.2.1.length q3, .slice p4 x.2.2.2.1.length q4, .slice p5 x.2.2.2.2.1.length q5, .slice p6 x.2.2.2.2.2.1.length q6, .slice p7 x.2.2.2.2.2.2.length q7] 37) = V) := ⟨_, rfl⟩
  rw [HV.out] at BW R
  have c0 := (R.cell 0).trans (show _ = some _ from rfl)
  have c1 := (R.cell 1).trans (show _ = some _ from rfl)
  have c2 := (R.cell 2).trans (show _ = some _ from rfl)
  have c3 := (R.cell 3).trans (show _ = some _ from rfl)
  have c4 := (R.cell 4).trans (show _ = some _ from rfl)
  have c5 := (R.cell 5).trans (show _ = some _ from rfl)
  have c6 := (R.cell 6).trans (show _ = some _ from rfl)
  go_enter Tryz.func7, Tryz.ntmps7
  go_wp2_with fail
  rw [HV.out]
  go_wp2_with fail
  refine (KW.out _ BW).mono ?_
  rintro e w1 ⟨rfl, hb⟩
  replace R := R.stay hb
  replace BW := Below.step BW hb
  clear hb HV KW c0 c1 c2 c3 c4 c5 c6
  by_cases h0 : wfF hdC x = 0
  case neg =>
    have d0 : (wfF hdC x != 0) = true := by rw [bne_iff_ne]; exact h0
    have hz : Hid (hrB x = false) := hrB_bad h0
    clear h0
    generalize wfF hdC x = k0 at *
    go_wp2_with fail
    go_ret
    exact ⟨by rw [hz.out]; rfl, BW⟩
  have HR0 : Hid (hrB x = hldB x) := hrB_ok h0
  have hW := wfC_iff.1 h0
  have HCT : Hid (ctC x.2.1 = 0) := hW.ct
  have HLN : Hid (x.2.2.2.2.2.2.length ≤ 1000) := by show _ ≤ _; have := hW.ln; omega
  have HL4 : Hid (x.2.2.2.2.1.length ≤ 4) := hW.ln.2.1
  have HLF : Hid (∀ W, Below w.heap.size w W → ∀ link role : Int, role = 1 ∨ role = 2 → Calls Tryz.prog 27 #[.agg #[.int .i64 x.1, .slice p2 x.2.1.length q2, .slice p3 x.2.2.1.length q3, .slice p4 x.2.2.2.1.length q4, .slice p5 x.2.2.2.2.1.length q5, .slice p6 x.2.2.2.2.2.1.length q6, .slice p7 x.2.2.2.2.2.2.length q7], .int .i64 link, .int .i64 role] W fun e w' => ∃ (b n : Nat) (D : DataW Unit), e = .returned (.map (some b)) ∧ n ≤ 1000 ∧ MapH w' b n D ∧ MapIs D (lefF x.2.1 x.1 link role x.2.2.2.2.2.2) ∧ Below W.heap.size W w') :=
    HLF0.out hW.ct HLN.out (fun e he => by have h := hW.ev e he; unfold evB at h; simp only [Bool.and_eq_true] at h; exact h.1.1.2)
  rw [h0]
  clear h0 hW HLF0
  have c4 := (R.cell 4).trans (show _ = some _ from rfl)
  go_wp2_with fail
  clear c4
  go_loopw [12] (fun i wr => ∃ m : Nat, m ≤ x.2.2.2.2.1.length ∧ i = .int .i64 m ∧ (∀ (j : Nat) a, j < m → x.2.2.2.2.1[j]? = some a → a.2.2.1.2.2.2.2 = lefN x j 1 ∧ a.2.2.2.2.2.2.2 = lefN x j 2) ∧ Arr wr w.heap.size 37 [.int .i64 x.1, .slice p2 x.2.1.length q2, .slice p3 x.2.2.1.length q3, .slice p4 x.2.2.2.1.length q4, .slice p5 x.2.2.2.2.1.length q5, .slice p6 x.2.2.2.2.2.1.length q6, .slice p7 x.2.2.2.2.2.2.length q7] ∧ Below w.heap.size w wr)
    (fun i _ => x.2.2.2.2.1.length - (intOf i).toNat)
  case atStart => exact ⟨0, Nat.zero_le _, rfl, fun j a h => absurd h (Nat.not_lt_zero j), R, BW⟩
  case round =>
    clear R BW
    obtain ⟨m, hm, rfl, hall, R, BW⟩ := hrel
    by_cases hlt : m < x.2.2.2.2.1.length
    case neg =>
      have hI : ¬ ((m : Int) < (x.2.2.2.2.1.length : Int)) := by omega
      have hz : Hid (hrB x = true) := by show _ = _; rw [HR0.out]; exact hldB_true fun j a hj ha => hall j a (by omega) ha
      go_wp2_with fail
      go_ret
      exact ⟨by rw [hz.out]; rfl, BW⟩
    have hI : (m : Int) < (x.2.2.2.2.1.length : Int) := by omega
    obtain ⟨b5, o5, e1, hc⟩ := (R5.out.keep BW).2.2.2 (by omega)
    obtain ⟨a, ha0⟩ : ∃ a, x.2.2.2.2.1[m]? = some a := ⟨x.2.2.2.2.1[m], by simp [hlt]⟩
    have ha : Hid (x.2.2.2.2.1[m]? = some a) := ha0
    obtain ⟨us, hrep, hcell⟩ := hc m a ha0
    obtain ⟨p3_1, q3_1, p3_3, q3_3, p3_4, q3_4, p3_5, q3_5, p4_1, q4_1, p4_3, q4_3, p4_4, q4_4, p4_5, q4_5, rfl, r3_1, r3_3, r3_4, r3_5, r4_1, r4_3, r4_4, r4_5⟩ := link_rep hrep
    rw [show linkC.n = 12 from rfl] at hcell
    obtain ⟨V1, hV1⟩ : ∃ z, z = wr := ⟨_, rfl⟩
    subst hV1
    subst e1
    have HD1 : Hid (∀ W, Below V1.heap.size V1 W → W.cell? ⟨b5, o5 + m * 12 + 2 + 4, none⟩ = some (.slice p3_5 a.2.2.1.2.2.2.2.length q3_5)) := fun W hb => cell_keep (hcell 6 _ rfl) hb
    have HD2 : Hid (∀ W, Below V1.heap.size V1 W → W.cell? ⟨b5, o5 + m * 12 + 7 + 4, none⟩ = some (.slice p4_5 a.2.2.2.2.2.2.2.length q4_5)) := fun W hb => cell_keep (hcell 11 _ rfl) hb
    have RH1 : Hid (∀ W, Below V1.heap.size V1 W → RdL holdC W p3_5 q3_5 a.2.2.1.2.2.2.2) := fun W hb => r3_5.keep hb
    have RH2 : Hid (∀ W, Below V1.heap.size V1 W → RdL holdC W p4_5 q4_5 a.2.2.2.2.2.2.2) := fun W hb => r4_5.keep hb
    clear hc hrep hcell ha0 r3_1 r3_3 r3_4 r3_5 r4_1 r4_3 r4_4 r4_5
    have BO := alloc_below V1 (.cells #[.int .i64 1, .int .i64 2] 2)
    have X := Arr.new V1 [.int .i64 1, .int .i64 2] 2
    replace R := R.stay BO
    replace BW := Below.step BW BO
    go_wp2_with fail
    go_loopw [17] (fun i wr => ∃ r : Nat, r ≤ 2 ∧ i = .int .i64 r ∧ (1 ≤ r → a.2.2.1.2.2.2.2 = lefN x m 1) ∧ (2 ≤ r → a.2.2.2.2.2.2.2 = lefN x m 2) ∧ Arr wr V1.heap.size 2 [.int .i64 1, .int .i64 2] ∧ Arr wr w.heap.size 37 [.int .i64 x.1, .slice p2 x.2.1.length q2, .slice p3 x.2.2.1.length q3, .slice p4 x.2.2.2.1.length q4, .slice (some ⟨b5, o5, none⟩) x.2.2.2.2.1.length q5, .slice p6 x.2.2.2.2.2.1.length q6, .slice p7 x.2.2.2.2.2.2.length q7] ∧ Below V1.heap.size V1 wr ∧ Below w.heap.size w wr)
      (fun i _ => 2 - (intOf i).toNat)
    case atStart => exact ⟨0, by omega, rfl, fun h => absurd h (by omega), fun h => absurd h (by omega), X, R, BO, BW⟩
    case round =>
      clear X R BO BW
      obtain ⟨r, hr, rfl, k1, k2, X, R, BO, BW⟩ := hrel
      by_cases hr0 : r = 0
      · subst hr0
        have c0 := (R.cell 0).trans (show _ = some _ from rfl)
        have c1 := (R.cell 1).trans (show _ = some _ from rfl)
        have c2 := (R.cell 2).trans (show _ = some _ from rfl)
        have c3 := (R.cell 3).trans (show _ = some _ from rfl)
        have c4 := (R.cell 4).trans (show _ = some _ from rfl)
        have c5 := (R.cell 5).trans (show _ = some _ from rfl)
        have c6 := (R.cell 6).trans (show _ = some _ from rfl)
        have x0 := (X.cell 0).trans (show _ = some _ from rfl)
        have d6 := HD1.out _ BO
        obtain ⟨A, HA⟩ : ∃ A, decide (a.2.2.1.2.2.2.2 = lefN x m 1) = A := ⟨_, rfl⟩
        have KEQ : Hid (∀ W pl ql, Below V1.heap.size V1 W → RdL holdC W pl ql (lefN x m 1) → Calls Tryz.prog 25 #[.slice p3_5 a.2.2.1.2.2.2.2.length q3_5, .slice pl (lefN x m 1).length ql] W fun e w' => e = .returned (.bool A) ∧ Below W.heap.size W w') := fun W pl ql hb hr => by
          have h := equalH_c a.2.2.1.2.2.2.2 (lefN x m 1) p3_5 pl q3_5 ql W (RH1.out _ hb) hr
          rw [HA] at h
          exact h
        have HLR : Hid (Rise (lefN x m 1) ∧ (∀ h ∈ lefN x m 1, okH h = true) ∧ (lefN x m 1).length ≤ 1000) := ⟨lefN_rise HCT.out _ _, lefN_ok HCT.out _ _, Nat.le_trans (lefN_len HCT.out _ _) HLN.out⟩
        have HSM : Hid (lefF x.2.1 x.1 (m : Int) 1 x.2.2.2.2.2.2 = lkH (lefN x m 1)) := lefN_same HCT.out _ _
        obtain ⟨W0, hW0⟩ : ∃ z, z = wr := ⟨_, rfl⟩
        subst hW0
        go_wp2_with fail
        apply share
        case h =>
          intro JN
          have BB := Below.refl W0.heap.size W0
          have hne := HW.some W0
          have g0 := HW.at (c0)
          have g1 := HW.at (c1)
          have g2 := HW.at (c2)
          have g3 := HW.at (c3)
          have g4 := HW.at (c4)
          have g5 := HW.at (c5)
          have g6 := HW.at (c6)
          refine wp_region_pick [0, 1, 2, 3, 4, 9, 10, 11] 15 7 1 rfl rfl rfl (by kernel_rfl) (by kernel_rfl) (by kernel_rfl) (by kernel_rfl) ?_
          simp only [opsAt, List.getElem?_toArray, List.getElem?_cons_zero, List.getElem?_cons_succ]
          repeat (go_big_quiet_step (fail))
          refine wpQuiet_nil ?_
          clear g0 g1 g2 g3 g4 g5 g6
          refine wpM_only (i := 5) (by kernel_rfl) ?_
          refine mOp_call rfl (by go_simp) 26 _ #[.pointer (some ⟨b5, o5 + m * 12, none⟩), .int .i64 1] (fun w => by go_simp) rfl ?_
          rintro _ ⟨sg, rfl⟩
          refine (session1_d b5 (o5 + m * 12) _).mono ?_
          rintro e wg1 ⟨rfl, hbx⟩
          have hbg := Below.step sg.h hbx
          refine ⟨_, rfl, ⟨⟨wg1, hbx⟩, rfl⟩, ?_⟩
          replace BB := Below.step BB hbg
          clear hbg hbx sg
          replace hne := HW.some wg1
          have g7 := HW.at (cell_keep (d6) BB)
          refine wpM_more [6, 7, 8] 6 3 rfl (by kernel_rfl) (by kernel_rfl) (by kernel_rfl) (by kernel_rfl) ?_
          simp only [opsAt, List.getElem?_toArray, List.getElem?_cons_zero, List.getElem?_cons_succ]
          go_simp
          repeat (go_big_quiet_step (fail))
          refine wpQuiet_nil ?_
          clear g7
          refine wpM_only (i := 12) (by kernel_rfl) ?_
          refine mOp_call rfl (by go_simp) 27 _ #[.agg #[.int .i64 x.1, .slice p2 x.2.1.length q2, .slice p3 x.2.2.1.length q3, .slice p4 x.2.2.2.1.length q4, .slice (some ⟨b5, o5, none⟩) x.2.2.2.2.1.length q5, .slice p6 x.2.2.2.2.2.1.length q6, .slice p7 x.2.2.2.2.2.2.length q7], .int .i64 m, .int .i64 1] (fun w => by go_simp) rfl ?_
          rintro _ ⟨sg, rfl⟩
          refine (HLF.out _ (Below.step BW (Below.step BB sg.h)) m 1 (by omega)).mono ?_
          rintro e wg2 ⟨bm, nm, D, rfl, hnm, ho, hm, hbx⟩
          rw [HSM.out] at hm
          have hbg := Below.step sg.h hbx
          refine ⟨_, rfl, ⟨⟨wg2, hbx⟩, rfl⟩, ?_⟩
          have HNM := (show Hid (nm ≤ 1000) from hnm)
          have HMP := (ho : MapH _ bm nm D)
          have HMI := (hm : MapIs D (lkH (lefN x m 1)))
          replace BB := Below.step BB hbg
          clear hbg hbx sg ho hm hnm
          replace hne := HW.some wg2
          refine wpM_only (i := 13) (by kernel_rfl) ?_
          refine mOp_call rfl (by go_simp) 28 _ #[.map (some bm)] (fun w => by go_simp) rfl ?_
          rintro _ ⟨sg, rfl⟩
          refine (untilsList_c bm nm D (lefN x m 1) _ (HMP.keep sg.h) HMI HLR.out.1 HLR.out.2.1 HLR.out.2.2 HNM.out).mono ?_
          rintro e wg3 ⟨v, rfl, hrow, hbx⟩
          obtain ⟨pl, ql, rfl, -⟩ := ownsRow_raw hrow
          have hbg := Below.step sg.h hbx
          refine ⟨_, rfl, ⟨⟨wg3, hbx⟩, rfl⟩, ?_⟩
          have RDL := (RdL.own (⟨hrow, cellsH_all _, by rw [List.append_nil]; exact nodup_opt _⟩ : OwnL 59 holdC _ _ _ (lefN x m 1) (cellsH (lefN x m 1)) []) : RdL holdC _ pl ql (lefN x m 1))
          replace HMP := HMP.keep hbg
          replace BB := Below.step BB hbg
          clear hbg hbx sg hrow
          replace hne := HW.some wg3
          refine wpM_only (i := 14) (by kernel_rfl) ?_
          refine mOp_call rfl (by go_simp) 25 _ #[.slice p3_5 a.2.2.1.2.2.2.2.length q3_5, .slice pl (lefN x m 1).length ql] (fun w => by go_simp) rfl ?_
          rintro _ ⟨sg, rfl⟩
          refine (KEQ.out _ pl ql (Below.step BO (Below.step BB sg.h)) (RDL.keep sg.h)).mono ?_
          rintro e wg4 ⟨rfl, hbx⟩
          have hbg := Below.step sg.h hbx
          refine ⟨_, rfl, ⟨⟨wg4, hbx⟩, rfl⟩, ?_⟩
          replace HMP := HMP.keep hbg
          replace RDL := RDL.keep hbg
          replace BB := Below.step BB hbg
          clear hbg hbx sg
          replace hne := HW.some wg4
          refine wpM_end (by kernel_rfl) rfl (by kernel_rfl) (by decide) ?_
          rintro _ ⟨sz, rfl⟩
          simp only [List.drop_succ_cons, List.drop_zero]
          go_simp
          replace HMP := HMP.keep sz.h
          replace RDL := RDL.keep sz.h
          replace BB := Below.step BB sz.h
          clear hne
          generalize sz.w = W at *
          clear sz
          revert RDL
          revert HMI
          revert HMP
          revert HNM
          revert BB
          revert ql
          revert pl
          revert D
          revert nm
          revert bm
          revert W
          exact JN.out
        intro W bm nm D pl ql BB HNM HMP HMI RDL
        replace X := X.stay BB
        replace R := R.stay BB
        replace BW := Below.step BW BB
        replace BO := Below.step BO BB
        clear c0 c1 c2 c3 c4 c5 c6 x0 d6 KEQ HLR HSM HNM HMP HMI RDL BB
        cases A
        case false =>
          have hz : Hid (hrB x = false) := by show _ = _; rw [HR0.out]; exact hldB_false ha.out (fun h => of_decide_eq_false HA h.1)
          go_wp2_with fail
          go_ret
          exact ⟨by rw [hz.out]; rfl, BW⟩
        have HE0 : a.2.2.1.2.2.2.2 = lefN x m 1 := of_decide_eq_true HA
        have HE1 : Hid (a.2.2.1.2.2.2.2 = lefN x m 1) := HE0
        clear HE0
        clear HA
        go_wp2_with fail
        go_roundw
        case rel => exact ⟨1, by omega, by go_num, fun _ => HE1.out, fun h => absurd h (by omega), X, R, BO, BW⟩
        case measure => simp [intOf]
      by_cases hr1 : r = 1
      · subst hr1
        have c0 := (R.cell 0).trans (show _ = some _ from rfl)
        have c1 := (R.cell 1).trans (show _ = some _ from rfl)
        have c2 := (R.cell 2).trans (show _ = some _ from rfl)
        have c3 := (R.cell 3).trans (show _ = some _ from rfl)
        have c4 := (R.cell 4).trans (show _ = some _ from rfl)
        have c5 := (R.cell 5).trans (show _ = some _ from rfl)
        have c6 := (R.cell 6).trans (show _ = some _ from rfl)
        have x0 := (X.cell 1).trans (show _ = some _ from rfl)
        have d6 := HD2.out _ BO
        obtain ⟨A, HA⟩ : ∃ A, decide (a.2.2.2.2.2.2.2 = lefN x m 2) = A := ⟨_, rfl⟩
        have KEQ : Hid (∀ W pl ql, Below V1.heap.size V1 W → RdL holdC W pl ql (lefN x m 2) → Calls Tryz.prog 25 #[.slice p4_5 a.2.2.2.2.2.2.2.length q4_5, .slice pl (lefN x m 2).length ql] W fun e w' => e = .returned (.bool A) ∧ Below W.heap.size W w') := fun W pl ql hb hr => by
          have h := equalH_c a.2.2.2.2.2.2.2 (lefN x m 2) p4_5 pl q4_5 ql W (RH2.out _ hb) hr
          rw [HA] at h
          exact h
        have HLR : Hid (Rise (lefN x m 2) ∧ (∀ h ∈ lefN x m 2, okH h = true) ∧ (lefN x m 2).length ≤ 1000) := ⟨lefN_rise HCT.out _ _, lefN_ok HCT.out _ _, Nat.le_trans (lefN_len HCT.out _ _) HLN.out⟩
        have HSM : Hid (lefF x.2.1 x.1 (m : Int) 2 x.2.2.2.2.2.2 = lkH (lefN x m 2)) := lefN_same HCT.out _ _
        obtain ⟨W0, hW0⟩ : ∃ z, z = wr := ⟨_, rfl⟩
        subst hW0
        go_wp2_with fail
        apply share
        case h =>
          intro JN
          have BB := Below.refl W0.heap.size W0
          have hne := HW.some W0
          have g0 := HW.at (c0)
          have g1 := HW.at (c1)
          have g2 := HW.at (c2)
          have g3 := HW.at (c3)
          have g4 := HW.at (c4)
          have g5 := HW.at (c5)
          have g6 := HW.at (c6)
          refine wp_region_pick [0, 1, 2, 3, 4, 9, 10, 11] 15 7 1 rfl rfl rfl (by kernel_rfl) (by kernel_rfl) (by kernel_rfl) (by kernel_rfl) ?_
          simp only [opsAt, List.getElem?_toArray, List.getElem?_cons_zero, List.getElem?_cons_succ]
          repeat (go_big_quiet_step (fail))
          refine wpQuiet_nil ?_
          clear g0 g1 g2 g3 g4 g5 g6
          refine wpM_only (i := 5) (by kernel_rfl) ?_
          refine mOp_call rfl (by go_simp) 26 _ #[.pointer (some ⟨b5, o5 + m * 12, none⟩), .int .i64 2] (fun w => by go_simp) rfl ?_
          rintro _ ⟨sg, rfl⟩
          refine (session2_d b5 (o5 + m * 12) _).mono ?_
          rintro e wg1 ⟨rfl, hbx⟩
          have hbg := Below.step sg.h hbx
          refine ⟨_, rfl, ⟨⟨wg1, hbx⟩, rfl⟩, ?_⟩
          replace BB := Below.step BB hbg
          clear hbg hbx sg
          replace hne := HW.some wg1
          have g7 := HW.at (cell_keep (d6) BB)
          refine wpM_more [6, 7, 8] 6 3 rfl (by kernel_rfl) (by kernel_rfl) (by kernel_rfl) (by kernel_rfl) ?_
          simp only [opsAt, List.getElem?_toArray, List.getElem?_cons_zero, List.getElem?_cons_succ]
          go_simp
          repeat (go_big_quiet_step (fail))
          refine wpQuiet_nil ?_
          clear g7
          refine wpM_only (i := 12) (by kernel_rfl) ?_
          refine mOp_call rfl (by go_simp) 27 _ #[.agg #[.int .i64 x.1, .slice p2 x.2.1.length q2, .slice p3 x.2.2.1.length q3, .slice p4 x.2.2.2.1.length q4, .slice (some ⟨b5, o5, none⟩) x.2.2.2.2.1.length q5, .slice p6 x.2.2.2.2.2.1.length q6, .slice p7 x.2.2.2.2.2.2.length q7], .int .i64 m, .int .i64 2] (fun w => by go_simp) rfl ?_
          rintro _ ⟨sg, rfl⟩
          refine (HLF.out _ (Below.step BW (Below.step BB sg.h)) m 2 (by omega)).mono ?_
          rintro e wg2 ⟨bm, nm, D, rfl, hnm, ho, hm, hbx⟩
          rw [HSM.out] at hm
          have hbg := Below.step sg.h hbx
          refine ⟨_, rfl, ⟨⟨wg2, hbx⟩, rfl⟩, ?_⟩
          have HNM := (show Hid (nm ≤ 1000) from hnm)
          have HMP := (ho : MapH _ bm nm D)
          have HMI := (hm : MapIs D (lkH (lefN x m 2)))
          replace BB := Below.step BB hbg
          clear hbg hbx sg ho hm hnm
          replace hne := HW.some wg2
          refine wpM_only (i := 13) (by kernel_rfl) ?_
          refine mOp_call rfl (by go_simp) 28 _ #[.map (some bm)] (fun w => by go_simp) rfl ?_
          rintro _ ⟨sg, rfl⟩
          refine (untilsList_c bm nm D (lefN x m 2) _ (HMP.keep sg.h) HMI HLR.out.1 HLR.out.2.1 HLR.out.2.2 HNM.out).mono ?_
          rintro e wg3 ⟨v, rfl, hrow, hbx⟩
          obtain ⟨pl, ql, rfl, -⟩ := ownsRow_raw hrow
          have hbg := Below.step sg.h hbx
          refine ⟨_, rfl, ⟨⟨wg3, hbx⟩, rfl⟩, ?_⟩
          have RDL := (RdL.own (⟨hrow, cellsH_all _, by rw [List.append_nil]; exact nodup_opt _⟩ : OwnL 59 holdC _ _ _ (lefN x m 2) (cellsH (lefN x m 2)) []) : RdL holdC _ pl ql (lefN x m 2))
          replace HMP := HMP.keep hbg
          replace BB := Below.step BB hbg
          clear hbg hbx sg hrow
          replace hne := HW.some wg3
          refine wpM_only (i := 14) (by kernel_rfl) ?_
          refine mOp_call rfl (by go_simp) 25 _ #[.slice p4_5 a.2.2.2.2.2.2.2.length q4_5, .slice pl (lefN x m 2).length ql] (fun w => by go_simp) rfl ?_
          rintro _ ⟨sg, rfl⟩
          refine (KEQ.out _ pl ql (Below.step BO (Below.step BB sg.h)) (RDL.keep sg.h)).mono ?_
          rintro e wg4 ⟨rfl, hbx⟩
          have hbg := Below.step sg.h hbx
          refine ⟨_, rfl, ⟨⟨wg4, hbx⟩, rfl⟩, ?_⟩
          replace HMP := HMP.keep hbg
          replace RDL := RDL.keep hbg
          replace BB := Below.step BB hbg
          clear hbg hbx sg
          replace hne := HW.some wg4
          refine wpM_end (by kernel_rfl) rfl (by kernel_rfl) (by decide) ?_
          rintro _ ⟨sz, rfl⟩
          simp only [List.drop_succ_cons, List.drop_zero]
          go_simp
          replace HMP := HMP.keep sz.h
          replace RDL := RDL.keep sz.h
          replace BB := Below.step BB sz.h
          clear hne
          generalize sz.w = W at *
          clear sz
          revert RDL
          revert HMI
          revert HMP
          revert HNM
          revert BB
          revert ql
          revert pl
          revert D
          revert nm
          revert bm
          revert W
          exact JN.out
        intro W bm nm D pl ql BB HNM HMP HMI RDL
        replace X := X.stay BB
        replace R := R.stay BB
        replace BW := Below.step BW BB
        replace BO := Below.step BO BB
        clear c0 c1 c2 c3 c4 c5 c6 x0 d6 KEQ HLR HSM HNM HMP HMI RDL BB
        cases A
        case false =>
          have hz : Hid (hrB x = false) := by show _ = _; rw [HR0.out]; exact hldB_false ha.out (fun h => of_decide_eq_false HA h.2)
          go_wp2_with fail
          go_ret
          exact ⟨by rw [hz.out]; rfl, BW⟩
        have HE0 : a.2.2.2.2.2.2.2 = lefN x m 2 := of_decide_eq_true HA
        have HE1 : Hid (a.2.2.2.2.2.2.2 = lefN x m 2) := HE0
        clear HE0
        clear HA
        go_wp2_with fail
        go_roundw
        case rel => exact ⟨2, by omega, by go_num, fun _ => k1 (Nat.le_refl _), fun _ => HE1.out, X, R, BO, BW⟩
        case measure => simp [intOf]
      have hr2 : r = 2 := by omega
      subst hr2
      have HE1 : Hid (a.2.2.1.2.2.2.2 = lefN x m 1) := k1 (by omega)
      have HE2 : Hid (a.2.2.2.2.2.2.2 = lefN x m 2) := k2 (by omega)
      have hall2 : Hid (∀ (j : Nat) a, j < m + 1 → x.2.2.2.2.1[j]? = some a → a.2.2.1.2.2.2.2 = lefN x j 1 ∧ a.2.2.2.2.2.2.2 = lefN x j 2) := fun j b hj h => by
        by_cases hjk : j < m
        · exact hall j b hjk h
        · have e2 : j = m := by omega
          subst e2
          rw [ha.out] at h
          cases h
          exact ⟨HE1.out, HE2.out⟩
      clear k1 k2 hall X BO HE1 HE2
      go_wp2_with fail
      go_roundw
      case rel => exact ⟨m + 1, by omega, by go_num, hall2.out, R, BW⟩
      case measure => simp [intOf]; omega
end Go.Proofs.YthiabbgkfmopiaaGreat

