/- Chapter 15: HeldRight of the specification (written by tools/wld_t.py). What was there stays. -/
import Derived.Test.YthiabbgkfmopiaaGreatWldQ
namespace Go.Proofs.YthiabbgkfmopiaaGreat
open Go.ChangeShapes Go.WideShapes Go.ChangeAt Go.RowKit

theorem wf_same {x : WorldD} : wfF hdS x = 0 ↔ wfF hdC x = 0 := wfS_iff.trans wfC_iff.symm
set_option maxRecDepth 4000 in
set_option maxHeartbeats 8000000 in
theorem specHr_k (x : WorldD) (us : List Value) (w : World) (h : worldC.rep w x us) :
    Calls Tryz.prog 5 #[.agg us.toArray] w fun e w' => e = .returned (.bool (hrB x)) ∧ Below w.heap.size w w' := by
  obtain ⟨p2, q2, p3, q3, p4, q4, p5, q5, p6, q6, p7, q7, rfl, r2, r3, r4, r5, r6, r7⟩ := world_rep h
  clear h
  have BW := alloc_below w (.cells #[.int .i64 x.1, .slice p2 x.2.1.length q2, .slice p3 x.2.2.1.length q3, .slice p4 x.2.2.2.1.length q4, .slice p5 x.2.2.2.2.1.length q5, .slice p6 x.2.2.2.2.2.1.length q6, .slice p7 x.2.2.2.2.2.2.length q7] 37)
  have R := Arr.new w [.int .i64 x.1, .slice p2 x.2.1.length q2, .slice p3 x.2.2.1.length q3, .slice p4 x.2.2.2.1.length q4, .slice p5 x.2.2.2.2.1.length q5, .slice p6 x.2.2.2.2.2.1.length q6, .slice p7 x.2.2.2.2.2.2.length q7] 37
  obtain ⟨V, HV⟩ : ∃ V, Hid (w.alloc (.cells #[.int .i64 x.1, .slice p2 x.2.1.length q2, .slice p3 x.2.2.1.length q3, .slice p4 x.2.2.2.1.length q4, .slice p5 x.2.2.2.2.1.length q5, .slice p6 x.2.2.2.2.2.1.length q6, .slice p7 x.2.2.2.2.2.2.length q7] 37) = V) := ⟨_, rfl⟩
  rw [HV.out] at BW R
  have KW : Hid (Calls Tryz.prog 15 #[.pointer (some ⟨w.heap.size, 0, none⟩)] V fun e w' => e = .returned (.int .i64 (wfF hdS x)) ∧ Below V.heap.size V w') :=
    l15Fault_c w.heap.size 0 p2 p3 p4 p5 p6 p7 q2 q3 q4 q5 q6 q7 x V ⟨(R.cell 0).trans rfl, (R.cell 1).trans rfl, (R.cell 2).trans rfl, (R.cell 3).trans rfl, (R.cell 4).trans rfl, (R.cell 5).trans rfl, (R.cell 6).trans rfl⟩ (r2.keep BW) (r3.keep BW) (r4.keep BW) (r5.keep BW) (r6.keep BW) (r7.keep BW)
  have HLF0 : Hid (ctC x.2.1 = 0 → x.2.2.2.2.2.2.length ≤ 1000 → ∀ W, Below V.heap.size V W → ∀ link role : Int, role = 1 ∨ role = 2 → Calls Tryz.prog 16 #[.pointer (some ⟨w.heap.size, 0, none⟩), .int .i64 link, .int .i64 role] W fun e w' => ∃ v, e = .returned v ∧ w'.ownsRow W.heap.size 59 2 v (lefN x link role).length (cellsH (lefN x link role)) ∧ Below W.heap.size W w') :=
    fun h1 h2 W hb link role h4 => l15Left_c w.heap.size 0 p2 p7 q2 q7 x link role W (((R.stay hb).cell 0).trans rfl) (((R.stay hb).cell 1).trans rfl) (((R.stay hb).cell 6).trans rfl) ((r2.keep BW).keep hb) ((r7.keep BW).keep hb) h1 h2 h4
  have R5 : Hid (RdL linkC V p5 q5 x.2.2.2.2.1) := r5.keep BW
  have hq5 : x.2.2.2.2.1.length ≤ q5 := r5.1
  have hz5 : q5 ≤ 2 ^ 63 - 1 := r5.2.1
  clear r2 r3 r4 r5 r6 r7
  have B0 := BW
  replace BW := Below.refl V.heap.size V
  go_enter Tryz.func5, Tryz.ntmps5
  go_wp2_with fail
  rw [HV.out]
  refine KW.out.mono ?_
  rintro e w1 ⟨rfl, hb⟩
  replace R := R.stay hb
  replace BW := Below.step BW hb
  clear hb HV KW
  by_cases h0 : wfF hdS x = 0
  case neg =>
    have d0 : (wfF hdS x != 0) = true := by rw [bne_iff_ne]; exact h0
    have hz : Hid (hrB x = false) := hrB_bad (fun h => h0 (wf_same.2 h))
    clear h0
    generalize wfF hdS x = k0 at *
    go_wp2_with fail
    go_ret
    exact ⟨by rw [hz.out]; rfl, Below.step B0 BW⟩
  have HR0 : Hid (hrB x = hldB x) := hrB_ok (wf_same.1 h0)
  have hW := wfS_iff.1 h0
  have HCT : Hid (ctC x.2.1 = 0) := hW.ct
  have HLN : Hid (x.2.2.2.2.2.2.length ≤ 1000) := by show _ ≤ _; have := hW.ln; omega
  have HL4 : Hid (x.2.2.2.2.1.length ≤ 4) := hW.ln.2.1
  have HLF : Hid (∀ W, Below V.heap.size V W → ∀ link role : Int, role = 1 ∨ role = 2 → Calls Tryz.prog 16 #[.pointer (some ⟨w.heap.size, 0, none⟩), .int .i64 link, .int .i64 role] W fun e w' => ∃ v, e = .returned v ∧ w'.ownsRow W.heap.size 59 2 v (lefN x link role).length (cellsH (lefN x link role)) ∧ Below W.heap.size W w') :=
    HLF0.out hW.ct HLN.out
  rw [h0]
  clear h0 hW HLF0
  go_wp2_with fail
  go_loopw [3] (fun i wr => ∃ m : Nat, m ≤ x.2.2.2.2.1.length ∧ i = .int .i64 m ∧ (∀ (j : Nat) a, j < m → x.2.2.2.2.1[j]? = some a → a.2.2.1.2.2.2.2 = lefN x j 1 ∧ a.2.2.2.2.2.2.2 = lefN x j 2) ∧ Arr wr w.heap.size 37 [.int .i64 x.1, .slice p2 x.2.1.length q2, .slice p3 x.2.2.1.length q3, .slice p4 x.2.2.2.1.length q4, .slice p5 x.2.2.2.2.1.length q5, .slice p6 x.2.2.2.2.2.1.length q6, .slice p7 x.2.2.2.2.2.2.length q7] ∧ Below V.heap.size V wr)
    (fun i _ => x.2.2.2.2.1.length - (intOf i).toNat)
  case atStart => exact ⟨0, Nat.zero_le _, rfl, fun j a h => absurd h (Nat.not_lt_zero j), R, BW⟩
  case round =>
    clear R BW
    obtain ⟨m, hm, rfl, hall, R, BW⟩ := hrel
    have c4 := (R.cell 4).trans (show _ = some _ from rfl)
    by_cases hlt : m < x.2.2.2.2.1.length
    case neg =>
      have hI : ¬ ((m : Int) < (x.2.2.2.2.1.length : Int)) := by omega
      have hz : Hid (hrB x = true) := by show _ = _; rw [HR0.out]; exact hldB_true fun j a hj ha => hall j a (by omega) ha
      go_wp2_with fail
      go_ret
      exact ⟨by rw [hz.out]; rfl, Below.step B0 BW⟩
    have hI : (m : Int) < (x.2.2.2.2.1.length : Int) := by omega
    obtain ⟨b5, o5, e1, hc⟩ := (R5.out.keep BW).2.2.2 (by omega)
    obtain ⟨a, ha0⟩ : ∃ a, x.2.2.2.2.1[m]? = some a := ⟨x.2.2.2.2.1[m], by simp [hlt]⟩
    have ha : Hid (x.2.2.2.2.1[m]? = some a) := ha0
    obtain ⟨us, hrep, hcell⟩ := hc m a ha0
    obtain ⟨p3_1, q3_1, p3_3, q3_3, p3_4, q3_4, p3_5, q3_5, p4_1, q4_1, p4_3, q4_3, p4_4, q4_4, p4_5, q4_5, rfl, r3_1, r3_3, r3_4, r3_5, r4_1, r4_3, r4_4, r4_5⟩ := link_rep hrep
    rw [show linkC.n = 12 from rfl] at hcell
    obtain ⟨V1, hV1⟩ : ∃ z, z = wr := ⟨_, rfl⟩
    subst hV1
    subst e1
    have HS1 : Hid (∀ W, Below V1.heap.size V1 W → Calls Tryz.prog 17 #[.pointer (some ⟨b5, o5 + m * 12, none⟩), .int .i64 1] W fun e w' => e = .returned (.agg #[.slice p3_1 a.2.2.1.1.length q3_1, .int .i64 a.2.2.1.2.1, .slice p3_3 a.2.2.1.2.2.1.length q3_3, .slice p3_4 a.2.2.1.2.2.2.1.length q3_4, .slice p3_5 a.2.2.1.2.2.2.2.length q3_5]) ∧ Below W.heap.size W w') := fun W hb => l15Session1_c b5 (o5 + m * 12) _ _ _ _ _ _ _ _ _ _ _ _ _ W (cell_keep (hcell 2 _ rfl) hb) (cell_keep (hcell 3 _ rfl) hb) (cell_keep (hcell 4 _ rfl) hb) (cell_keep (hcell 5 _ rfl) hb) (cell_keep (hcell 6 _ rfl) hb)
    have HS2 : Hid (∀ W, Below V1.heap.size V1 W → Calls Tryz.prog 17 #[.pointer (some ⟨b5, o5 + m * 12, none⟩), .int .i64 2] W fun e w' => e = .returned (.agg #[.slice p4_1 a.2.2.2.1.length q4_1, .int .i64 a.2.2.2.2.1, .slice p4_3 a.2.2.2.2.2.1.length q4_3, .slice p4_4 a.2.2.2.2.2.2.1.length q4_4, .slice p4_5 a.2.2.2.2.2.2.2.length q4_5]) ∧ Below W.heap.size W w') := fun W hb => l15Session2_c b5 (o5 + m * 12) _ _ _ _ _ _ _ _ _ _ _ _ _ W (cell_keep (hcell 7 _ rfl) hb) (cell_keep (hcell 8 _ rfl) hb) (cell_keep (hcell 9 _ rfl) hb) (cell_keep (hcell 10 _ rfl) hb) (cell_keep (hcell 11 _ rfl) hb)
    have RH1 : Hid (∀ W, Below V1.heap.size V1 W → RdL holdC W p3_5 q3_5 a.2.2.1.2.2.2.2) := fun W hb => r3_5.keep hb
    have RH2 : Hid (∀ W, Below V1.heap.size V1 W → RdL holdC W p4_5 q4_5 a.2.2.2.2.2.2.2) := fun W hb => r4_5.keep hb
    clear hc hrep hcell ha0 r3_1 r3_3 r3_4 r3_5 r4_1 r4_3 r4_4 r4_5
    have BO := Below.refl V1.heap.size V1
    go_wp2_with fail
    clear c4
    go_loopw [4] (fun i wr => ∃ r : Nat, 1 ≤ r ∧ r ≤ 3 ∧ i = .int .i64 r ∧ (2 ≤ r → a.2.2.1.2.2.2.2 = lefN x m 1) ∧ (3 ≤ r → a.2.2.2.2.2.2.2 = lefN x m 2) ∧ Arr wr w.heap.size 37 [.int .i64 x.1, .slice p2 x.2.1.length q2, .slice p3 x.2.2.1.length q3, .slice p4 x.2.2.2.1.length q4, .slice (some ⟨b5, o5, none⟩) x.2.2.2.2.1.length q5, .slice p6 x.2.2.2.2.2.1.length q6, .slice p7 x.2.2.2.2.2.2.length q7] ∧ Below V1.heap.size V1 wr ∧ Below V.heap.size V wr)
      (fun i _ => 3 - (intOf i).toNat)
    case atStart => exact ⟨1, by omega, by omega, rfl, fun h => absurd h (by omega), fun h => absurd h (by omega), R, BO, BW⟩
    case round =>
      clear R BO BW
      obtain ⟨r, hr1, hr3, rfl, k1, k2, R, BO, BW⟩ := hrel
      by_cases hr0 : r = 1
      · subst hr0
        have HLR : Hid ((lefN x m 1).length ≤ 1000) := Nat.le_trans (lefN_len HCT.out _ _) HLN.out
        obtain ⟨W0, hW0⟩ : ∃ z, z = wr := ⟨_, rfl⟩
        subst hW0
        go_wp2_with fail
        refine (HLF.out _ BW m 1 (by omega)).mono ?_
        rintro e wa ⟨v, rfl, hrow, hba⟩
        obtain ⟨pl, ql, rfl, -⟩ := ownsRow_raw hrow
        have RDL : Hid (RdL holdC wa pl ql (lefN x m 1)) := rdl_held hrow rfl
        replace R := R.stay hba
        replace BW := Below.step BW hba
        replace BO := Below.step BO hba
        clear hba hrow
        have c4 := (R.cell 4).trans (show _ = some _ from rfl)
        go_wp2_with fail
        refine (HS1.out _ BO).mono ?_
        rintro e wb ⟨rfl, hbb⟩
        have RDL2 : Hid (RdL holdC wb pl ql (lefN x m 1)) := RDL.out.keep hbb
        have hlq : (lefN x m 1).length ≤ ql := RDL2.out.1
        have hzq : ql ≤ 2 ^ 63 - 1 := RDL2.out.2.1
        have hlh : a.2.2.1.2.2.2.2.length ≤ q3_5 := (RH1.out _ BO).1
        have hzh : q3_5 ≤ 2 ^ 63 - 1 := (RH1.out _ BO).2.1
        replace R := R.stay hbb
        replace BW := Below.step BW hbb
        replace BO := Below.step BO hbb
        clear hbb c4 RDL
        have hal := alloc_below wb (.cells #[.slice p3_1 a.2.2.1.1.length q3_1, .int .i64 a.2.2.1.2.1, .slice p3_3 a.2.2.1.2.2.1.length q3_3, .slice p3_4 a.2.2.1.2.2.2.1.length q3_4, .slice p3_5 a.2.2.1.2.2.2.2.length q3_5] 53)
        have Y := Arr.new wb [.slice p3_1 a.2.2.1.1.length q3_1, .int .i64 a.2.2.1.2.1, .slice p3_3 a.2.2.1.2.2.1.length q3_3, .slice p3_4 a.2.2.1.2.2.2.1.length q3_4, .slice p3_5 a.2.2.1.2.2.2.2.length q3_5] 53
        have y4 := (Y.cell 4).trans (show _ = some _ from rfl)
        replace R := R.stay hal
        have RLL : Hid (∀ W, Below (wb.alloc (.cells #[.slice p3_1 a.2.2.1.1.length q3_1, .int .i64 a.2.2.1.2.1, .slice p3_3 a.2.2.1.2.2.1.length q3_3, .slice p3_4 a.2.2.1.2.2.2.1.length q3_4, .slice p3_5 a.2.2.1.2.2.2.2.length q3_5] 53)).heap.size (wb.alloc (.cells #[.slice p3_1 a.2.2.1.1.length q3_1, .int .i64 a.2.2.1.2.1, .slice p3_3 a.2.2.1.2.2.1.length q3_3, .slice p3_4 a.2.2.1.2.2.2.1.length q3_4, .slice p3_5 a.2.2.1.2.2.2.2.length q3_5] 53)) W → RdL holdC W pl ql (lefN x m 1)) := fun W h => (RDL2.out.keep hal).keep h
        have RHH : Hid (∀ W, Below (wb.alloc (.cells #[.slice p3_1 a.2.2.1.1.length q3_1, .int .i64 a.2.2.1.2.1, .slice p3_3 a.2.2.1.2.2.1.length q3_3, .slice p3_4 a.2.2.1.2.2.2.1.length q3_4, .slice p3_5 a.2.2.1.2.2.2.2.length q3_5] 53)).heap.size (wb.alloc (.cells #[.slice p3_1 a.2.2.1.1.length q3_1, .int .i64 a.2.2.1.2.1, .slice p3_3 a.2.2.1.2.2.1.length q3_3, .slice p3_4 a.2.2.1.2.2.2.1.length q3_4, .slice p3_5 a.2.2.1.2.2.2.2.length q3_5] 53)) W → RdL holdC W p3_5 q3_5 a.2.2.1.2.2.2.2) := fun W h => RH1.out W (Below.step (Below.step BO hal) h)
        replace BW := Below.step BW hal
        replace BO := Below.step BO hal
        clear hal RDL2
        by_cases hlen : (lefN x m 1).length = a.2.2.1.2.2.2.2.length
        case neg =>
          have d : (((lefN x m 1).length : Int) != (a.2.2.1.2.2.2.2.length : Int)) = true := by rw [bne_iff_ne]; omega
          have hz : Hid (hrB x = false) := by show _ = _; rw [HR0.out]; exact hldB_false ha.out (fun h => hlen (by rw [h.1]))
          clear hlen
          go_wp2_with fail
          go_ret
          exact ⟨by rw [hz.out]; rfl, Below.step B0 BW⟩
        have d : (((lefN x m 1).length : Int) != (a.2.2.1.2.2.2.2.length : Int)) = false := by rw [bne_eq_false_iff_eq]; omega
        have HLE : Hid ((lefN x m 1).length = a.2.2.1.2.2.2.2.length) := hlen
        clear hlen
        go_wp2_with fail
        clear y4
        obtain ⟨VC, HVC⟩ : ∃ VC, Hid (wb.alloc (.cells #[.slice p3_1 a.2.2.1.1.length q3_1, .int .i64 a.2.2.1.2.1, .slice p3_3 a.2.2.1.2.2.1.length q3_3, .slice p3_4 a.2.2.1.2.2.2.1.length q3_4, .slice p3_5 a.2.2.1.2.2.2.2.length q3_5] 53) = VC) := ⟨_, rfl⟩
        have HYB : Hid (wb.heap.size < VC.heap.size) := by show _ < _; rw [← HVC.out, size_alloc]; omega
        rw [HVC.out] at Y R RLL RHH BW BO ⊢
        go_loopw [7] (fun i wr => ∃ j : Nat, j ≤ (lefN x m 1).length ∧ i = .int .i64 j ∧ (∀ t, t < j → (lefN x m 1)[t]? = (a.2.2.1.2.2.2.2)[t]?) ∧ Arr wr wb.heap.size 53 [.slice p3_1 a.2.2.1.1.length q3_1, .int .i64 a.2.2.1.2.1, .slice p3_3 a.2.2.1.2.2.1.length q3_3, .slice p3_4 a.2.2.1.2.2.2.1.length q3_4, .slice p3_5 a.2.2.1.2.2.2.2.length q3_5] ∧ Below VC.heap.size VC wr)
          (fun i _ => (lefN x m 1).length - (intOf i).toNat)
        case atStart => exact ⟨0, Nat.zero_le _, rfl, fun t h => absurd h (Nat.not_lt_zero t), Y, Below.refl _ _⟩
        case round =>
          clear Y
          obtain ⟨j, hj, rfl, hjall, Y, BB⟩ := hrel
          obtain ⟨wq, hwq⟩ : ∃ z, z = wr := ⟨_, rfl⟩
          subst hwq
          by_cases hlt2 : j < (lefN x m 1).length
          · have hI2 : (j : Int) < (((lefN x m 1).length : Nat) : Int) := by omega
            have hI3 : (j : Int) < ((a.2.2.1.2.2.2.2.length : Nat) : Int) := by have := HLE.out; omega
            obtain ⟨bl, ol, el, hcl⟩ := (RLL.out _ BB).2.2.2 (by omega)
            obtain ⟨bh, oh, eh, hch⟩ := (RHH.out _ BB).2.2.2 (by omega)
            subst el
            obtain ⟨h, hh⟩ : ∃ h, (lefN x m 1)[j]? = some h := ⟨(lefN x m 1)[j], by simp [hlt2]⟩
            obtain ⟨c, hc⟩ : ∃ c, (a.2.2.1.2.2.2.2)[j]? = some c := ⟨(a.2.2.1.2.2.2.2)[j]'(by have := HLE.out; omega), by simp⟩
            obtain ⟨us, hrep, hcell⟩ := hcl j h hh
            obtain rfl := hold_rep hrep
            obtain ⟨us2, hrep2, hcell2⟩ := hch j c hc
            obtain rfl := hold_rep hrep2
            have m0 := hcell 0 _ rfl
            have m1 := hcell 1 _ rfl
            have n0 := hcell2 0 _ rfl
            have n1 := hcell2 1 _ rfl
            rw [show holdC.n = 2 from rfl] at m0 m1 n0 n1
            rw [Nat.add_zero] at m0 n0
            have HH : Hid ((lefN x m 1)[j]? = some h) := hh
            have HC2 : Hid ((a.2.2.1.2.2.2.2)[j]? = some c) := hc
            have y4 := (Y.cell 4).trans (show _ = some _ from rfl)
            rw [eh] at y4
            clear hcl hch hrep hrep2 hcell hcell2 hh hc eh
            by_cases hac : h = c
            · have hall2 : Hid (∀ t, t < j + 1 → (lefN x m 1)[t]? = (a.2.2.1.2.2.2.2)[t]?) := fun t ht => by
                by_cases htj : t < j
                · exact hjall t htj
                · have e : t = j := by omega
                  rw [e, HH.out, HC2.out, hac]
              subst hac
              clear hjall HH HC2
              go_wp2_with fail
              go_quiet (fail)
              have hbq : Below wq.heap.size wq (wq.drewN nq) := ⟨rfl, rfl, rfl, Nat.le_refl _, fun _ _ => rfl⟩
              replace Y := Y.stay hbq
              replace BB := Below.step BB hbq
              clear hbq m0 m1 n0 n1 y4
              generalize wq.drewN nq = wv at *
              clear wq
              obtain ⟨wq, hwq⟩ : ∃ z, z = wv := ⟨_, rfl⟩
              subst hwq
              go_wp2_with fail
              go_roundw
              case rel => exact ⟨j + 1, by omega, by go_num, hall2.out, Y, BB⟩
              case measure => simp [intOf]; omega
            · have hz : Hid (hrB x = false) := by
                show _ = _
                rw [HR0.out]
                refine hldB_false ha.out (fun h2 => hac ?_)
                have h3 := HC2.out
                rw [h2.1, HH.out] at h3
                exact Option.some.inj h3
              clear hjall HH HC2
              by_cases hx : h.1 = c.1
              · have hy : ¬ h.2 = c.2 := fun e => hac (Prod.ext hx e)
                clear hac
                go_wp2_with fail
                go_quiet (fail)
                have hbq : Below wq.heap.size wq (wq.drewN nq) := ⟨rfl, rfl, rfl, Nat.le_refl _, fun _ _ => rfl⟩
                replace Y := Y.stay hbq
                replace BB := Below.step BB hbq
                clear hbq m0 m1 n0 n1 y4
                generalize wq.drewN nq = wv at *
                clear wq
                obtain ⟨wq, hwq⟩ : ∃ z, z = wv := ⟨_, rfl⟩
                subst hwq
                go_wp2_with fail
                go_ret
                exact ⟨by rw [hz.out]; rfl, Below.step B0 (Below.step BW BB)⟩
              · clear hac
                go_wp2_with fail
                go_quiet (fail)
                have hbq : Below wq.heap.size wq (wq.drewN nq) := ⟨rfl, rfl, rfl, Nat.le_refl _, fun _ _ => rfl⟩
                replace Y := Y.stay hbq
                replace BB := Below.step BB hbq
                clear hbq m0 m1 n0 n1 y4
                generalize wq.drewN nq = wv at *
                clear wq
                obtain ⟨wq, hwq⟩ : ∃ z, z = wv := ⟨_, rfl⟩
                subst hwq
                go_wp2_with fail
                go_ret
                exact ⟨by rw [hz.out]; rfl, Below.step B0 (Below.step BW BB)⟩
          · have hI2 : ¬ ((j : Int) < (((lefN x m 1).length : Nat) : Int)) := by omega
            have HE1 : Hid (a.2.2.1.2.2.2.2 = lefN x m 1) := by
              show _ = _
              refine List.ext_getElem? fun t => ?_
              by_cases ht : t < j
              · exact (hjall t ht).symm
              · rw [List.getElem?_eq_none (by have := HLE.out; omega), List.getElem?_eq_none (by omega)]
            replace R := R.stay BB
            replace BW := Below.step BW BB
            replace BO := Below.step BO BB
            clear hjall Y BB HVC
            go_wp2_with fail
            go_roundw
            case rel => exact ⟨2, by omega, by omega, by go_num, fun _ => HE1.out, fun h => absurd h (by omega), R, BO, BW⟩
            case measure => simp [intOf]
      by_cases hr2 : r = 2
      · subst hr2
        have HLR : Hid ((lefN x m 2).length ≤ 1000) := Nat.le_trans (lefN_len HCT.out _ _) HLN.out
        obtain ⟨W0, hW0⟩ : ∃ z, z = wr := ⟨_, rfl⟩
        subst hW0
        go_wp2_with fail
        refine (HLF.out _ BW m 2 (by omega)).mono ?_
        rintro e wa ⟨v, rfl, hrow, hba⟩
        obtain ⟨pl, ql, rfl, -⟩ := ownsRow_raw hrow
        have RDL : Hid (RdL holdC wa pl ql (lefN x m 2)) := rdl_held hrow rfl
        replace R := R.stay hba
        replace BW := Below.step BW hba
        replace BO := Below.step BO hba
        clear hba hrow
        have c4 := (R.cell 4).trans (show _ = some _ from rfl)
        go_wp2_with fail
        refine (HS2.out _ BO).mono ?_
        rintro e wb ⟨rfl, hbb⟩
        have RDL2 : Hid (RdL holdC wb pl ql (lefN x m 2)) := RDL.out.keep hbb
        have hlq : (lefN x m 2).length ≤ ql := RDL2.out.1
        have hzq : ql ≤ 2 ^ 63 - 1 := RDL2.out.2.1
        have hlh : a.2.2.2.2.2.2.2.length ≤ q4_5 := (RH2.out _ BO).1
        have hzh : q4_5 ≤ 2 ^ 63 - 1 := (RH2.out _ BO).2.1
        replace R := R.stay hbb
        replace BW := Below.step BW hbb
        replace BO := Below.step BO hbb
        clear hbb c4 RDL
        have hal := alloc_below wb (.cells #[.slice p4_1 a.2.2.2.1.length q4_1, .int .i64 a.2.2.2.2.1, .slice p4_3 a.2.2.2.2.2.1.length q4_3, .slice p4_4 a.2.2.2.2.2.2.1.length q4_4, .slice p4_5 a.2.2.2.2.2.2.2.length q4_5] 53)
        have Y := Arr.new wb [.slice p4_1 a.2.2.2.1.length q4_1, .int .i64 a.2.2.2.2.1, .slice p4_3 a.2.2.2.2.2.1.length q4_3, .slice p4_4 a.2.2.2.2.2.2.1.length q4_4, .slice p4_5 a.2.2.2.2.2.2.2.length q4_5] 53
        have y4 := (Y.cell 4).trans (show _ = some _ from rfl)
        replace R := R.stay hal
        have RLL : Hid (∀ W, Below (wb.alloc (.cells #[.slice p4_1 a.2.2.2.1.length q4_1, .int .i64 a.2.2.2.2.1, .slice p4_3 a.2.2.2.2.2.1.length q4_3, .slice p4_4 a.2.2.2.2.2.2.1.length q4_4, .slice p4_5 a.2.2.2.2.2.2.2.length q4_5] 53)).heap.size (wb.alloc (.cells #[.slice p4_1 a.2.2.2.1.length q4_1, .int .i64 a.2.2.2.2.1, .slice p4_3 a.2.2.2.2.2.1.length q4_3, .slice p4_4 a.2.2.2.2.2.2.1.length q4_4, .slice p4_5 a.2.2.2.2.2.2.2.length q4_5] 53)) W → RdL holdC W pl ql (lefN x m 2)) := fun W h => (RDL2.out.keep hal).keep h
        have RHH : Hid (∀ W, Below (wb.alloc (.cells #[.slice p4_1 a.2.2.2.1.length q4_1, .int .i64 a.2.2.2.2.1, .slice p4_3 a.2.2.2.2.2.1.length q4_3, .slice p4_4 a.2.2.2.2.2.2.1.length q4_4, .slice p4_5 a.2.2.2.2.2.2.2.length q4_5] 53)).heap.size (wb.alloc (.cells #[.slice p4_1 a.2.2.2.1.length q4_1, .int .i64 a.2.2.2.2.1, .slice p4_3 a.2.2.2.2.2.1.length q4_3, .slice p4_4 a.2.2.2.2.2.2.1.length q4_4, .slice p4_5 a.2.2.2.2.2.2.2.length q4_5] 53)) W → RdL holdC W p4_5 q4_5 a.2.2.2.2.2.2.2) := fun W h => RH2.out W (Below.step (Below.step BO hal) h)
        replace BW := Below.step BW hal
        replace BO := Below.step BO hal
        clear hal RDL2
        by_cases hlen : (lefN x m 2).length = a.2.2.2.2.2.2.2.length
        case neg =>
          have d : (((lefN x m 2).length : Int) != (a.2.2.2.2.2.2.2.length : Int)) = true := by rw [bne_iff_ne]; omega
          have hz : Hid (hrB x = false) := by show _ = _; rw [HR0.out]; exact hldB_false ha.out (fun h => hlen (by rw [h.2]))
          clear hlen
          go_wp2_with fail
          go_ret
          exact ⟨by rw [hz.out]; rfl, Below.step B0 BW⟩
        have d : (((lefN x m 2).length : Int) != (a.2.2.2.2.2.2.2.length : Int)) = false := by rw [bne_eq_false_iff_eq]; omega
        have HLE : Hid ((lefN x m 2).length = a.2.2.2.2.2.2.2.length) := hlen
        clear hlen
        go_wp2_with fail
        clear y4
        obtain ⟨VC, HVC⟩ : ∃ VC, Hid (wb.alloc (.cells #[.slice p4_1 a.2.2.2.1.length q4_1, .int .i64 a.2.2.2.2.1, .slice p4_3 a.2.2.2.2.2.1.length q4_3, .slice p4_4 a.2.2.2.2.2.2.1.length q4_4, .slice p4_5 a.2.2.2.2.2.2.2.length q4_5] 53) = VC) := ⟨_, rfl⟩
        have HYB : Hid (wb.heap.size < VC.heap.size) := by show _ < _; rw [← HVC.out, size_alloc]; omega
        rw [HVC.out] at Y R RLL RHH BW BO ⊢
        go_loopw [7] (fun i wr => ∃ j : Nat, j ≤ (lefN x m 2).length ∧ i = .int .i64 j ∧ (∀ t, t < j → (lefN x m 2)[t]? = (a.2.2.2.2.2.2.2)[t]?) ∧ Arr wr wb.heap.size 53 [.slice p4_1 a.2.2.2.1.length q4_1, .int .i64 a.2.2.2.2.1, .slice p4_3 a.2.2.2.2.2.1.length q4_3, .slice p4_4 a.2.2.2.2.2.2.1.length q4_4, .slice p4_5 a.2.2.2.2.2.2.2.length q4_5] ∧ Below VC.heap.size VC wr)
          (fun i _ => (lefN x m 2).length - (intOf i).toNat)
        case atStart => exact ⟨0, Nat.zero_le _, rfl, fun t h => absurd h (Nat.not_lt_zero t), Y, Below.refl _ _⟩
        case round =>
          clear Y
          obtain ⟨j, hj, rfl, hjall, Y, BB⟩ := hrel
          obtain ⟨wq, hwq⟩ : ∃ z, z = wr := ⟨_, rfl⟩
          subst hwq
          by_cases hlt2 : j < (lefN x m 2).length
          · have hI2 : (j : Int) < (((lefN x m 2).length : Nat) : Int) := by omega
            have hI3 : (j : Int) < ((a.2.2.2.2.2.2.2.length : Nat) : Int) := by have := HLE.out; omega
            obtain ⟨bl, ol, el, hcl⟩ := (RLL.out _ BB).2.2.2 (by omega)
            obtain ⟨bh, oh, eh, hch⟩ := (RHH.out _ BB).2.2.2 (by omega)
            subst el
            obtain ⟨h, hh⟩ : ∃ h, (lefN x m 2)[j]? = some h := ⟨(lefN x m 2)[j], by simp [hlt2]⟩
            obtain ⟨c, hc⟩ : ∃ c, (a.2.2.2.2.2.2.2)[j]? = some c := ⟨(a.2.2.2.2.2.2.2)[j]'(by have := HLE.out; omega), by simp⟩
            obtain ⟨us, hrep, hcell⟩ := hcl j h hh
            obtain rfl := hold_rep hrep
            obtain ⟨us2, hrep2, hcell2⟩ := hch j c hc
            obtain rfl := hold_rep hrep2
            have m0 := hcell 0 _ rfl
            have m1 := hcell 1 _ rfl
            have n0 := hcell2 0 _ rfl
            have n1 := hcell2 1 _ rfl
            rw [show holdC.n = 2 from rfl] at m0 m1 n0 n1
            rw [Nat.add_zero] at m0 n0
            have HH : Hid ((lefN x m 2)[j]? = some h) := hh
            have HC2 : Hid ((a.2.2.2.2.2.2.2)[j]? = some c) := hc
            have y4 := (Y.cell 4).trans (show _ = some _ from rfl)
            rw [eh] at y4
            clear hcl hch hrep hrep2 hcell hcell2 hh hc eh
            by_cases hac : h = c
            · have hall2 : Hid (∀ t, t < j + 1 → (lefN x m 2)[t]? = (a.2.2.2.2.2.2.2)[t]?) := fun t ht => by
                by_cases htj : t < j
                · exact hjall t htj
                · have e : t = j := by omega
                  rw [e, HH.out, HC2.out, hac]
              subst hac
              clear hjall HH HC2
              go_wp2_with fail
              go_quiet (fail)
              have hbq : Below wq.heap.size wq (wq.drewN nq) := ⟨rfl, rfl, rfl, Nat.le_refl _, fun _ _ => rfl⟩
              replace Y := Y.stay hbq
              replace BB := Below.step BB hbq
              clear hbq m0 m1 n0 n1 y4
              generalize wq.drewN nq = wv at *
              clear wq
              obtain ⟨wq, hwq⟩ : ∃ z, z = wv := ⟨_, rfl⟩
              subst hwq
              go_wp2_with fail
              go_roundw
              case rel => exact ⟨j + 1, by omega, by go_num, hall2.out, Y, BB⟩
              case measure => simp [intOf]; omega
            · have hz : Hid (hrB x = false) := by
                show _ = _
                rw [HR0.out]
                refine hldB_false ha.out (fun h2 => hac ?_)
                have h3 := HC2.out
                rw [h2.2, HH.out] at h3
                exact Option.some.inj h3
              clear hjall HH HC2
              by_cases hx : h.1 = c.1
              · have hy : ¬ h.2 = c.2 := fun e => hac (Prod.ext hx e)
                clear hac
                go_wp2_with fail
                go_quiet (fail)
                have hbq : Below wq.heap.size wq (wq.drewN nq) := ⟨rfl, rfl, rfl, Nat.le_refl _, fun _ _ => rfl⟩
                replace Y := Y.stay hbq
                replace BB := Below.step BB hbq
                clear hbq m0 m1 n0 n1 y4
                generalize wq.drewN nq = wv at *
                clear wq
                obtain ⟨wq, hwq⟩ : ∃ z, z = wv := ⟨_, rfl⟩
                subst hwq
                go_wp2_with fail
                go_ret
                exact ⟨by rw [hz.out]; rfl, Below.step B0 (Below.step BW BB)⟩
              · clear hac
                go_wp2_with fail
                go_quiet (fail)
                have hbq : Below wq.heap.size wq (wq.drewN nq) := ⟨rfl, rfl, rfl, Nat.le_refl _, fun _ _ => rfl⟩
                replace Y := Y.stay hbq
                replace BB := Below.step BB hbq
                clear hbq m0 m1 n0 n1 y4
                generalize wq.drewN nq = wv at *
                clear wq
                obtain ⟨wq, hwq⟩ : ∃ z, z = wv := ⟨_, rfl⟩
                subst hwq
                go_wp2_with fail
                go_ret
                exact ⟨by rw [hz.out]; rfl, Below.step B0 (Below.step BW BB)⟩
          · have hI2 : ¬ ((j : Int) < (((lefN x m 2).length : Nat) : Int)) := by omega
            have HE1 : Hid (a.2.2.2.2.2.2.2 = lefN x m 2) := by
              show _ = _
              refine List.ext_getElem? fun t => ?_
              by_cases ht : t < j
              · exact (hjall t ht).symm
              · rw [List.getElem?_eq_none (by have := HLE.out; omega), List.getElem?_eq_none (by omega)]
            replace R := R.stay BB
            replace BW := Below.step BW BB
            replace BO := Below.step BO BB
            clear hjall Y BB HVC
            go_wp2_with fail
            go_roundw
            case rel => exact ⟨3, by omega, by omega, by go_num, fun _ => k1 (Nat.le_refl _), fun _ => HE1.out, R, BO, BW⟩
            case measure => simp [intOf]
      have hr4 : r = 3 := by omega
      subst hr4
      have HE1 : Hid (a.2.2.1.2.2.2.2 = lefN x m 1) := k1 (by omega)
      have HE2 : Hid (a.2.2.2.2.2.2.2 = lefN x m 2) := k2 (by omega)
      have hall2 : Hid (∀ (j : Nat) a, j < m + 1 → x.2.2.2.2.1[j]? = some a → a.2.2.1.2.2.2.2 = lefN x j 1 ∧ a.2.2.2.2.2.2.2 = lefN x j 2) := fun j b hj h => by
        by_cases hjk : j < m
        · exact hall j b hjk h
        · have e2 : j = m := by omega
          subst e2
          rw [ha.out] at h
          cases h
          exact ⟨HE1.out, HE2.out⟩
      clear k1 k2 hall BO HE1 HE2
      go_wp2_with fail
      go_roundw
      case rel => exact ⟨m + 1, by omega, by go_num, hall2.out, R, BW⟩
      case measure => simp [intOf]; omega
end Go.Proofs.YthiabbgkfmopiaaGreat

