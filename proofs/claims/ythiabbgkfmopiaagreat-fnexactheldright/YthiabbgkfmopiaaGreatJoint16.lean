/- The contracts of the specification's l12Unpack, UnpackCert, LookCert, at every argument (written by tools/cert_t.py). What was there stays. -/
import Derived.Test.YthiabbgkfmopiaaGreatJoint15
import Derived.Test.YthiabbgkfmopiaaGreatJoint7
namespace Go.Proofs.YthiabbgkfmopiaaGreat
open Go.ChangeShapes Go.WideShapes Go.ChangeAt Go.RowKit

abbrev aggC (r : Int × CertD) : Value := .agg #[.int .i64 r.1, .int .i64 r.2.1, .int .i64 r.2.2.1, .int .i64 r.2.2.2]
theorem wrap_u8 (x : UInt8) : wrap64 (x.toNat : Int) = x.toNat := by unfold wrap64; have := x.toNat_lt; omega
theorem getB_two (c d : UInt8) : ((getB [c, d] : Nat) : Int) = c.toNat * 256 + d.toNat := by simp [getB]
theorem ucD_bad {a b c d : UInt8} (h : okC (rdC a b c d) = false) : ucD [a, b, c, d] = (5, zC) := by show (if okC (rdC a b c d) then _ else _) = _; rw [h]; rfl
theorem ucD_good {a b c d : UInt8} (h : okC (rdC a b c d) = true) : ucD [a, b, c, d] = (0, rdC a b c d) := by show (if okC (rdC a b c d) then _ else _) = _; rw [h]; rfl
end Go.Proofs.YthiabbgkfmopiaaGreat

/- The contracts of the certificates in the program: isCertId, isOwner, isGiver, isCertUntil, isCert, certOf, CertsFault, PackCert, UnpackCert, LookCert, at every argument. What was there stays. -/
namespace Go.Proofs.YthiabbgkfmopiaaGreat
open Go.ChangeShapes Go.WideShapes Go.ChangeAt Go.RowKit

theorem isCertId_c (v : Int) (w : World) : Calls Tryz.prog 72 #[.int .i64 v] w fun e w' => e = .returned (.bool (inB v 1 99)) ∧ w' = w := by
  by_cases h1 : 1 ≤ v
  · by_cases h2 : v ≤ 99
    · rw [inB_true h1 h2]
      go_enter Tryz.func72, Tryz.ntmps72
      go_wp2
      go_ret
      exact ⟨rfl, rfl⟩
    · rw [inB_false (by omega)]
      go_enter Tryz.func72, Tryz.ntmps72
      go_wp2
      go_ret
      exact ⟨rfl, rfl⟩
  · rw [inB_false (by omega)]
    go_enter Tryz.func72, Tryz.ntmps72
    go_wp2
    go_ret
    exact ⟨rfl, rfl⟩
theorem isOwner_c (v : Int) (w : World) : Calls Tryz.prog 85 #[.int .i64 v] w fun e w' => e = .returned (.bool (inB v 1 9)) ∧ w' = w := by
  by_cases h1 : 1 ≤ v
  · by_cases h2 : v ≤ 9
    · rw [inB_true h1 h2]
      go_enter Tryz.func85, Tryz.ntmps85
      go_wp2
      go_ret
      exact ⟨rfl, rfl⟩
    · rw [inB_false (by omega)]
      go_enter Tryz.func85, Tryz.ntmps85
      go_wp2
      go_ret
      exact ⟨rfl, rfl⟩
  · rw [inB_false (by omega)]
    go_enter Tryz.func85, Tryz.ntmps85
    go_wp2
    go_ret
    exact ⟨rfl, rfl⟩
theorem isCertUntil_c (v : Int) (w : World) : Calls Tryz.prog 86 #[.int .i64 v] w fun e w' => e = .returned (.bool (inB v 0 9999)) ∧ w' = w := by
  by_cases h1 : 0 ≤ v
  · by_cases h2 : v ≤ 9999
    · rw [inB_true h1 h2]
      go_enter Tryz.func86, Tryz.ntmps86
      go_wp2
      go_ret
      exact ⟨rfl, rfl⟩
    · rw [inB_false (by omega)]
      go_enter Tryz.func86, Tryz.ntmps86
      go_wp2
      go_ret
      exact ⟨rfl, rfl⟩
  · rw [inB_false (by omega)]
    go_enter Tryz.func86, Tryz.ntmps86
    go_wp2
    go_ret
    exact ⟨rfl, rfl⟩
set_option maxRecDepth 4000 in
set_option maxHeartbeats 400000 in
theorem isCert_c (c : CertD) (w : World) :
    Calls Tryz.prog 71 #[.agg #[.int .i64 c.1, .int .i64 c.2.1, .int .i64 c.2.2]] w fun e w' => e = .returned (.bool (okC c)) ∧ Below w.heap.size w w' := by
  cases h1 : inB c.1 1 99
  · rw [show okC c = false by simp [okC, h1]]
    go_enter Tryz.func71, Tryz.ntmps71
    go_wp2_with fail
    refine (isCertId_c _ _).mono ?_
    rintro e w' ⟨rfl, hw⟩
    subst hw
    rw [h1]
    go_wp2
    go_ret
    exact ⟨rfl, alloc_below _ _⟩
  · cases h2 : inB c.2.1 1 9
    · rw [show okC c = false by simp [okC, h2]]
      go_enter Tryz.func71, Tryz.ntmps71
      go_wp2_with fail
      refine (isCertId_c _ _).mono ?_
      rintro e w' ⟨rfl, hw⟩
      subst hw
      rw [h1]
      go_wp2_with fail
      refine (isOwner_c _ _).mono ?_
      rintro e w' ⟨rfl, hw⟩
      subst hw
      rw [h2]
      go_wp2
      go_ret
      exact ⟨rfl, alloc_below _ _⟩
    · rw [show okC c = inB c.2.2 0 9999 by simp [okC, h1, h2]]
      go_enter Tryz.func71, Tryz.ntmps71
      go_wp2_with fail
      refine (isCertId_c _ _).mono ?_
      rintro e w' ⟨rfl, hw⟩
      subst hw
      rw [h1]
      go_wp2_with fail
      refine (isOwner_c _ _).mono ?_
      rintro e w' ⟨rfl, hw⟩
      subst hw
      rw [h2]
      go_wp2_with fail
      refine (isCertUntil_c _ _).mono ?_
      rintro e w' ⟨rfl, hw⟩
      subst hw
      go_wp2
      go_ret
      exact ⟨rfl, alloc_below _ _⟩
set_option maxRecDepth 4000 in
set_option maxHeartbeats 1000000 in
theorem certOf_c (l : List CertD) (p : Option Addr) (q : Nat) (id : Int) (w : World) (hr : RdL certC w p q l) :
    Calls Tryz.prog 56 #[.slice p l.length q, .int .i64 id] w fun e w' => e = .returned (.agg #[.int .i64 (foC l id).1, .int .i64 (foC l id).2.1, .int .i64 (foC l id).2.2]) ∧ Below w.heap.size w w' := by
  have HR : Hid (RdL certC w p q l) := hr
  have hq1 : l.length ≤ q := hr.1
  have hq2 : q ≤ 2 ^ 63 - 1 := hr.2.1
  have BW := alloc_below w (.cells #[.int .i64 0, .int .i64 0, .int .i64 0] 103)
  have R := Arr.new w [.int .i64 0, .int .i64 0, .int .i64 0] 103
  clear hr
  go_enter Tryz.func56, Tryz.ntmps56
  go_wp2
  go_loopw [9] (fun i wr => ∃ k : Nat, k ≤ l.length ∧ i = .int .i64 k ∧ hasC (l.take k) id = false ∧ Arr wr w.heap.size 103 [.int .i64 0, .int .i64 0, .int .i64 0] ∧ Below w.heap.size w wr)
    (fun i _ => l.length - (intOf i).toNat)
  case atStart => exact ⟨0, Nat.zero_le _, rfl, hasC_zero _ _, R, BW⟩
  case round =>
    clear R BW
    obtain ⟨k, hk, rfl, hn, R, BW⟩ := hrel
    by_cases hlt : k < l.length
    · have hI : (k : Int) < (l.length : Int) := by omega
      obtain ⟨b, o, e1, hc⟩ := (HR.out.keep BW).2.2.2 (by omega)
      subst e1
      obtain ⟨a, ha⟩ : ∃ a, l[k]? = some a := ⟨l[k], by simp [hlt]⟩
      obtain ⟨us, hrep, hcell⟩ := hc k a ha
      obtain rfl := cert_rep hrep
      have c0 := hcell 0 _ rfl
      have c1 := hcell 1 _ rfl
      have c2 := hcell 2 _ rfl
      rw [show certC.n = 3 from rfl] at c0 c1 c2
      rw [Nat.add_zero] at c0
      have R2 := R.old _ (.cells #[.int .i64 a.1, .int .i64 a.2.1, .int .i64 a.2.2] 103)
      have B2 := Below.mk BW (.cells #[.int .i64 a.1, .int .i64 a.2.1, .int .i64 a.2.2] 103)
      have r0 := R2.cell 0
      have r1 := R2.cell 1
      have r2 := R2.cell 2
      have fr := R2.frozen
      simp at r0 r1 r2
      clear hc hcell hrep R
      by_cases he : a.1 = id
      · have d : (a.1 == id) = true := by rw [beq_iff_eq]; exact he
        have HE : Hid (foC l id = a) := foC_at ha hn he
        clear he hn
        go_wp2_with fail
        refine bodyPost_ret (v := .agg #[.int .i64 a.1, .int .i64 a.2.1, .int .i64 a.2.2]) (by simp [results, Tryz.results56, go_sem, r0, r1, r2]) rfl ⟨by rw [HE.out], ?_⟩
        exact ((B2.setCell (Nat.le_refl _) _).setCell (Nat.le_refl _) _).setCell (Nat.le_refl _) _
      · have d : (a.1 == id) = false := by rw [beq_eq_false_iff_ne]; exact he
        have hn2 : Hid (hasC (l.take (k + 1)) id = false) := by show _ = _; rw [hasC_take ha, hn, d]; rfl
        clear he hn
        go_wp2_with fail
        go_roundw
        case rel => exact ⟨k + 1, by omega, by go_num, hn2.out, R2, B2⟩
        case measure => simp [intOf]; omega
    · have e : k = l.length := by omega
      subst e
      rw [List.take_length] at hn
      have HE : Hid (foC l id = zC) := foC_none hn
      have r0 := R.cell 0
      have r1 := R.cell 1
      have r2 := R.cell 2
      have fr := R.frozen
      simp at r0 r1 r2
      go_wp2_with fail
      refine bodyPost_ret (v := .agg #[.int .i64 0, .int .i64 0, .int .i64 0]) (by simp [results, Tryz.results56, go_sem, r0, r1, r2]) rfl ⟨by rw [HE.out]; rfl, ?_⟩
      exact ((BW.setCell (Nat.le_refl _) _).setCell (Nat.le_refl _) _).setCell (Nat.le_refl _) _
end Go.Proofs.YthiabbgkfmopiaaGreat

/- The contracts of the program's CertsFault, PackCert, UnpackCert, LookCert, at every argument (written by tools/cert_i.py). What was there stays. -/
namespace Go.Proofs.YthiabbgkfmopiaaGreat
open Go.ChangeShapes Go.WideShapes Go.ChangeAt Go.RowKit

theorem or_certs (x y : UInt8) : bits .or .i64 ((x.toNat : Int) * 256) (y.toNat : Int) = (x.toNat : Int) * 256 + y.toNat := by
  have hx := x.toNat_lt
  have hy := y.toNat_lt
  have e : ∀ n : Nat, n < 18446744073709551616 → (BitVec.ofInt 64 (n : Int)).toNat = n := fun n hn => by rw [BitVec.toNat_ofInt]; omega
  have h2 : y.toNat < 2 ^ 8 := by omega
  rw [show ((x.toNat : Int) * 256) = ((x.toNat * 256 : Nat) : Int) by omega]
  show IntKind.i64.wrap ((BitVec.ofInt 64 ((x.toNat * 256 : Nat) : Int) ||| BitVec.ofInt 64 (y.toNat : Int)).toNat : Int) = _
  rw [BitVec.toNat_or, e _ (by omega), e _ (by omega), show x.toNat * 256 = x.toNat <<< 8 by rw [Nat.shiftLeft_eq], ← Nat.shiftLeft_add_eq_or_of_lt h2, Nat.shiftLeft_eq, IntKind.wrap_i64]
  omega
theorem RdL.front {α : Type} {c : Cod α} {w : World} {p : Option Addr} {q : Nat} {l : List α} (h : RdL c w p q l) (n : Nat) : RdL c w p q (l.take n) := by
  obtain ⟨h1, h2, h3, h4⟩ := h
  refine ⟨by rw [List.length_take]; omega, h2, h3, fun hp => ?_⟩
  obtain ⟨b, o, rfl, hc⟩ := h4 (by rw [List.length_take] at hp; omega)
  refine ⟨b, o, rfl, fun i a hi => hc i a ?_⟩
  have hlt := (List.getElem?_eq_some_iff.1 hi).1
  rw [List.length_take] at hlt
  rw [List.getElem?_take_of_lt (by omega)] at hi
  exact hi
set_option maxRecDepth 4000 in
set_option maxHeartbeats 1000000 in
theorem implCt_c (l : List CertD) (p : Option Addr) (q : Nat) (w : World) (hr : RdL certC w p q l) :
    Calls Tryz.prog 52 #[.slice p l.length q] w fun e w' => e = .returned (.int .i64 (ctC l)) ∧ Below w.heap.size w w' := by
  have HR : Hid (RdL certC w p q l) := hr
  have hq1 : l.length ≤ q := hr.1
  have hq2 : q ≤ 2 ^ 63 - 1 := hr.2.1
  clear hr
  by_cases hl : l.length ≤ 8
  · have hlI : ¬ (8 < (l.length : Int)) := by omega
    have HC : Hid (ctC l = cgC [] l) := by show _ = _; rw [ctC, if_pos hl]
    go_enter Tryz.func52, Tryz.ntmps52
    go_wp2
    go_loopw [10] (fun i wr => ∃ k : Nat, k ≤ l.length ∧ i = .int .i64 k ∧ ctC l = cgC (l.take k) (l.drop k) ∧ Below w.heap.size w wr)
      (fun i _ => l.length - (intOf i).toNat)
    case atStart => exact ⟨0, Nat.zero_le _, rfl, HC.out, Below.refl _ _⟩
    case round =>
      obtain ⟨k, hk, rfl, hn, BW⟩ := hrel
      by_cases hlt : k < l.length
      · have hI : (k : Int) < (l.length : Int) := by omega
        obtain ⟨b, o, e1, hc⟩ := (HR.out.keep BW).2.2.2 (by omega)
        subst e1
        obtain ⟨a, ha⟩ : ∃ a, l[k]? = some a := ⟨l[k], by simp [hlt]⟩
        obtain ⟨us, hrep, hcell⟩ := hc k a ha
        obtain rfl := cert_rep hrep
        have c0 := hcell 0 _ rfl
        have c1 := hcell 1 _ rfl
        have c2 := hcell 2 _ rfl
        rw [show certC.n = 3 from rfl] at c0 c1 c2
        rw [Nat.add_zero] at c0
        have A := Arr.new wr [.int .i64 a.1, .int .i64 a.2.1, .int .i64 a.2.2] 103
        have B2 := Below.mk BW (.cells #[.int .i64 a.1, .int .i64 a.2.1, .int .i64 a.2.2] 103)
        have K1 : Hid (Calls Tryz.prog 71 #[.agg #[.int .i64 a.1, .int .i64 a.2.1, .int .i64 a.2.2]] (wr.alloc (.cells #[.int .i64 a.1, .int .i64 a.2.1, .int .i64 a.2.2] 103)) fun e w' => e = .returned (.bool (okC a)) ∧ Below (wr.alloc (.cells #[.int .i64 a.1, .int .i64 a.2.1, .int .i64 a.2.2] 103)).heap.size (wr.alloc (.cells #[.int .i64 a.1, .int .i64 a.2.1, .int .i64 a.2.2] 103)) w') := isCert_c a _
        clear hc hcell hrep
        cases ho : okC a
        · have hn2 : Hid (ctC l = 3) := hn.trans (cgC_bad ha ho)
          rw [ho] at K1
          clear hn
          go_wp2_with fail
          refine K1.out.mono ?_
          rintro e w2 ⟨rfl, hb2⟩
          go_wp2
          go_ret
          exact ⟨by rw [hn2.out]; rfl, Below.step B2 hb2⟩
        · rw [ho] at K1
          go_wp2_with fail
          refine K1.out.mono ?_
          rintro e V ⟨rfl, hb2⟩
          have A2 := A.stay hb2
          have B3 := Below.step B2 hb2
          have l0 := (A2.cell 0).trans (show _ = some _ from rfl)
          have KO : Hid (∀ W : World, Below V.heap.size V W → Calls Tryz.prog 56 #[.slice (some ⟨b, o, none⟩) k q, .int .i64 a.1] W fun e w' => e = .returned (.agg #[.int .i64 (foC (l.take k) a.1).1, .int .i64 (foC (l.take k) a.1).2.1, .int .i64 (foC (l.take k) a.1).2.2]) ∧ Below W.heap.size W w') := fun W hW => by
            have h := certOf_c (l.take k) (some ⟨b, o, none⟩) q a.1 W (((HR.out.keep B3).keep hW).front k)
            rw [List.length_take, Nat.min_eq_left hk] at h
            exact h
          obtain ⟨f, hf⟩ : ∃ f, Hid (foC (l.take k) a.1 = f) := ⟨_, rfl⟩
          rw [hf.out] at KO
          clear K1 hb2 A c0 c1 c2 B2 BW
          have HO := okC_parts ho
          cases ht : hasC (l.take k) a.1
          · have hn2 : Hid (ctC l = cgC (l.take (k + 1)) (l.drop (k + 1))) := hn.trans (cgC_step ha ho ht)
            have hz : f = zC := hf.out.symm.trans (foC_none ht)
            subst hz
            clear hn ht HO hf
            go_wp2_with fail
            apply share
            case h =>
              intro JN
              have BB := Below.refl V.heap.size V
              have hne := HW.some V
              have g0 := HW.at (l0)
              refine wp_region_pick [0, 1, 2, 3, 4, 6] 7 1 1 rfl rfl rfl (by kernel_rfl) (by kernel_rfl) (by kernel_rfl) (by kernel_rfl) ?_
              simp only [opsAt, List.getElem?_toArray, List.getElem?_cons_zero, List.getElem?_cons_succ]
              repeat (go_big_quiet_step (fail))
              refine wpQuiet_nil ?_
              clear g0
              refine wpM_only (i := 5) (by kernel_rfl) ?_
              refine mOp_call rfl (by go_simp) 56 _ #[.slice (some ⟨b, o, none⟩) k q, .int .i64 a.1] (fun w => by go_simp) rfl ?_
              rintro _ ⟨sg, rfl⟩
              refine (KO.out _ (Below.step BB sg.h)).mono ?_
              rintro e wg1 ⟨rfl, hbx⟩
              have hbg := Below.step sg.h hbx
              refine ⟨_, rfl, ⟨⟨wg1, hbx⟩, rfl⟩, ?_⟩
              replace BB := Below.step BB hbg
              clear hbg hbx sg
              replace hne := HW.some wg1
              refine wpM_end (by kernel_rfl) rfl (by kernel_rfl) (by decide) ?_
              rintro _ ⟨sz, rfl⟩
              simp only [List.drop_succ_cons, List.drop_zero]
              go_simp
              replace BB := Below.step BB sz.h
              clear hne
              generalize sz.w = W at *
              clear sz
              revert BB
              revert W
              exact JN.out
            case hj =>
            intro W BB
            have B4 := Below.step B3 BB
            go_wp2_with fail
            go_roundw
            case rel => exact ⟨k + 1, by omega, by go_num, hn2.out, B4⟩
            case measure => simp [intOf]; omega
          · have hn2 : Hid (ctC l = 6) := hn.trans (cgC_taken ha ho ht)
            obtain ⟨j, hj, hj2⟩ := foC_mem ht
            rw [hf.out] at hj2
            have d0 : (f.1 == 0) = false := by rw [beq_eq_false_iff_ne]; omega
            clear hn ht hj hj2 HO hf
            go_wp2_with fail
            apply share
            case h =>
              intro JN
              have BB := Below.refl V.heap.size V
              have hne := HW.some V
              have g0 := HW.at (l0)
              refine wp_region_pick [0, 1, 2, 3, 4, 6] 7 1 1 rfl rfl rfl (by kernel_rfl) (by kernel_rfl) (by kernel_rfl) (by kernel_rfl) ?_
              simp only [opsAt, List.getElem?_toArray, List.getElem?_cons_zero, List.getElem?_cons_succ]
              repeat (go_big_quiet_step (fail))
              refine wpQuiet_nil ?_
              clear g0
              refine wpM_only (i := 5) (by kernel_rfl) ?_
              refine mOp_call rfl (by go_simp) 56 _ #[.slice (some ⟨b, o, none⟩) k q, .int .i64 a.1] (fun w => by go_simp) rfl ?_
              rintro _ ⟨sg, rfl⟩
              refine (KO.out _ (Below.step BB sg.h)).mono ?_
              rintro e wg1 ⟨rfl, hbx⟩
              have hbg := Below.step sg.h hbx
              refine ⟨_, rfl, ⟨⟨wg1, hbx⟩, rfl⟩, ?_⟩
              replace BB := Below.step BB hbg
              clear hbg hbx sg
              replace hne := HW.some wg1
              refine wpM_end (by kernel_rfl) rfl (by kernel_rfl) (by decide) ?_
              rintro _ ⟨sz, rfl⟩
              simp only [List.drop_succ_cons, List.drop_zero]
              go_simp
              replace BB := Below.step BB sz.h
              clear hne
              generalize sz.w = W at *
              clear sz
              revert BB
              revert W
              exact JN.out
            case hj =>
            intro W BB
            have B4 := Below.step B3 BB
            go_wp2_with fail
            go_ret
            exact ⟨by rw [hn2.out]; rfl, B4⟩
      · have e : k = l.length := by omega
        subst e
        have hn2 : Hid (ctC l = 0) := hn.trans (cgC_end l)
        clear hn
        go_wp2
        go_ret
        exact ⟨by rw [hn2.out]; rfl, BW⟩
  · have hlI : 8 < (l.length : Int) := by omega
    rw [show ctC l = 2 by rw [ctC, if_neg hl]]
    clear hl
    go_enter Tryz.func52, Tryz.ntmps52
    go_wp2
    go_ret
    exact ⟨rfl, Below.refl _ _⟩
end Go.Proofs.YthiabbgkfmopiaaGreat

