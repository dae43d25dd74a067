/- The contracts of the program's CertsFault, PackCert, UnpackCert, LookCert, at every argument (written by tools/cert_i.py). What was there stays. -/
import Derived.Test.YtklglpmlfboglabCertI
namespace Go.Proofs.Ytklglpmlfboglab
open Go.ChangeShapes Go.WideShapes Go.ChangeAt Go.RowKit

theorem or_certs (x y : UInt8) : bits .or .i64 ((x.toNat : Int) * 256) (y.toNat : Int) = (x.toNat : Int) * 256 + y.toNat := by
  have hx := x.toNat_lt
  have hy := y.toNat_lt
  have e : ∀ n : Nat, n < 18446744073709551616 → (BitVec.ofInt 64 (n : Int)).toNat = n := fun n hn => by rw [BitVec.toNat_ofInt]; omega
  have h2 : y.toNat < 2 ^ 8 := by omega
  rw [show ((x.toNat : Int) * 256) = ((x.toNat * 256 : Nat) : Int) by omega]
  show IntKind.i64.wrap ((BitVec.ofInt 64 ((x.toNat * 256 : Nat) : Int) ||| BitVec.ofInt 64 (y.toNat : Int)).toNat : Int) = _
  rw [BitVec.toNat_or, e _ (by omega), e _ (by omega), show x.toNat * 256 = x.toNat <<< 8 by rw [Nat.shiftLeft_eq], ← Nat.shiftLeft_add_eq_or_of_lt h2, Nat.shiftLeft_eq, IntKind.wrap_i64]
  omega
theorem RdL.front {α : Type} {c : Cod α} {w : World} {p : Option Addr} {q : Nat} {l : List α} (h : RdL c w p q l) (n : Nat) : RdL c w p q (l.take n) := by
  obtain ⟨h1, h2, h3, h4⟩ := h
  refine ⟨by rw [List.length_take]; omega, h2, h3, fun hp => ?_⟩
  obtain ⟨b, o, rfl, hc⟩ := h4 (by rw [List.length_take] at hp; omega)
  refine ⟨b, o, rfl, fun i a hi => hc i a ?_⟩
  have hlt := (List.getElem?_eq_some_iff.1 hi).1
  rw [List.length_take] at hlt
  rw [List.getElem?_take_of_lt (by omega)] at hi
  exact hi
set_option maxRecDepth 4000 in
set_option maxHeartbeats 1000000 in
theorem implCt_c (l : List CertD) (p : Option Addr) (q : Nat) (w : World) (hr : RdL certC w p q l) :
    Calls Try.prog 56 #[.slice p l.length q] w fun e w' => e = .returned (.int .i64 (ctC l)) ∧ Below w.heap.size w w' := by
  have HR : Hid (RdL certC w p q l) := hr
  have hq1 : l.length ≤ q := hr.1
  have hq2 : q ≤ 2 ^ 63 - 1 := hr.2.1
  clear hr
  by_cases hl : l.length ≤ 8
  · have hlI : ¬ (8 < (l.length : Int)) := by omega
    have HC : Hid (ctC l = cgC [] l) := by show _ = _; rw [ctC, if_pos hl]
    go_enter Try.func56, Try.ntmps56
    go_wp2
    go_loopw [10] (fun i wr => ∃ k : Nat, k ≤ l.length ∧ i = .int .i64 k ∧ ctC l = cgC (l.take k) (l.drop k) ∧ Below w.heap.size w wr)
      (fun i _ => l.length - (intOf i).toNat)
    case atStart => exact ⟨0, Nat.zero_le _, rfl, HC.out, Below.refl _ _⟩
    case round =>
      obtain ⟨k, hk, rfl, hn, BW⟩ := hrel
      by_cases hlt : k < l.length
      · have hI : (k : Int) < (l.length : Int) := by omega
        obtain ⟨b, o, e1, hc⟩ := (HR.out.keep BW).2.2.2 (by omega)
        subst e1
        obtain ⟨a, ha⟩ : ∃ a, l[k]? = some a := ⟨l[k], by simp [hlt]⟩
        obtain ⟨us, hrep, hcell⟩ := hc k a ha
        obtain rfl := cert_rep hrep
        have c0 := hcell 0 _ rfl
        have c1 := hcell 1 _ rfl
        have c2 := hcell 2 _ rfl
        rw [show certC.n = 3 from rfl] at c0 c1 c2
        rw [Nat.add_zero] at c0
        have A := Arr.new wr [.int .i64 a.1, .int .i64 a.2.1, .int .i64 a.2.2] 64
        have B2 := Below.mk BW (.cells #[.int .i64 a.1, .int .i64 a.2.1, .int .i64 a.2.2] 64)
        have K1 : Hid (Calls Try.prog 62 #[.agg #[.int .i64 a.1, .int .i64 a.2.1, .int .i64 a.2.2]] (wr.alloc (.cells #[.int .i64 a.1, .int .i64 a.2.1, .int .i64 a.2.2] 64)) fun e w' => e = .returned (.bool (okC a)) ∧ Below (wr.alloc (.cells #[.int .i64 a.1, .int .i64 a.2.1, .int .i64 a.2.2] 64)).heap.size (wr.alloc (.cells #[.int .i64 a.1, .int .i64 a.2.1, .int .i64 a.2.2] 64)) w') := isCert_c a _
        clear hc hcell hrep
        cases ho : okC a
        · have hn2 : Hid (ctC l = 3) := hn.trans (cgC_bad ha ho)
          rw [ho] at K1
          clear hn
          go_wp2_with fail
          refine K1.out.mono ?_
          rintro e w2 ⟨rfl, hb2⟩
          go_wp2
          go_ret
          exact ⟨by rw [hn2.out]; rfl, Below.step B2 hb2⟩
        · rw [ho] at K1
          go_wp2_with fail
          refine K1.out.mono ?_
          rintro e V ⟨rfl, hb2⟩
          have A2 := A.stay hb2
          have B3 := Below.step B2 hb2
          have l0 := (A2.cell 0).trans (show _ = some _ from rfl)
          have KO : Hid (∀ W : World, Below V.heap.size V W → Calls Try.prog 57 #[.slice (some ⟨b, o, none⟩) k q, .int .i64 a.1] W fun e w' => e = .returned (.agg #[.int .i64 (foC (l.take k) a.1).1, .int .i64 (foC (l.take k) a.1).2.1, .int .i64 (foC (l.take k) a.1).2.2]) ∧ Below W.heap.size W w') := fun W hW => by
            have h := certOf_c (l.take k) (some ⟨b, o, none⟩) q a.1 W (((HR.out.keep B3).keep hW).front k)
            rw [List.length_take, Nat.min_eq_left hk] at h
            exact h
          obtain ⟨f, hf⟩ : ∃ f, Hid (foC (l.take k) a.1 = f) := ⟨_, rfl⟩
          rw [hf.out] at KO
          clear K1 hb2 A c0 c1 c2 B2 BW
          have HO := okC_parts ho
          cases ht : hasC (l.take k) a.1
          · have hn2 : Hid (ctC l = cgC (l.take (k + 1)) (l.drop (k + 1))) := hn.trans (cgC_step ha ho ht)
            have hz : f = zC := hf.out.symm.trans (foC_none ht)
            subst hz
            clear hn ht HO hf
            go_wp2_with fail
            apply share
            case h =>
              intro JN
              have BB := Below.refl V.heap.size V
              have hne := HW.some V
              have g0 := HW.at (l0)
              refine wp_region_pick [0, 1, 2, 3, 4, 6] 7 1 1 rfl rfl rfl (by kernel_rfl) (by kernel_rfl) (by kernel_rfl) (by kernel_rfl) ?_
              simp only [opsAt, List.getElem?_toArray, List.getElem?_cons_zero, List.getElem?_cons_succ]
              repeat (go_big_quiet_step (fail))
              refine wpQuiet_nil ?_
              clear g0
              refine wpM_only (i := 5) (by kernel_rfl) ?_
              refine mOp_call rfl (by go_simp) 57 _ #[.slice (some ⟨b, o, none⟩) k q, .int .i64 a.1] (fun w => by go_simp) rfl ?_
              rintro _ ⟨sg, rfl⟩
              refine (KO.out _ (Below.step BB sg.h)).mono ?_
              rintro e wg1 ⟨rfl, hbx⟩
              have hbg := Below.step sg.h hbx
              refine ⟨_, rfl, ⟨⟨wg1, hbx⟩, rfl⟩, ?_⟩
              replace BB := Below.step BB hbg
              clear hbg hbx sg
              replace hne := HW.some wg1
              refine wpM_end (by kernel_rfl) rfl (by kernel_rfl) (by decide) ?_
              rintro _ ⟨sz, rfl⟩
              simp only [List.drop_succ_cons, List.drop_zero]
              go_simp
              replace BB := Below.step BB sz.h
              clear hne
              generalize sz.w = W at *
              clear sz
              revert BB
              revert W
              exact JN.out
            case hj =>
            intro W BB
            have B4 := Below.step B3 BB
            go_wp2_with fail
            go_roundw
            case rel => exact ⟨k + 1, by omega, by go_num, hn2.out, B4⟩
            case measure => simp [intOf]; omega
          · have hn2 : Hid (ctC l = 6) := hn.trans (cgC_taken ha ho ht)
            obtain ⟨j, hj, hj2⟩ := foC_mem ht
            rw [hf.out] at hj2
            have d0 : (f.1 == 0) = false := by rw [beq_eq_false_iff_ne]; omega
            clear hn ht hj hj2 HO hf
            go_wp2_with fail
            apply share
            case h =>
              intro JN
              have BB := Below.refl V.heap.size V
              have hne := HW.some V
              have g0 := HW.at (l0)
              refine wp_region_pick [0, 1, 2, 3, 4, 6] 7 1 1 rfl rfl rfl (by kernel_rfl) (by kernel_rfl) (by kernel_rfl) (by kernel_rfl) ?_
              simp only [opsAt, List.getElem?_toArray, List.getElem?_cons_zero, List.getElem?_cons_succ]
              repeat (go_big_quiet_step (fail))
              refine wpQuiet_nil ?_
              clear g0
              refine wpM_only (i := 5) (by kernel_rfl) ?_
              refine mOp_call rfl (by go_simp) 57 _ #[.slice (some ⟨b, o, none⟩) k q, .int .i64 a.1] (fun w => by go_simp) rfl ?_
              rintro _ ⟨sg, rfl⟩
              refine (KO.out _ (Below.step BB sg.h)).mono ?_
              rintro e wg1 ⟨rfl, hbx⟩
              have hbg := Below.step sg.h hbx
              refine ⟨_, rfl, ⟨⟨wg1, hbx⟩, rfl⟩, ?_⟩
              replace BB := Below.step BB hbg
              clear hbg hbx sg
              replace hne := HW.some wg1
              refine wpM_end (by kernel_rfl) rfl (by kernel_rfl) (by decide) ?_
              rintro _ ⟨sz, rfl⟩
              simp only [List.drop_succ_cons, List.drop_zero]
              go_simp
              replace BB := Below.step BB sz.h
              clear hne
              generalize sz.w = W at *
              clear sz
              revert BB
              revert W
              exact JN.out
            case hj =>
            intro W BB
            have B4 := Below.step B3 BB
            go_wp2_with fail
            go_ret
            exact ⟨by rw [hn2.out]; rfl, B4⟩
      · have e : k = l.length := by omega
        subst e
        have hn2 : Hid (ctC l = 0) := hn.trans (cgC_end l)
        clear hn
        go_wp2
        go_ret
        exact ⟨by rw [hn2.out]; rfl, BW⟩
  · have hlI : 8 < (l.length : Int) := by omega
    rw [show ctC l = 2 by rw [ctC, if_neg hl]]
    clear hl
    go_enter Try.func56, Try.ntmps56
    go_wp2
    go_ret
    exact ⟨rfl, Below.refl _ _⟩
end Go.Proofs.Ytklglpmlfboglab

