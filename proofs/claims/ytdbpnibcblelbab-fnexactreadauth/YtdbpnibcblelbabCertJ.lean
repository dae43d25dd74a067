/- The contracts of the program's CertsFault, PackCert, UnpackCert, LookCert, at every argument (written by tools/cert_i.py). What was there stays. -/
import Derived.Test.YtdbpnibcblelbabCertI
namespace Go.Proofs.Ytdbpnibcblelbab
open Go.ChangeShapes Go.WideShapes Go.ChangeAt Go.RowKit

theorem or_certs (x y : UInt8) : bits .or .i64 ((x.toNat : Int) * 256) (y.toNat : Int) = (x.toNat : Int) * 256 + y.toNat := by
  have hx := x.toNat_lt
  have hy := y.toNat_lt
  have e : ∀ n : Nat, n < 18446744073709551616 → (BitVec.ofInt 64 (n : Int)).toNat = n := fun n hn => by rw [BitVec.toNat_ofInt]; omega
  have h2 : y.toNat < 2 ^ 8 := by omega
  rw [show ((x.toNat : Int) * 256) = ((x.toNat * 256 : Nat) : Int) by omega]
  show IntKind.i64.wrap ((BitVec.ofInt 64 ((x.toNat * 256 : Nat) : Int) ||| BitVec.ofInt 64 (y.toNat : Int)).toNat : Int) = _
  rw [BitVec.toNat_or, e _ (by omega), e _ (by omega), show x.toNat * 256 = x.toNat <<< 8 by rw [Nat.shiftLeft_eq], ← Nat.shiftLeft_add_eq_or_of_lt h2, Nat.shiftLeft_eq, IntKind.wrap_i64]
  omega
theorem RdL.front {α : Type} {c : Cod α} {w : World} {p : Option Addr} {q : Nat} {l : List α} (h : RdL c w p q l) (n : Nat) : RdL c w p q (l.take n) := by
  obtain ⟨h1, h2, h3, h4⟩ := h
  refine ⟨by rw [List.length_take]; omega, h2, h3, fun hp => ?_⟩
  obtain ⟨b, o, rfl, hc⟩ := h4 (by rw [List.length_take] at hp; omega)
  refine ⟨b, o, rfl, fun i a hi => hc i a ?_⟩
  have hlt := (List.getElem?_eq_some_iff.1 hi).1
  rw [List.length_take] at hlt
  rw [List.getElem?_take_of_lt (by omega)] at hi
  exact hi
set_option maxRecDepth 4000 in
set_option maxHeartbeats 1000000 in
theorem implUc_c (bs : List UInt8) (p : Option Addr) (q : Nat) (w : World) (hr : Rd w p q bs) :
    Calls Try.prog 21 #[.slice p bs.length q] w fun e w' => e = .returned (aggC (ucD bs)) ∧ Below w.heap.size w w' := by
  have BW := alloc_below w (.cells #[.int .i64 0, .int .i64 0, .int .i64 0, .int .i64 0] 49)
  have R := Arr.new w [.int .i64 0, .int .i64 0, .int .i64 0, .int .i64 0] 49
  by_cases h4 : bs.length = 4
  · obtain ⟨x0, x1, x2, x3, rfl⟩ := four_of h4
    have hq : 4 ≤ q := hr.1
    have hqm : q ≤ 2 ^ 63 - 1 := hr.2.1
    have hr2 := hr.keep BW
    obtain ⟨b0, o0, rfl, hc⟩ := hr2.2.2.2 (by simp)
    have d0 := hc 0 (by simp)
    have d1 := hc 1 (by simp)
    have d2 := hc 2 (by simp)
    have d3 := hc 3 (by simp)
    rw [Nat.add_zero] at d0
    rw [show at8 [x0, x1, x2, x3] 0 = x0.toNat from rfl] at d0
    rw [show at8 [x0, x1, x2, x3] 1 = x1.toNat from rfl] at d1
    rw [show at8 [x0, x1, x2, x3] 2 = x2.toNat from rfl] at d2
    rw [show at8 [x0, x1, x2, x3] 3 = x3.toNat from rfl] at d3
    clear hc h4 hr hr2
    go_enter Try.func21, Try.ntmps21
    go_wp2_with fail
    generalize hV : w.alloc (.cells #[.int .i64 0, .int .i64 0, .int .i64 0, .int .i64 0] 49) = V at *
    apply share
    case h =>
      intro JN
      have BB := Below.refl V.heap.size V
      have hne := HW.some V
      have g0 := HW.at (d0)
      have g1 := HW.at (d1)
      have g2 := HW.at (d2)
      have g3 := HW.at (d3)
      refine wp_region_pick [0, 1, 2, 3, 4, 5, 6, 7, 8, 9, 10, 11, 12, 13, 14, 15, 16, 17, 18] 20 1 1 rfl rfl rfl (by kernel_rfl) (by kernel_rfl) (by kernel_rfl) (by kernel_rfl) ?_
      simp only [opsAt, List.getElem?_toArray, List.getElem?_cons_zero, List.getElem?_cons_succ]
      repeat (go_big_quiet_step (fail))
      refine wpQuiet_nil ?_
      clear g0 g1 g2 g3
      refine wpM_only (i := 19) (by kernel_rfl) ?_
      refine mOp_make rfl (by go_simp) ?_
      rintro _ ⟨sg, rfl⟩
      refine ⟨.pointer (some ⟨sg.w.heap.size, 0, none⟩), sg.w.alloc (.cells #[.int .i64 0, .int .i64 0, .int .i64 0] 24), by go_simp, ⟨⟨_, alloc_below _ _⟩, rfl⟩, ?_⟩
      have hbg := Below.step sg.h (alloc_below sg.w (.cells #[.int .i64 0, .int .i64 0, .int .i64 0] 24))
      have AA := Arr.new sg.w [.int .i64 0, .int .i64 0, .int .i64 0] 24
      have GG := (Below.step BB sg.h).size
      replace BB := Below.step BB hbg
      clear hbg
      replace hne := HW.some (sg.w.alloc (.cells #[.int .i64 0, .int .i64 0, .int .i64 0] 24))
      generalize hW : (sg.w.alloc (.cells #[.int .i64 0, .int .i64 0, .int .i64 0] 24)) = wg1 at *
      clear hW
      generalize sg.w.heap.size = gg at *
      clear sg
      refine wpM_end (by kernel_rfl) rfl (by kernel_rfl) (by decide) ?_
      rintro _ ⟨sz, rfl⟩
      simp only [List.drop_succ_cons, List.drop_zero]
      go_simp
      replace AA := AA.stay sz.h
      replace BB := Below.step BB sz.h
      clear hne
      generalize sz.w = W at *
      clear sz
      revert GG
      revert AA
      revert BB
      revert gg
      revert W
      exact JN.out
    case hj =>
    intro W gg BB AA GG
    have hx2 := x2.toNat_lt
    have hx3 := x3.toNat_lt
    rw [wrap_u8, wrap_u8, wrap_u8, wrap_u8, show wrap64 ((x2.toNat : Int) * 256) = (x2.toNat : Int) * 256 by unfold wrap64; omega, or_certs x2 x3]
    have a0 := AA.cell 0
    have a1 := AA.cell 1
    have a2 := AA.cell 2
    have fa := AA.frozen
    simp at a0 a1 a2
    have RW := R.stay BB
    have hne : Hid (w.heap.size ≠ gg) := by show _ ≠ _; have := R.lt; omega
    have A3 := ((AA.set 0 (.int .i64 (x0.toNat : Int))).set 1 (.int .i64 (x1.toNat : Int))).set 2 (.int .i64 ((x2.toNat : Int) * 256 + x3.toNat))
    have R3 := ((RW.setOther (a := ⟨gg, 0, none⟩) hne.out (.int .i64 (x0.toNat : Int))).setOther (a := ⟨gg, 1, none⟩) hne.out (.int .i64 (x1.toNat : Int))).setOther (a := ⟨gg, 2, none⟩) hne.out (.int .i64 ((x2.toNat : Int) * 256 + x3.toNat))
    have B3 := (((Below.step BW BB).setCell (p := ⟨gg, 0, none⟩) (by have := BW.size; show w.heap.size ≤ gg; omega) (.int .i64 (x0.toNat : Int))).setCell (p := ⟨gg, 1, none⟩) (by have := BW.size; show w.heap.size ≤ gg; omega) (.int .i64 (x1.toNat : Int))).setCell (p := ⟨gg, 2, none⟩) (by have := BW.size; show w.heap.size ≤ gg; omega) (.int .i64 ((x2.toNat : Int) * 256 + x3.toNat))
    clear AA R RW BB d0 d1 d2 d3
    go_wp2_with fail
    refine (isCert_c (rdC x0 x1 x2 x3) _).mono ?_
    rintro e W2 ⟨rfl, hb⟩
    have R4 := R3.stay hb
    have A4 := A3.stay hb
    have B4 := Below.step B3 hb
    have r0 := R4.cell 0
    have r1 := R4.cell 1
    have r2 := R4.cell 2
    have r3 := R4.cell 3
    have fr := R4.frozen
    have l0 := (A4.cell 0).trans (show _ = some _ from rfl)
    have l1 := (A4.cell 1).trans (show _ = some _ from rfl)
    have l2 := (A4.cell 2).trans (show _ = some _ from rfl)
    simp at r0 r1 r2 r3
    clear R3 R4 A3 A4 B3 hb
    cases ho : okC (rdC x0 x1 x2 x3)
    · have HU : Hid (ucD [x0, x1, x2, x3] = (5, zC)) := ucD_bad ho
      clear ho
      go_wp2_with fail
      refine bodyPost_ret (v := .agg #[.int .i64 5, .int .i64 0, .int .i64 0, .int .i64 0]) (by simp [results, Try.results21, go_sem, r0, r1, r2, r3]) rfl ⟨by rw [HU.out]; rfl, ?_⟩
      exact (((B4.setCell (Nat.le_refl _) _).setCell (Nat.le_refl _) _).setCell (Nat.le_refl _) _).setCell (Nat.le_refl _) _
    · have HU : Hid (ucD [x0, x1, x2, x3] = (0, rdC x0 x1 x2 x3)) := ucD_good ho
      clear ho
      go_wp2_with fail
      refine bodyPost_ret (v := .agg #[.int .i64 0, .int .i64 (x0.toNat : Int), .int .i64 (x1.toNat : Int), .int .i64 ((x2.toNat : Int) * 256 + x3.toNat)]) (by simp [results, Try.results21, go_sem, r0, r1, r2, r3]) rfl ⟨by rw [HU.out]; rfl, ?_⟩
      exact (((B4.setCell (Nat.le_refl _) _).setCell (Nat.le_refl _) _).setCell (Nat.le_refl _) _).setCell (Nat.le_refl _) _
  · have d : ((bs.length : Int) != 4) = true := by rw [bne_iff_ne]; omega
    have HU : Hid (ucD bs = (5, zC)) := ucD_long h4
    go_enter Try.func21, Try.ntmps21
    go_wp2
    exact bodyPost_ret (v := .agg #[.int .i64 5, .int .i64 0, .int .i64 0, .int .i64 0]) (by simp [results, Try.results21, go_sem]) rfl ⟨by rw [HU.out]; rfl, alloc_below _ _⟩
end Go.Proofs.Ytdbpnibcblelbab

