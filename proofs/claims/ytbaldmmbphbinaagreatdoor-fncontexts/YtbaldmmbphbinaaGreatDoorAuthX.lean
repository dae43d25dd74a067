/- Chapter 13 of the specification: l13Check, CheckAuth, at every argument. What was there stays. -/
import Derived.Test.YtbaldmmbphbinaaGreatDoorAuthV
import Derived.Test.YtbaldmmbphbinaaGreatDoorJoint8
import Derived.BigQuiet
namespace Go.Proofs.YtbaldmmbphbinaaGreatDoor
open Go.ChangeShapes Go.WideShapes Go.ChangeAt Go.RowKit

/-- The code by which data is heard, all else being right. -/
def ckN (x : List UInt8) (r : Int) (certs : List CertD) (signs : List SignD) (now : Int) (data : List UInt8) : Int := match raR data with
  | some a => hkC x r certs signs now a
  | none => 5
theorem ckN_none {x : List UInt8} {r : Int} {certs : List CertD} {signs : List SignD} {now : Int} {data : List UInt8} (h : raR data = none) : ckN x r certs signs now data = 5 := by unfold ckN; rw [h]
theorem ckN_some {x : List UInt8} {r : Int} {certs : List CertD} {signs : List SignD} {now : Int} {data : List UInt8} {a : AuthD} (h : raR data = some a) : ckN x r certs signs now data = hkC x r certs signs now a := by unfold ckN; rw [h]
def AChk (w : World) (B : Nat) (x : List UInt8) (r : Int) (certs : List CertD) (signs : List SignD) (now : Int) (data : List UInt8) (a : AuthD) (us : List Value) (k : Int) : Prop :=
  ckN x r certs signs now data = k ∧ (k = 0 → raR data = some a ∧ ∃ fp, authC.own w B a us fp)
theorem hkC_no {x : List UInt8} {r : Int} {certs : List CertD} {signs : List SignD} {now : Int} {a : AuthD} (h : ¬ (hasC certs a.2.1.1 = true ∧ foC certs a.2.1.1 = a.2.1)) : hkC x r certs signs now a = 4 := by unfold hkC; rw [if_neg h]
theorem hkC_old {x : List UInt8} {r : Int} {certs : List CertD} {signs : List SignD} {now : Int} {a : AuthD} (h : hasC certs a.2.1.1 = true ∧ foC certs a.2.1.1 = a.2.1) (h1 : a.2.1.2.2 < now) : hkC x r certs signs now a = 9 := by unfold hkC; rw [if_pos h, if_pos h1]
theorem hkC_end {x : List UInt8} {r : Int} {certs : List CertD} {signs : List SignD} {now : Int} {a : AuthD} (h : hasC certs a.2.1.1 = true ∧ foC certs a.2.1.1 = a.2.1) (h1 : ¬ a.2.1.2.2 < now) : hkC x r certs signs now a = if ckA signs a.2.2.1 a.2.1.1 (dgN x r a.1 a.2.1) = true ∧ a.2.2.2 = mcN x r a.1 a.2.1 a.2.2.1 then 0 else 7 := by unfold hkC; rw [if_pos h, if_neg h1]
theorem neq_cert_same (c : CertD) (W : World) : (binOp .neq 62 (.agg #[.int .i64 c.1, .int .i64 c.2.1, .int .i64 c.2.2]) (.agg #[.int .i64 c.1, .int .i64 c.2.1, .int .i64 c.2.2])).run Tryz.prog W = .ok (.bool false) W := by
  go_simp
theorem neq_cert_other {c d : CertD} (h : ¬ c = d) (W : World) : (binOp .neq 62 (.agg #[.int .i64 c.1, .int .i64 c.2.1, .int .i64 c.2.2]) (.agg #[.int .i64 d.1, .int .i64 d.2.1, .int .i64 d.2.2])).run Tryz.prog W = .ok (.bool true) W := by
  by_cases h1 : c.1 = d.1
  · by_cases h2 : c.2.1 = d.2.1
    · have h3 : ¬ c.2.2 = d.2.2 := fun h3 => h (Prod.ext h1 (Prod.ext h2 h3))
      have e3 : (c.2.2 == d.2.2) = false := by rw [beq_eq_false_iff_ne]; exact h3
      rw [h1, h2]
      clear h h1 h2 h3
      go_simp
    · have e2 : (c.2.1 == d.2.1) = false := by rw [beq_eq_false_iff_ne]; exact h2
      rw [h1]
      clear h h1 h2
      go_simp
  · have e1 : (c.1 == d.1) = false := by rw [beq_eq_false_iff_ne]; exact h1
    clear h h1
    go_simp
theorem sameB_iff {a b : List UInt8} : sameB a b = true ↔ a = b := by simp [sameB]
theorem wf_byte {x : Int} (h1 : 0 ≤ x) (h2 : x ≤ 255) : (Lit.int .i64 x).wf = true := by
  have e1 : IntKind.i64.min = -9223372036854775808 := by decide
  have e2 : IntKind.i64.max = 9223372036854775807 := by decide
  simp only [Lit.wf, e1, e2, Bool.and_eq_true, decide_eq_true_eq]
  omega
set_option maxRecDepth 4000 in
set_option maxHeartbeats 16000000 in
theorem l13Check_c (p pc ps pd : Option Addr) (q qc qs qd : Nat) (x : List UInt8) (r : Int) (certs : List CertD) (signs : List SignD) (now : Int) (data : List UInt8) (w : World) (hr : Rd w p q x) (hrc : RdL certC w pc qc certs) (hrs : RdL signC w ps qs signs) (hrd : Rd w pd qd data) (h32 : x.length = 32) :
    Calls Tryz.prog 75 #[.slice p x.length q, .int .i64 r, .slice pc certs.length qc, .slice ps signs.length qs, .int .i64 now, .slice pd data.length qd] w fun e w' => ∃ pa qa pm qm a k, e = .returned (.tuple #[.agg #[.slice pa a.1.length qa, .int .i64 a.2.1.1, .int .i64 a.2.1.2.1, .int .i64 a.2.1.2.2, .int .i64 a.2.2.1, .slice pm a.2.2.2.length qm], .int .i64 k]) ∧ AChk w' w.heap.size x r certs signs now data a [.slice pa a.1.length qa, .int .i64 a.2.1.1, .int .i64 a.2.1.2.1, .int .i64 a.2.1.2.2, .int .i64 a.2.2.1, .slice pm a.2.2.2.length qm] k ∧ Below w.heap.size w w' := by
  have BW := alloc_below w (.cells #[.slice none 0 0, .int .i64 0, .int .i64 0, .int .i64 0, .int .i64 0, .slice none 0 0] 70)
  have R := Arr.new w [.slice none 0 0, .int .i64 0, .int .i64 0, .int .i64 0, .int .i64 0, .slice none 0 0] 70
  have hz0 : Hid ((w.alloc (.cells #[.slice none 0 0, .int .i64 0, .int .i64 0, .int .i64 0, .int .i64 0, .slice none 0 0] 70)).heap.size = w.heap.size + 1) := size_alloc _ _
  suffices H : ∀ Q : Ending → World → Prop, Hid (∀ e w', (∃ pa qa pm qm a k, e = .returned (.tuple #[.agg #[.slice pa a.1.length qa, .int .i64 a.2.1.1, .int .i64 a.2.1.2.1, .int .i64 a.2.1.2.2, .int .i64 a.2.2.1, .slice pm a.2.2.2.length qm], .int .i64 k]) ∧ AChk w' w.heap.size x r certs signs now data a [.slice pa a.1.length qa, .int .i64 a.2.1.1, .int .i64 a.2.1.2.1, .int .i64 a.2.1.2.2, .int .i64 a.2.2.1, .slice pm a.2.2.2.length qm] k ∧ Below w.heap.size w w') → Q e w') → Calls Tryz.prog 75 #[.slice p x.length q, .int .i64 r, .slice pc certs.length qc, .slice ps signs.length qs, .int .i64 now, .slice pd data.length qd] w Q by exact H _ (fun _ _ h => h)
  intro Q HQ
  have KR := l13Read_c data pd qd _ (hrd.keep BW)
  have HX : Hid (Rd w p q x) := hr
  have HRC : Hid (RdL certC w pc qc certs) := hrc
  have HRS : Hid (RdL signC w ps qs signs) := hrs
  have H32 : Hid (x.length = 32) := h32
  have hqc1 : certs.length ≤ qc := hrc.1
  have hqc2 : qc ≤ 2 ^ 63 - 1 := hrc.2.1
  clear hr hrc hrs hrd h32
  go_enter Tryz.func75, Tryz.ntmps75
  go_wp2_with fail
  refine KR.mono ?_
  rintro e w1 ⟨pa, qa, pm, qm, a, t, rfl, har, hb1⟩
  have hl1 := alloc_below w1 (.cells #[.slice pa a.1.length qa, .int .i64 a.2.1.1, .int .i64 a.2.1.2.1, .int .i64 a.2.1.2.2, .int .i64 a.2.2.1, .slice pm a.2.2.2.length qm] 70)
  have L := Arr.new w1 [.slice pa a.1.length qa, .int .i64 a.2.1.1, .int .i64 a.2.1.2.1, .int .i64 a.2.1.2.2, .int .i64 a.2.2.1, .slice pm a.2.2.2.length qm] 70
  replace R := (R.stay hb1).stay hl1
  replace BW := Below.step (Below.step BW hb1) hl1
  rcases har with ⟨rfl, hn⟩ | ⟨rfl, hs, fp, hown⟩
  · have HN : Hid (ckN x r certs signs now data = 5) := ckN_none hn
    clear KR hb1 hl1 hn
    have c0 := (R.cell 0).trans (show _ = some _ from rfl)
    have c1 := (R.cell 1).trans (show _ = some _ from rfl)
    have c2 := (R.cell 2).trans (show _ = some _ from rfl)
    have c3 := (R.cell 3).trans (show _ = some _ from rfl)
    have c4 := (R.cell 4).trans (show _ = some _ from rfl)
    have c5 := (R.cell 5).trans (show _ = some _ from rfl)
    have fz := R.frozen
    have l0 := (L.cell 0).trans (show _ = some _ from rfl)
    have l1 := (L.cell 1).trans (show _ = some _ from rfl)
    have l2 := (L.cell 2).trans (show _ = some _ from rfl)
    have l3 := (L.cell 3).trans (show _ = some _ from rfl)
    have l4 := (L.cell 4).trans (show _ = some _ from rfl)
    have l5 := (L.cell 5).trans (show _ = some _ from rfl)
    clear R L
    go_wp2_with fail
    exact bodyPost_ret (v := .tuple #[.agg #[.slice pa a.1.length qa, .int .i64 a.2.1.1, .int .i64 a.2.1.2.1, .int .i64 a.2.1.2.2, .int .i64 a.2.2.1, .slice pm a.2.2.2.length qm], .int .i64 5]) (by simp [results, Tryz.results75, go_sem, c0, c1, c2, c3, c4, c5]) rfl (HQ.out _ _ ⟨pa, qa, pm, qm, a, 5, rfl, ⟨by rw [HN.out], fun h => by cases h⟩, ((((((BW.setCell (Nat.le_refl _) _).setCell (Nat.le_refl _) _).setCell (Nat.le_refl _) _).setCell (Nat.le_refl _) _).setCell (Nat.le_refl _) _).setCell (Nat.le_refl _) _)⟩)
  · have HS : Hid (raR data = some a) := hs
    have HK : Hid (ckN x r certs signs now data = hkC x r certs signs now a) := ckN_some hs
    have HB : Hid _ := raR_back hs
    have HO : Hid (authC.own (w1.alloc (.cells #[.slice pa a.1.length qa, .int .i64 a.2.1.1, .int .i64 a.2.1.2.1, .int .i64 a.2.1.2.2, .int .i64 a.2.2.1, .slice pm a.2.2.2.length qm] 70)) (w.heap.size + 1) a [.slice pa a.1.length qa, .int .i64 a.2.1.1, .int .i64 a.2.1.2.1, .int .i64 a.2.1.2.2, .int .i64 a.2.2.1, .slice pm a.2.2.2.length qm] fp) := by have h := authC.stay hown hl1; rw [hz0.out] at h; exact h
    have hzl : Hid (w.heap.size + 1 ≤ w1.heap.size) := by have h := hb1.size; rw [hz0.out] at h; exact h
    clear KR hb1 hl1 hs hown
    have l1 := (L.cell 1).trans (show _ = some _ from rfl)
    go_wp2_with fail
    generalize hV0 : w1.alloc (.cells #[.slice pa a.1.length qa, .int .i64 a.2.1.1, .int .i64 a.2.1.2.1, .int .i64 a.2.1.2.2, .int .i64 a.2.2.1, .slice pm a.2.2.2.length qm] 70) = V0 at *
    generalize w1.heap.size = gl at *
    clear hV0
    refine (l12At_c certs pc qc a.2.1.1 V0 (HRC.out.keep BW)).mono ?_
    rintro e w2 ⟨rfl, hw⟩
    subst w2
    clear l1
    cases hh : hasC certs a.2.1.1
    · rw [ixC_none hh]
      have HN : Hid (ckN x r certs signs now data = 4) := by show _ = _; rw [HK.out]; exact hkC_no (fun h => by rw [hh] at h; cases h.1)
      clear HB hh
      go_wp2_with fail
      go_quiet (fail)
      have hbq : Below V0.heap.size V0 (V0.drewN nq) := ⟨rfl, rfl, rfl, Nat.le_refl _, fun _ _ => rfl⟩
      replace R := R.stay hbq
      replace L := L.stay hbq
      replace BW := Below.step BW hbq
      replace HO : Hid (authC.own (V0.drewN nq) (w.heap.size + 1) a [.slice pa a.1.length qa, .int .i64 a.2.1.1, .int .i64 a.2.1.2.1, .int .i64 a.2.1.2.2, .int .i64 a.2.2.1, .slice pm a.2.2.2.length qm] fp) := authC.stay HO.out hbq
      clear hbq
      generalize V0.drewN nq = V1 at *
      have c0 := (R.cell 0).trans (show _ = some _ from rfl)
      have c1 := (R.cell 1).trans (show _ = some _ from rfl)
      have c2 := (R.cell 2).trans (show _ = some _ from rfl)
      have c3 := (R.cell 3).trans (show _ = some _ from rfl)
      have c4 := (R.cell 4).trans (show _ = some _ from rfl)
      have c5 := (R.cell 5).trans (show _ = some _ from rfl)
      have fz := R.frozen
      have l0 := (L.cell 0).trans (show _ = some _ from rfl)
      have l1 := (L.cell 1).trans (show _ = some _ from rfl)
      have l2 := (L.cell 2).trans (show _ = some _ from rfl)
      have l3 := (L.cell 3).trans (show _ = some _ from rfl)
      have l4 := (L.cell 4).trans (show _ = some _ from rfl)
      have l5 := (L.cell 5).trans (show _ = some _ from rfl)
      clear R L
      go_wp2_with fail
      exact bodyPost_ret (v := .tuple #[.agg #[.slice pa a.1.length qa, .int .i64 a.2.1.1, .int .i64 a.2.1.2.1, .int .i64 a.2.1.2.2, .int .i64 a.2.2.1, .slice pm a.2.2.2.length qm], .int .i64 4]) (by simp [results, Tryz.results75, go_sem, c0, c1, c2, c3, c4, c5]) rfl (HQ.out _ _ ⟨pa, qa, pm, qm, a, 4, rfl, ⟨by rw [HN.out], fun h => by cases h⟩, ((((((BW.setCell (Nat.le_refl _) _).setCell (Nat.le_refl _) _).setCell (Nat.le_refl _) _).setCell (Nat.le_refl _) _).setCell (Nat.le_refl _) _).setCell (Nat.le_refl _) _)⟩)
    · obtain ⟨k, hk1, hk2, hk3⟩ := ixC_some hh
      rw [hk1]
      obtain ⟨hkl, -⟩ := List.getElem?_eq_some_iff.1 hk2
      have hI : (k : Int) < (certs.length : Int) := by omega
      obtain ⟨bk, ok, e1, hcc⟩ := (HRC.out.keep BW).2.2.2 (by omega)
      subst e1
      obtain ⟨us, hrep, hcell⟩ := hcc k _ hk2
      obtain rfl := cert_rep hrep
      have m0 := hcell 0 _ rfl
      have m1 := hcell 1 _ rfl
      have m2 := hcell 2 _ rfl
      rw [show certC.n = 3 from rfl] at m0 m1 m2
      rw [Nat.add_zero] at m0
      have l1 := (L.cell 1).trans (show _ = some _ from rfl)
      have l2 := (L.cell 2).trans (show _ = some _ from rfl)
      have l3 := (L.cell 3).trans (show _ = some _ from rfl)
      have HFO : Hid (hasC certs a.2.1.1 = true) := hh
      obtain ⟨fo, hfo⟩ : ∃ fo, Hid (foC certs a.2.1.1 = fo) := ⟨_, rfl⟩
      rw [hfo.out] at m0 m1 m2
      clear hcc hcell hrep hk1 hk2 hk3 hh
      by_cases heq : fo = a.2.1
      · have HNE : ∀ W, (binOp .neq 62 (.agg #[.int .i64 fo.1, .int .i64 fo.2.1, .int .i64 fo.2.2]) (.agg #[.int .i64 a.2.1.1, .int .i64 a.2.1.2.1, .int .i64 a.2.1.2.2])).run Tryz.prog W = .ok (.bool false) W := fun W => by rw [heq]; exact neq_cert_same _ W
        have HH : Hid (hasC certs a.2.1.1 = true ∧ foC certs a.2.1.1 = a.2.1) := ⟨HFO.out, hfo.out.trans heq⟩
        clear heq
        go_wp2_with fail
        go_quiet (fail)
        clear m0 m1 m2 l1 l2 l3 HNE hI hkl
        have hbq : Below V0.heap.size V0 (V0.drewN nq) := ⟨rfl, rfl, rfl, Nat.le_refl _, fun _ _ => rfl⟩
        replace R := R.stay hbq
        replace L := L.stay hbq
        replace BW := Below.step BW hbq
        replace HO : Hid (authC.own (V0.drewN nq) (w.heap.size + 1) a [.slice pa a.1.length qa, .int .i64 a.2.1.1, .int .i64 a.2.1.2.1, .int .i64 a.2.1.2.2, .int .i64 a.2.2.1, .slice pm a.2.2.2.length qm] fp) := authC.stay HO.out hbq
        clear hbq
        generalize V0.drewN nq = V1 at *
        have l3 := (L.cell 3).trans (show _ = some _ from rfl)
        by_cases hold : a.2.1.2.2 < now
        · have HN : Hid (ckN x r certs signs now data = 9) := by show _ = _; rw [HK.out]; exact hkC_old HH.out hold
          clear HB
          have c0 := (R.cell 0).trans (show _ = some _ from rfl)
          have c1 := (R.cell 1).trans (show _ = some _ from rfl)
          have c2 := (R.cell 2).trans (show _ = some _ from rfl)
          have c3 := (R.cell 3).trans (show _ = some _ from rfl)
          have c4 := (R.cell 4).trans (show _ = some _ from rfl)
          have c5 := (R.cell 5).trans (show _ = some _ from rfl)
          have fz := R.frozen
          have l0 := (L.cell 0).trans (show _ = some _ from rfl)
          have l1 := (L.cell 1).trans (show _ = some _ from rfl)
          have l2 := (L.cell 2).trans (show _ = some _ from rfl)
          replace l3 := (L.cell 3).trans (show _ = some _ from rfl)
          have l4 := (L.cell 4).trans (show _ = some _ from rfl)
          have l5 := (L.cell 5).trans (show _ = some _ from rfl)
          clear R L
          go_wp2_with fail
          exact bodyPost_ret (v := .tuple #[.agg #[.slice pa a.1.length qa, .int .i64 a.2.1.1, .int .i64 a.2.1.2.1, .int .i64 a.2.1.2.2, .int .i64 a.2.2.1, .slice pm a.2.2.2.length qm], .int .i64 9]) (by simp [results, Tryz.results75, go_sem, c0, c1, c2, c3, c4, c5]) rfl (HQ.out _ _ ⟨pa, qa, pm, qm, a, 9, rfl, ⟨by rw [HN.out], fun h => by cases h⟩, ((((((BW.setCell (Nat.le_refl _) _).setCell (Nat.le_refl _) _).setCell (Nat.le_refl _) _).setCell (Nat.le_refl _) _).setCell (Nat.le_refl _) _).setCell (Nat.le_refl _) _)⟩)
        · have HE : Hid (hkC x r certs signs now a = if ckA signs a.2.2.1 a.2.1.1 (dgN x r a.1 a.2.1) = true ∧ a.2.2.2 = mcN x r a.1 a.2.1 a.2.2.1 then 0 else 7) := hkC_end HH.out hold
          have hnow : now ≤ a.2.1.2.2 := by omega
          obtain ⟨pa1, qa1, pm1, qm1, hus, RA, RM⟩ := auth_rep (authC.toRep HO.out)
          simp only [List.cons.injEq, Value.slice.injEq, and_true, true_and] at hus
          obtain ⟨⟨rfl, rfl⟩, rfl, rfl⟩ := hus
          have HRA : Hid (Rd V1 pa qa a.1) := RA
          have HRM : Hid (Rd V1 pm qm a.2.2.2) := RM
          have l0 := (L.cell 0).trans (show _ = some _ from rfl)
          have l1 := (L.cell 1).trans (show _ = some _ from rfl)
          have l2 := (L.cell 2).trans (show _ = some _ from rfl)
          have KD := l13Digest_c p pa q qa gl 1 x a.1 r a.2.1 V1 (HX.out.keep BW) HRA.out l1 l2 l3 (by have := H32.out; omega) (ctxB_parts HB.out.1).2 HB.out.2.1
          clear hold RA RM
          go_wp2_with fail
          refine KD.mono ?_
          rintro e w3 ⟨ug, rfl, kg, hb3⟩
          obtain ⟨pg, qg, rfl, rg⟩ := kg.rd
          replace R := R.stay hb3
          replace L := L.stay hb3
          replace BW := Below.step BW hb3
          replace HO : Hid (authC.own w3 (w.heap.size + 1) a [.slice pa a.1.length qa, .int .i64 a.2.1.1, .int .i64 a.2.1.2.1, .int .i64 a.2.1.2.2, .int .i64 a.2.2.1, .slice pm a.2.2.2.length qm] fp) := authC.stay HO.out hb3
          replace HRA : Hid (Rd w3 pa qa a.1) := HRA.out.keep hb3
          replace HRM : Hid (Rd w3 pm qm a.2.2.2) := HRM.out.keep hb3
          clear KD kg hb3 hnow l0 l1 l2 l3 V1
          go_wp2_with fail
          generalize w3 = V at *
          obtain ⟨dg, HDG⟩ : ∃ dg, Hid (dgN x r a.1 a.2.1 = dg) := ⟨_, rfl⟩
          rw [HDG.out] at rg HE ⊢
          have l0 := (L.cell 0).trans (show _ = some _ from rfl)
          have l1 := (L.cell 1).trans (show _ = some _ from rfl)
          have l2 := (L.cell 2).trans (show _ = some _ from rfl)
          have l3 := (L.cell 3).trans (show _ = some _ from rfl)
          have l4 := (L.cell 4).trans (show _ = some _ from rfl)
          have l5 := (L.cell 5).trans (show _ = some _ from rfl)
          have HLC : Hid (∀ W, Below V.heap.size V W → W.cell? ⟨gl, 1, none⟩ = some (.int .i64 a.2.1.1) ∧ W.cell? ⟨gl, 1 + 1, none⟩ = some (.int .i64 a.2.1.2.1) ∧ W.cell? ⟨gl, 1 + 2, none⟩ = some (.int .i64 a.2.1.2.2)) := fun W hb => ⟨cell_keep l1 hb, cell_keep l2 hb, cell_keep l3 hb⟩
          have hpw : (Lit.int .i64 a.2.2.1).wf = true := wf_byte HB.out.2.2.1 HB.out.2.2.2.1
          cases hck : ckA signs a.2.2.1 a.2.1.1 dg
          · have KC : Hid (∀ W, Below w.heap.size w W → Rd W pg qg dg → Calls Tryz.prog 102 #[.slice ps signs.length qs, .int .i64 a.2.2.1, .int .i64 a.2.1.1, .slice pg dg.length qg] W fun e w' => e = .returned (.bool false) ∧ Below W.heap.size W w') := fun W hb hg => by
              have h := l12Check_c signs ps pg qs qg a.2.2.1 a.2.1.1 dg W (HRS.out.keep hb) hg hpw
              rw [hck] at h
              exact h.mono fun _ _ ⟨h1, h2⟩ => ⟨h1, by rw [h2]; exact Below.refl _ _⟩
            have HN : Hid (ckN x r certs signs now data = 7) := by show _ = _; rw [HK.out, HE.out, if_neg (fun h => by rw [hck] at h; cases h.1)]
            clear hpw hck l0 l2 l3 l5 HLC
            apply share
            case h =>
              intro JN
              have BB := Below.refl V.heap.size V
              have hne := HW.some V
              have g1 := HW.at (l1)
              have g4 := HW.at (l4)
              refine wp_region_pick [0, 1, 2, 3, 4, 5, 6] 22 15 1 rfl rfl rfl (by kernel_rfl) (by kernel_rfl) (by kernel_rfl) (by kernel_rfl) ?_
              simp only [opsAt, List.getElem?_toArray, List.getElem?_cons_zero, List.getElem?_cons_succ]
              repeat (go_big_quiet_step (fail))
              refine wpQuiet_nil ?_
              clear g1 g4
              refine wpM_only (i := 7) (by kernel_rfl) ?_
              refine mOp_call rfl (by go_simp) 102 _ #[.slice ps signs.length qs, .int .i64 a.2.2.1, .int .i64 a.2.1.1, .slice pg dg.length qg] (fun w => by go_simp) rfl ?_
              rintro _ ⟨sg, rfl⟩
              refine (KC.out _ (Below.step BW (Below.step BB sg.h)) (rg.keep (Below.step BB sg.h))).mono ?_
              rintro e wg1 ⟨rfl, hbx⟩
              have hbg := Below.step sg.h hbx
              refine ⟨_, rfl, ⟨⟨wg1, hbx⟩, rfl⟩, ?_⟩
              replace BB := Below.step BB hbg
              clear hbg hbx sg
              replace hne := HW.some wg1
              refine wpM_more [8, 9, 10, 11, 12, 13, 14, 15, 16, 17, 18] 14 3 rfl (by kernel_rfl) (by kernel_rfl) (by kernel_rfl) (by kernel_rfl) ?_
              simp only [opsAt, List.getElem?_toArray, List.getElem?_cons_zero, List.getElem?_cons_succ]
              go_simp
              repeat (go_big_quiet_step (fail))
              refine wpQuiet_nil ?_
              refine wpM_only (i := 19) (by kernel_rfl) ?_
              refine mOp_skip rfl (by go_simp) ?_
              refine wpM_only (i := 20) (by kernel_rfl) ?_
              refine mOp_skip rfl (by go_simp) ?_
              refine wpM_more [21] 1 0 rfl (by kernel_rfl) (by kernel_rfl) (by kernel_rfl) (by kernel_rfl) ?_
              simp only [opsAt, List.getElem?_toArray, List.getElem?_cons_zero, List.getElem?_cons_succ]
              go_simp
              repeat (go_big_quiet_step (fail))
              refine wpQuiet_nil ?_
              refine wpM_end (by kernel_rfl) rfl (by kernel_rfl) (by decide) ?_
              rintro _ ⟨sz, rfl⟩
              simp only [List.drop_succ_cons, List.drop_zero]
              go_simp
              replace BB := Below.step BB sz.h
              clear hne
              generalize sz.w = W at *
              clear sz
              revert BB
              revert W
              exact JN.out
            intro W BB
            replace R := R.stay BB
            replace L := L.stay BB
            replace BW := Below.step BW BB
            clear BB KC rg l1 l4
            have c0 := (R.cell 0).trans (show _ = some _ from rfl)
            have c1 := (R.cell 1).trans (show _ = some _ from rfl)
            have c2 := (R.cell 2).trans (show _ = some _ from rfl)
            have c3 := (R.cell 3).trans (show _ = some _ from rfl)
            have c4 := (R.cell 4).trans (show _ = some _ from rfl)
            have c5 := (R.cell 5).trans (show _ = some _ from rfl)
            have fz := R.frozen
            have l0 := (L.cell 0).trans (show _ = some _ from rfl)
            have l1 := (L.cell 1).trans (show _ = some _ from rfl)
            have l2 := (L.cell 2).trans (show _ = some _ from rfl)
            have l3 := (L.cell 3).trans (show _ = some _ from rfl)
            have l4 := (L.cell 4).trans (show _ = some _ from rfl)
            have l5 := (L.cell 5).trans (show _ = some _ from rfl)
            clear R L
            go_wp2_with fail
            exact bodyPost_ret (v := .tuple #[.agg #[.slice pa a.1.length qa, .int .i64 a.2.1.1, .int .i64 a.2.1.2.1, .int .i64 a.2.1.2.2, .int .i64 a.2.2.1, .slice pm a.2.2.2.length qm], .int .i64 7]) (by simp [results, Tryz.results75, go_sem, c0, c1, c2, c3, c4, c5]) rfl (HQ.out _ _ ⟨pa, qa, pm, qm, a, 7, rfl, ⟨by rw [HN.out], fun h => by cases h⟩, ((((((BW.setCell (Nat.le_refl _) _).setCell (Nat.le_refl _) _).setCell (Nat.le_refl _) _).setCell (Nat.le_refl _) _).setCell (Nat.le_refl _) _).setCell (Nat.le_refl _) _)⟩)
          · have KC : Hid (∀ W, Below w.heap.size w W → Rd W pg qg dg → Calls Tryz.prog 102 #[.slice ps signs.length qs, .int .i64 a.2.2.1, .int .i64 a.2.1.1, .slice pg dg.length qg] W fun e w' => e = .returned (.bool true) ∧ Below W.heap.size W w') := fun W hb hg => by
              have h := l12Check_c signs ps pg qs qg a.2.2.1 a.2.1.1 dg W (HRS.out.keep hb) hg hpw
              rw [hck] at h
              exact h.mono fun _ _ ⟨h1, h2⟩ => ⟨h1, by rw [h2]; exact Below.refl _ _⟩
            obtain ⟨mc, HMC⟩ : ∃ mc, Hid (mcN x r a.1 a.2.1 a.2.2.1 = mc) := ⟨_, rfl⟩
            have KM : Hid (∀ W, Below w.heap.size w W → Below V.heap.size V W → Calls Tryz.prog 68 #[.slice p x.length q, .int .i64 r, .slice pa a.1.length qa, .pointer (some ⟨gl, 1, none⟩), .int .i64 a.2.2.1] W fun e w' => ∃ u, e = .returned u ∧ Own w' W.heap.size u mc ∧ Below W.heap.size W w') := fun W hb hb2 => by
              have h := l13Mac_c p pa q qa gl 1 x a.1 r a.2.1 a.2.2.1 W (HX.out.keep hb) (HRA.out.keep hb2) (HLC.out W hb2).1 (HLC.out W hb2).2.1 (HLC.out W hb2).2.2 (by have := H32.out; omega) (ctxB_parts HB.out.1).2 HB.out.2.1 HB.out.2.2.1 HB.out.2.2.2.1
              rw [HMC.out] at h
              exact h
            have KE : Hid (∀ W pq qq, Below V.heap.size V W → Rd W pq qq mc → Calls Tryz.prog 57 #[.slice pm a.2.2.2.length qm, .slice pq mc.length qq] W fun e w' => e = .returned (.bool (sameB a.2.2.2 mc)) ∧ Below W.heap.size W w') := fun W pq qq hb h => (l1Same_c pm pq qm qq a.2.2.2 mc W (HRM.out.keep hb) h).mono fun _ _ ⟨h1, h2⟩ => ⟨h1, by rw [h2]; exact Below.refl _ _⟩
            rw [HMC.out] at HE
            have HKE : Hid (ckN x r certs signs now data = if a.2.2.2 = mc then 0 else 7) := by
              show _ = _
              rw [HK.out, HE.out]
              by_cases hm : a.2.2.2 = mc
              · rw [if_pos ⟨hck, hm⟩, if_pos hm]
              · rw [if_neg (fun h => hm h.2), if_neg hm]
            clear hpw hck l2 l3 HE HMC HLC
            cases hsm : sameB a.2.2.2 mc
            · have HN : Hid (ckN x r certs signs now data = 7) := by show _ = _; rw [HKE.out, if_neg (fun h => by rw [sameB_iff.2 h] at hsm; cases hsm)]
              rw [hsm] at KE
              clear hsm HKE
              apply share
              case h =>
                intro JN
                have BB := Below.refl V.heap.size V
                have hne := HW.some V
                have g1 := HW.at (l1)
                have g4 := HW.at (l4)
                refine wp_region_pick [0, 1, 2, 3, 4, 5, 6] 22 15 1 rfl rfl rfl (by kernel_rfl) (by kernel_rfl) (by kernel_rfl) (by kernel_rfl) ?_
                simp only [opsAt, List.getElem?_toArray, List.getElem?_cons_zero, List.getElem?_cons_succ]
                repeat (go_big_quiet_step (fail))
                refine wpQuiet_nil ?_
                clear g1 g4
                refine wpM_only (i := 7) (by kernel_rfl) ?_
                refine mOp_call rfl (by go_simp) 102 _ #[.slice ps signs.length qs, .int .i64 a.2.2.1, .int .i64 a.2.1.1, .slice pg dg.length qg] (fun w => by go_simp) rfl ?_
                rintro _ ⟨sg, rfl⟩
                refine (KC.out _ (Below.step BW (Below.step BB sg.h)) (rg.keep (Below.step BB sg.h))).mono ?_
                rintro e wg1 ⟨rfl, hbx⟩
                have hbg := Below.step sg.h hbx
                refine ⟨_, rfl, ⟨⟨wg1, hbx⟩, rfl⟩, ?_⟩
                replace BB := Below.step BB hbg
                clear hbg hbx sg
                replace hne := HW.some wg1
                have h0 := HW.at (cell_keep (l0) BB)
                have h4 := HW.at (cell_keep (l4) BB)
                have h5 := HW.at (cell_keep (l5) BB)
                refine wpM_more [8, 9, 10, 11, 12, 13, 14, 15, 16, 17, 18] 14 3 rfl (by kernel_rfl) (by kernel_rfl) (by kernel_rfl) (by kernel_rfl) ?_
                simp only [opsAt, List.getElem?_toArray, List.getElem?_cons_zero, List.getElem?_cons_succ]
                go_simp
                repeat (go_big_quiet_step (fail))
                refine wpQuiet_nil ?_
                clear h0 h4 h5
                refine wpM_only (i := 19) (by kernel_rfl) ?_
                refine mOp_call rfl (by go_simp) 68 _ #[.slice p x.length q, .int .i64 r, .slice pa a.1.length qa, .pointer (some ⟨gl, 1, none⟩), .int .i64 a.2.2.1] (fun w => by go_simp) rfl ?_
                rintro _ ⟨sg, rfl⟩
                refine (KM.out _ (Below.step BW (Below.step BB sg.h)) (Below.step BB sg.h)).mono ?_
                rintro e wg2 ⟨um, rfl, km, hbx⟩
                obtain ⟨pq, qq, rfl, -⟩ := km.rd
                have hbg := Below.step sg.h hbx
                refine ⟨_, rfl, ⟨⟨wg2, hbx⟩, rfl⟩, ?_⟩
                have Rq := Rd.own km
                replace BB := Below.step BB hbg
                clear hbg hbx sg km
                replace hne := HW.some wg2
                refine wpM_only (i := 20) (by kernel_rfl) ?_
                refine mOp_call rfl (by go_simp) 57 _ #[.slice pm a.2.2.2.length qm, .slice pq mc.length qq] (fun w => by go_simp) rfl ?_
                rintro _ ⟨sg, rfl⟩
                refine (KE.out _ _ _ (Below.step BB sg.h) (Rq.keep sg.h)).mono ?_
                rintro e wg3 ⟨rfl, hbx⟩
                have hbg := Below.step sg.h hbx
                refine ⟨_, rfl, ⟨⟨wg3, hbx⟩, rfl⟩, ?_⟩
                replace Rq := Rq.keep hbg
                replace BB := Below.step BB hbg
                clear hbg hbx sg
                replace hne := HW.some wg3
                have h0 := HW.at (cell_keep (l0) BB)
                have h4 := HW.at (cell_keep (l4) BB)
                have h5 := HW.at (cell_keep (l5) BB)
                refine wpM_more [21] 1 0 rfl (by kernel_rfl) (by kernel_rfl) (by kernel_rfl) (by kernel_rfl) ?_
                simp only [opsAt, List.getElem?_toArray, List.getElem?_cons_zero, List.getElem?_cons_succ]
                go_simp
                repeat (go_big_quiet_step (fail))
                refine wpQuiet_nil ?_
                clear h0 h4 h5
                refine wpM_end (by kernel_rfl) rfl (by kernel_rfl) (by decide) ?_
                rintro _ ⟨sz, rfl⟩
                simp only [List.drop_succ_cons, List.drop_zero]
                go_simp
                replace Rq := Rq.keep sz.h
                replace BB := Below.step BB sz.h
                clear hne
                generalize sz.w = W at *
                clear sz
                revert Rq
                revert BB
                revert qq
                revert pq
                revert W
                exact JN.out
              intro W pq qq BB Rq
              replace R := R.stay BB
              replace L := L.stay BB
              replace BW := Below.step BW BB
              clear BB KC KM KE rg Rq l0 l1 l4 l5
              have c0 := (R.cell 0).trans (show _ = some _ from rfl)
              have c1 := (R.cell 1).trans (show _ = some _ from rfl)
              have c2 := (R.cell 2).trans (show _ = some _ from rfl)
              have c3 := (R.cell 3).trans (show _ = some _ from rfl)
              have c4 := (R.cell 4).trans (show _ = some _ from rfl)
              have c5 := (R.cell 5).trans (show _ = some _ from rfl)
              have fz := R.frozen
              have l0 := (L.cell 0).trans (show _ = some _ from rfl)
              have l1 := (L.cell 1).trans (show _ = some _ from rfl)
              have l2 := (L.cell 2).trans (show _ = some _ from rfl)
              have l3 := (L.cell 3).trans (show _ = some _ from rfl)
              have l4 := (L.cell 4).trans (show _ = some _ from rfl)
              have l5 := (L.cell 5).trans (show _ = some _ from rfl)
              clear R L
              go_wp2_with fail
              exact bodyPost_ret (v := .tuple #[.agg #[.slice pa a.1.length qa, .int .i64 a.2.1.1, .int .i64 a.2.1.2.1, .int .i64 a.2.1.2.2, .int .i64 a.2.2.1, .slice pm a.2.2.2.length qm], .int .i64 7]) (by simp [results, Tryz.results75, go_sem, c0, c1, c2, c3, c4, c5]) rfl (HQ.out _ _ ⟨pa, qa, pm, qm, a, 7, rfl, ⟨by rw [HN.out], fun h => by cases h⟩, ((((((BW.setCell (Nat.le_refl _) _).setCell (Nat.le_refl _) _).setCell (Nat.le_refl _) _).setCell (Nat.le_refl _) _).setCell (Nat.le_refl _) _).setCell (Nat.le_refl _) _)⟩)
            · have HN : Hid (ckN x r certs signs now data = 0) := by show _ = _; rw [HKE.out, if_pos (sameB_iff.1 hsm)]
              rw [hsm] at KE
              clear hsm HKE
              apply share
              case h =>
                intro JN
                have BB := Below.refl V.heap.size V
                have hne := HW.some V
                have g1 := HW.at (l1)
                have g4 := HW.at (l4)
                refine wp_region_pick [0, 1, 2, 3, 4, 5, 6] 22 15 1 rfl rfl rfl (by kernel_rfl) (by kernel_rfl) (by kernel_rfl) (by kernel_rfl) ?_
                simp only [opsAt, List.getElem?_toArray, List.getElem?_cons_zero, List.getElem?_cons_succ]
                repeat (go_big_quiet_step (fail))
                refine wpQuiet_nil ?_
                clear g1 g4
                refine wpM_only (i := 7) (by kernel_rfl) ?_
                refine mOp_call rfl (by go_simp) 102 _ #[.slice ps signs.length qs, .int .i64 a.2.2.1, .int .i64 a.2.1.1, .slice pg dg.length qg] (fun w => by go_simp) rfl ?_
                rintro _ ⟨sg, rfl⟩
                refine (KC.out _ (Below.step BW (Below.step BB sg.h)) (rg.keep (Below.step BB sg.h))).mono ?_
                rintro e wg1 ⟨rfl, hbx⟩
                have hbg := Below.step sg.h hbx
                refine ⟨_, rfl, ⟨⟨wg1, hbx⟩, rfl⟩, ?_⟩
                replace BB := Below.step BB hbg
                clear hbg hbx sg
                replace hne := HW.some wg1
                have h0 := HW.at (cell_keep (l0) BB)
                have h4 := HW.at (cell_keep (l4) BB)
                have h5 := HW.at (cell_keep (l5) BB)
                refine wpM_more [8, 9, 10, 11, 12, 13, 14, 15, 16, 17, 18] 14 3 rfl (by kernel_rfl) (by kernel_rfl) (by kernel_rfl) (by kernel_rfl) ?_
                simp only [opsAt, List.getElem?_toArray, List.getElem?_cons_zero, List.getElem?_cons_succ]
                go_simp
                repeat (go_big_quiet_step (fail))
                refine wpQuiet_nil ?_
                clear h0 h4 h5
                refine wpM_only (i := 19) (by kernel_rfl) ?_
                refine mOp_call rfl (by go_simp) 68 _ #[.slice p x.length q, .int .i64 r, .slice pa a.1.length qa, .pointer (some ⟨gl, 1, none⟩), .int .i64 a.2.2.1] (fun w => by go_simp) rfl ?_
                rintro _ ⟨sg, rfl⟩
                refine (KM.out _ (Below.step BW (Below.step BB sg.h)) (Below.step BB sg.h)).mono ?_
                rintro e wg2 ⟨um, rfl, km, hbx⟩
                obtain ⟨pq, qq, rfl, -⟩ := km.rd
                have hbg := Below.step sg.h hbx
                refine ⟨_, rfl, ⟨⟨wg2, hbx⟩, rfl⟩, ?_⟩
                have Rq := Rd.own km
                replace BB := Below.step BB hbg
                clear hbg hbx sg km
                replace hne := HW.some wg2
                refine wpM_only (i := 20) (by kernel_rfl) ?_
                refine mOp_call rfl (by go_simp) 57 _ #[.slice pm a.2.2.2.length qm, .slice pq mc.length qq] (fun w => by go_simp) rfl ?_
                rintro _ ⟨sg, rfl⟩
                refine (KE.out _ _ _ (Below.step BB sg.h) (Rq.keep sg.h)).mono ?_
                rintro e wg3 ⟨rfl, hbx⟩
                have hbg := Below.step sg.h hbx
                refine ⟨_, rfl, ⟨⟨wg3, hbx⟩, rfl⟩, ?_⟩
                replace Rq := Rq.keep hbg
                replace BB := Below.step BB hbg
                clear hbg hbx sg
                replace hne := HW.some wg3
                have h0 := HW.at (cell_keep (l0) BB)
                have h4 := HW.at (cell_keep (l4) BB)
                have h5 := HW.at (cell_keep (l5) BB)
                refine wpM_more [21] 1 0 rfl (by kernel_rfl) (by kernel_rfl) (by kernel_rfl) (by kernel_rfl) ?_
                simp only [opsAt, List.getElem?_toArray, List.getElem?_cons_zero, List.getElem?_cons_succ]
                go_simp
                repeat (go_big_quiet_step (fail))
                refine wpQuiet_nil ?_
                clear h0 h4 h5
                refine wpM_end (by kernel_rfl) rfl (by kernel_rfl) (by decide) ?_
                rintro _ ⟨sz, rfl⟩
                simp only [List.drop_succ_cons, List.drop_zero]
                go_simp
                replace Rq := Rq.keep sz.h
                replace BB := Below.step BB sz.h
                clear hne
                generalize sz.w = W at *
                clear sz
                revert Rq
                revert BB
                revert qq
                revert pq
                revert W
                exact JN.out
              intro W pq qq BB Rq
              replace R := R.stay BB
              replace L := L.stay BB
              replace BW := Below.step BW BB
              replace HO : Hid (authC.own W (w.heap.size + 1) a [.slice pa a.1.length qa, .int .i64 a.2.1.1, .int .i64 a.2.1.2.1, .int .i64 a.2.1.2.2, .int .i64 a.2.2.1, .slice pm a.2.2.2.length qm] fp) := authC.stay HO.out BB
              clear BB KC KM KE rg Rq l0 l1 l4 l5
              have c0 := (R.cell 0).trans (show _ = some _ from rfl)
              have c1 := (R.cell 1).trans (show _ = some _ from rfl)
              have c2 := (R.cell 2).trans (show _ = some _ from rfl)
              have c3 := (R.cell 3).trans (show _ = some _ from rfl)
              have c4 := (R.cell 4).trans (show _ = some _ from rfl)
              have c5 := (R.cell 5).trans (show _ = some _ from rfl)
              have fz := R.frozen
              have l0 := (L.cell 0).trans (show _ = some _ from rfl)
              have l1 := (L.cell 1).trans (show _ = some _ from rfl)
              have l2 := (L.cell 2).trans (show _ = some _ from rfl)
              have l3 := (L.cell 3).trans (show _ = some _ from rfl)
              have l4 := (L.cell 4).trans (show _ = some _ from rfl)
              have l5 := (L.cell 5).trans (show _ = some _ from rfl)
              clear R L
              go_wp2_with fail
              exact bodyPost_ret (v := .tuple #[.agg #[.slice pa a.1.length qa, .int .i64 a.2.1.1, .int .i64 a.2.1.2.1, .int .i64 a.2.1.2.2, .int .i64 a.2.2.1, .slice pm a.2.2.2.length qm], .int .i64 0]) (by simp [results, Tryz.results75, go_sem, c0, c1, c2, c3, c4, c5]) rfl (HQ.out _ _ ⟨pa, qa, pm, qm, a, 0, rfl, ⟨HN.out, fun _ => ⟨HS.out, fp, authC.low (authC.set (authC.set (authC.set (authC.set (authC.set (authC.set (HO.out) (Nat.lt_succ_self _) _) (Nat.lt_succ_self _) _) (Nat.lt_succ_self _) _) (Nat.lt_succ_self _) _) (Nat.lt_succ_self _) _) (Nat.lt_succ_self _) _) (Nat.le_succ _)⟩⟩, ((((((BW.setCell (Nat.le_refl _) _).setCell (Nat.le_refl _) _).setCell (Nat.le_refl _) _).setCell (Nat.le_refl _) _).setCell (Nat.le_refl _) _).setCell (Nat.le_refl _) _)⟩)
      · have HNE : ∀ W, (binOp .neq 62 (.agg #[.int .i64 fo.1, .int .i64 fo.2.1, .int .i64 fo.2.2]) (.agg #[.int .i64 a.2.1.1, .int .i64 a.2.1.2.1, .int .i64 a.2.1.2.2])).run Tryz.prog W = .ok (.bool true) W := fun W => neq_cert_other heq W
        have HN : Hid (ckN x r certs signs now data = 4) := by show _ = _; rw [HK.out]; exact hkC_no (fun h => heq (hfo.out.symm.trans h.2))
        clear heq HB
        go_wp2_with fail
        go_quiet (fail)
        clear m0 m1 m2 l1 l2 l3 HNE hI hkl
        have hbq : Below V0.heap.size V0 (V0.drewN nq) := ⟨rfl, rfl, rfl, Nat.le_refl _, fun _ _ => rfl⟩
        replace R := R.stay hbq
        replace L := L.stay hbq
        replace BW := Below.step BW hbq
        replace HO : Hid (authC.own (V0.drewN nq) (w.heap.size + 1) a [.slice pa a.1.length qa, .int .i64 a.2.1.1, .int .i64 a.2.1.2.1, .int .i64 a.2.1.2.2, .int .i64 a.2.2.1, .slice pm a.2.2.2.length qm] fp) := authC.stay HO.out hbq
        clear hbq
        generalize V0.drewN nq = V1 at *
        have c0 := (R.cell 0).trans (show _ = some _ from rfl)
        have c1 := (R.cell 1).trans (show _ = some _ from rfl)
        have c2 := (R.cell 2).trans (show _ = some _ from rfl)
        have c3 := (R.cell 3).trans (show _ = some _ from rfl)
        have c4 := (R.cell 4).trans (show _ = some _ from rfl)
        have c5 := (R.cell 5).trans (show _ = some _ from rfl)
        have fz := R.frozen
        have l0 := (L.cell 0).trans (show _ = some _ from rfl)
        have l1 := (L.cell 1).trans (show _ = some _ from rfl)
        have l2 := (L.cell 2).trans (show _ = some _ from rfl)
        have l3 := (L.cell 3).trans (show _ = some _ from rfl)
        have l4 := (L.cell 4).trans (show _ = some _ from rfl)
        have l5 := (L.cell 5).trans (show _ = some _ from rfl)
        clear R L
        go_wp2_with fail
        exact bodyPost_ret (v := .tuple #[.agg #[.slice pa a.1.length qa, .int .i64 a.2.1.1, .int .i64 a.2.1.2.1, .int .i64 a.2.1.2.2, .int .i64 a.2.2.1, .slice pm a.2.2.2.length qm], .int .i64 4]) (by simp [results, Tryz.results75, go_sem, c0, c1, c2, c3, c4, c5]) rfl (HQ.out _ _ ⟨pa, qa, pm, qm, a, 4, rfl, ⟨by rw [HN.out], fun h => by cases h⟩, ((((((BW.setCell (Nat.le_refl _) _).setCell (Nat.le_refl _) _).setCell (Nat.le_refl _) _).setCell (Nat.le_refl _) _).setCell (Nat.le_refl _) _).setCell (Nat.le_refl _) _)⟩)
theorem caD_bad {x : List UInt8} {r : Int} {certs : List CertD} {signs : List SignD} {now : Int} {data : List UInt8} {k : Int} (h : caC x r certs signs now data = k) (hk : k ≠ 0) : caD x r certs signs now data = (k, zeroA) := by unfold caD; rw [h, if_neg hk]
theorem caD_good {x : List UInt8} {r : Int} {certs : List CertD} {signs : List SignD} {now : Int} {data : List UInt8} {a : AuthD} (h : caC x r certs signs now data = 0) (h2 : raR data = some a) : caD x r certs signs now data = (0, a) := by unfold caD; rw [if_pos h, h2]; rfl
theorem caC_ck {x : List UInt8} {r : Int} {certs : List CertD} {signs : List SignD} {now : Int} {data : List UInt8} (h1 : akC x r = 0) (h2 : ctC certs = 0) (h3 : sgC signs = 0) (h4 : inB now 0 9999 = true) : caC x r certs signs now data = ckN x r certs signs now data := by unfold caC ckN; rw [if_pos h1, if_pos h2, if_pos h3, if_pos h4]; cases raR data <;> rfl
set_option maxRecDepth 4000 in
set_option maxHeartbeats 16000000 in
theorem specCa_k (p pc ps pd : Option Addr) (q qc qs qd : Nat) (x : List UInt8) (r : Int) (certs : List CertD) (signs : List SignD) (now : Int) (data : List UInt8) (w : World) (hr : Rd w p q x) (hrc : RdL certC w pc qc certs) (hrs : RdL signC w ps qs signs) (hrd : Rd w pd qd data) :
    Calls Tryz.prog 39 #[.slice p x.length q, .int .i64 r, .slice pc certs.length qc, .slice ps signs.length qs, .int .i64 now, .slice pd data.length qd] w fun e w' => ∃ us fp, e = .returned (.agg us.toArray) ∧ authResultC.own w' w.heap.size (caD x r certs signs now data) us fp ∧ Below w.heap.size w w' := by
  have BW := alloc_below w (.cells #[.int .i64 0, .slice none 0 0, .int .i64 0, .int .i64 0, .int .i64 0, .int .i64 0, .slice none 0 0] 72)
  have R := Arr.new w [.int .i64 0, .slice none 0 0, .int .i64 0, .int .i64 0, .int .i64 0, .int .i64 0, .slice none 0 0] 72
  have hz0 : Hid ((w.alloc (.cells #[.int .i64 0, .slice none 0 0, .int .i64 0, .int .i64 0, .int .i64 0, .int .i64 0, .slice none 0 0] 72)).heap.size = w.heap.size + 1) := size_alloc _ _
  have hres : Hid ((Tryz.prog.info? 72).map (·.size) = some 7) := by show _ = _; kernel_rfl
  suffices H : ∀ Q : Ending → World → Prop, Hid (∀ e w', (∃ us fp, e = .returned (.agg us.toArray) ∧ authResultC.own w' w.heap.size (caD x r certs signs now data) us fp ∧ Below w.heap.size w w') → Q e w') → Calls Tryz.prog 39 #[.slice p x.length q, .int .i64 r, .slice pc certs.length qc, .slice ps signs.length qs, .int .i64 now, .slice pd data.length qd] w Q by exact H _ (fun _ _ h => h)
  intro Q HQ
  have K1 := l13Asked_c p q x r (w.alloc (.cells #[.int .i64 0, .slice none 0 0, .int .i64 0, .int .i64 0, .int .i64 0, .int .i64 0, .slice none 0 0] 72))
  have K2 := l12Fault_c certs pc qc _ (hrc.keep BW)
  have K3 := l12Signs_c signs ps qs _ (hrs.keep BW)
  have K4 := l1In_c now 0 9999 (w.alloc (.cells #[.int .i64 0, .slice none 0 0, .int .i64 0, .int .i64 0, .int .i64 0, .int .i64 0, .slice none 0 0] 72))
  by_cases h1 : akC x r = 0
  · rw [h1] at K1
    by_cases h2 : ctC certs = 0
    · rw [h2] at K2
      by_cases h3 : sgC signs = 0
      · rw [h3] at K3
        cases h4 : inB now 0 9999
        · rw [h4] at K4
          have HC : Hid (caD x r certs signs now data = (3, zeroA)) := caD_bad (by unfold caC; rw [if_pos h1, if_pos h2, if_pos h3, h4]; rfl) (by decide)
          clear h1 h2 h3 h4 hr hrc hrs hrd
          go_enter Tryz.func39, Tryz.ntmps39
          go_wp2_with fail
          refine K1.mono ?_
          rintro e w2 ⟨rfl, hw⟩
          subst hw
          go_wp2_with fail
          refine K2.mono ?_
          rintro e w2 ⟨rfl, hw⟩
          subst hw
          go_wp2_with fail
          refine K3.mono ?_
          rintro e w2 ⟨rfl, hw⟩
          subst hw
          go_wp2_with fail
          refine K4.mono ?_
          rintro e w2 ⟨rfl, hw⟩
          subst hw
          go_wp2_with (refine wpList_store_row rfl 72 _ _ rfl w.heap.size #[.int .i64 3, .slice none 0 0, .int .i64 0, .int .i64 0, .int .i64 0, .int .i64 0, .slice none 0 0] rfl rfl 72 #[.int .i64 0, .slice none 0 0, .int .i64 0, .int .i64 0, .int .i64 0, .int .i64 0, .slice none 0 0] R hres.out rfl (by simp [Value.oneCell']) ?_)
          exact bodyPost_ret (v := .agg #[.int .i64 3, .slice none 0 0, .int .i64 0, .int .i64 0, .int .i64 0, .int .i64 0, .slice none 0 0]) (results_cell_row Tryz.results39 _ _ w.heap.size 72 _ (0, 0) _ rfl (R.row [.int .i64 3, .slice none 0 0, .int .i64 0, .int .i64 0, .int .i64 0, .int .i64 0, .slice none 0 0]) Tryz.underlying72 rfl hres.out) rfl (HQ.out _ _ ⟨[.int .i64 3, .slice none 0 0, .int .i64 0, .int .i64 0, .int .i64 0, .int .i64 0, .slice none 0 0], _, rfl, by rw [HC.out]; exact authR_own zeroA_own, Below.row BW (Nat.le_refl _) _⟩)
        · rw [h4] at K4
          have HCK : Hid (caC x r certs signs now data = ckN x r certs signs now data) := caC_ck h1 h2 h3 h4
          have K5 := l13Check_c p pc ps pd q qc qs qd x r certs signs now data _ (hr.keep BW) (hrc.keep BW) (hrs.keep BW) (hrd.keep BW) (akC_len h1)
          clear h1 h2 h3 h4 hr hrc hrs hrd
          go_enter Tryz.func39, Tryz.ntmps39
          go_wp2_with fail
          refine K1.mono ?_
          rintro e w2 ⟨rfl, hw⟩
          subst hw
          go_wp2_with fail
          refine K2.mono ?_
          rintro e w2 ⟨rfl, hw⟩
          subst hw
          go_wp2_with fail
          refine K3.mono ?_
          rintro e w2 ⟨rfl, hw⟩
          subst hw
          go_wp2_with fail
          refine K4.mono ?_
          rintro e w2 ⟨rfl, hw⟩
          subst hw
          go_wp2_with fail
          refine K5.mono ?_
          rintro e w1 ⟨pa, qa, pm, qm, a, k, rfl, ⟨hk1, hk2⟩, hb1⟩
          have hl1 := alloc_below w1 (.cells #[.slice pa a.1.length qa, .int .i64 a.2.1.1, .int .i64 a.2.1.2.1, .int .i64 a.2.1.2.2, .int .i64 a.2.2.1, .slice pm a.2.2.2.length qm] 70)
          have L := Arr.new w1 [.slice pa a.1.length qa, .int .i64 a.2.1.1, .int .i64 a.2.1.2.1, .int .i64 a.2.1.2.2, .int .i64 a.2.2.1, .slice pm a.2.2.2.length qm] 70
          replace R := (R.stay hb1).stay hl1
          replace BW := Below.step (Below.step BW hb1) hl1
          have HCK2 : Hid (caC x r certs signs now data = k) := HCK.out.trans hk1
          clear hk1 HCK K1 K2 K3 K4 K5
          by_cases hk : k = 0
          · subst hk
            obtain ⟨hs, fp, hown⟩ := hk2 rfl
            have HC : Hid (caD x r certs signs now data = (0, a)) := caD_good HCK2.out hs
            have HO : Hid (authC.own (w1.alloc (.cells #[.slice pa a.1.length qa, .int .i64 a.2.1.1, .int .i64 a.2.1.2.1, .int .i64 a.2.1.2.2, .int .i64 a.2.2.1, .slice pm a.2.2.2.length qm] 70)) (w.heap.size + 1) a [.slice pa a.1.length qa, .int .i64 a.2.1.1, .int .i64 a.2.1.2.1, .int .i64 a.2.1.2.2, .int .i64 a.2.2.1, .slice pm a.2.2.2.length qm] fp) := by have h := authC.stay hown hl1; rw [hz0.out] at h; exact h
            clear hk2 hs hown hb1 hl1
            have l0 := (L.cell 0).trans (show _ = some _ from rfl)
            have l1 := (L.cell 1).trans (show _ = some _ from rfl)
            have l2 := (L.cell 2).trans (show _ = some _ from rfl)
            have l3 := (L.cell 3).trans (show _ = some _ from rfl)
            have l4 := (L.cell 4).trans (show _ = some _ from rfl)
            have l5 := (L.cell 5).trans (show _ = some _ from rfl)
            clear L
            go_wp2_with (refine wpList_store_row rfl 72 _ _ rfl w.heap.size #[.int .i64 0, .slice pa a.1.length qa, .int .i64 a.2.1.1, .int .i64 a.2.1.2.1, .int .i64 a.2.1.2.2, .int .i64 a.2.2.1, .slice pm a.2.2.2.length qm] rfl rfl 72 #[.int .i64 0, .slice none 0 0, .int .i64 0, .int .i64 0, .int .i64 0, .int .i64 0, .slice none 0 0] R hres.out rfl (by simp [Value.oneCell']) ?_)
            exact bodyPost_ret (v := .agg #[.int .i64 0, .slice pa a.1.length qa, .int .i64 a.2.1.1, .int .i64 a.2.1.2.1, .int .i64 a.2.1.2.2, .int .i64 a.2.2.1, .slice pm a.2.2.2.length qm]) (results_cell_row Tryz.results39 _ _ w.heap.size 72 _ (0, 0) _ rfl (R.row [.int .i64 0, .slice pa a.1.length qa, .int .i64 a.2.1.1, .int .i64 a.2.1.2.1, .int .i64 a.2.1.2.2, .int .i64 a.2.2.1, .slice pm a.2.2.2.length qm]) Tryz.underlying72 rfl hres.out) rfl (HQ.out _ _ ⟨[.int .i64 0, .slice pa a.1.length qa, .int .i64 a.2.1.1, .int .i64 a.2.1.2.1, .int .i64 a.2.1.2.2, .int .i64 a.2.2.1, .slice pm a.2.2.2.length qm], _, rfl, by rw [HC.out]; exact authR_own (authC.low (authC.rowA HO.out (Nat.lt_succ_self _) _) (Nat.le_succ _)), Below.row BW (Nat.le_refl _) _⟩)
          · have HC : Hid (caD x r certs signs now data = (k, zeroA)) := caD_bad HCK2.out hk
            have dk : (k != 0) = true := by rw [bne_iff_ne]; exact hk
            clear hk hk2 hb1 hl1 L
            go_wp2_with (refine wpList_store_row rfl 72 _ _ rfl w.heap.size #[.int .i64 k, .slice none 0 0, .int .i64 0, .int .i64 0, .int .i64 0, .int .i64 0, .slice none 0 0] rfl rfl 72 #[.int .i64 0, .slice none 0 0, .int .i64 0, .int .i64 0, .int .i64 0, .int .i64 0, .slice none 0 0] R hres.out rfl (by simp [Value.oneCell']) ?_)
            exact bodyPost_ret (v := .agg #[.int .i64 k, .slice none 0 0, .int .i64 0, .int .i64 0, .int .i64 0, .int .i64 0, .slice none 0 0]) (results_cell_row Tryz.results39 _ _ w.heap.size 72 _ (0, 0) _ rfl (R.row [.int .i64 k, .slice none 0 0, .int .i64 0, .int .i64 0, .int .i64 0, .int .i64 0, .slice none 0 0]) Tryz.underlying72 rfl hres.out) rfl (HQ.out _ _ ⟨[.int .i64 k, .slice none 0 0, .int .i64 0, .int .i64 0, .int .i64 0, .int .i64 0, .slice none 0 0], _, rfl, by rw [HC.out]; exact authR_own zeroA_own, Below.row BW (Nat.le_refl _) _⟩)
      · have HC : Hid (caD x r certs signs now data = (sgC signs, zeroA)) := caD_bad (by unfold caC; rw [if_pos h1, if_pos h2, if_neg h3]) h3
        have dk : (sgC signs != 0) = true := by rw [bne_iff_ne]; exact h3
        clear h1 h2 h3 hr hrc hrs hrd K4
        generalize sgC signs = k at *
        go_enter Tryz.func39, Tryz.ntmps39
        go_wp2_with fail
        refine K1.mono ?_
        rintro e w2 ⟨rfl, hw⟩
        subst hw
        go_wp2_with fail
        refine K2.mono ?_
        rintro e w2 ⟨rfl, hw⟩
        subst hw
        go_wp2_with fail
        refine K3.mono ?_
        rintro e w2 ⟨rfl, hw⟩
        subst hw
        go_wp2_with (refine wpList_store_row rfl 72 _ _ rfl w.heap.size #[.int .i64 k, .slice none 0 0, .int .i64 0, .int .i64 0, .int .i64 0, .int .i64 0, .slice none 0 0] rfl rfl 72 #[.int .i64 0, .slice none 0 0, .int .i64 0, .int .i64 0, .int .i64 0, .int .i64 0, .slice none 0 0] R hres.out rfl (by simp [Value.oneCell']) ?_)
        exact bodyPost_ret (v := .agg #[.int .i64 k, .slice none 0 0, .int .i64 0, .int .i64 0, .int .i64 0, .int .i64 0, .slice none 0 0]) (results_cell_row Tryz.results39 _ _ w.heap.size 72 _ (0, 0) _ rfl (R.row [.int .i64 k, .slice none 0 0, .int .i64 0, .int .i64 0, .int .i64 0, .int .i64 0, .slice none 0 0]) Tryz.underlying72 rfl hres.out) rfl (HQ.out _ _ ⟨[.int .i64 k, .slice none 0 0, .int .i64 0, .int .i64 0, .int .i64 0, .int .i64 0, .slice none 0 0], _, rfl, by rw [HC.out]; exact authR_own zeroA_own, Below.row BW (Nat.le_refl _) _⟩)
    · have HC : Hid (caD x r certs signs now data = (ctC certs, zeroA)) := caD_bad (by unfold caC; rw [if_pos h1, if_neg h2]) h2
      have dk : (ctC certs != 0) = true := by rw [bne_iff_ne]; exact h2
      clear h1 h2 hr hrc hrs hrd K4 K3
      generalize ctC certs = k at *
      go_enter Tryz.func39, Tryz.ntmps39
      go_wp2_with fail
      refine K1.mono ?_
      rintro e w2 ⟨rfl, hw⟩
      subst hw
      go_wp2_with fail
      refine K2.mono ?_
      rintro e w2 ⟨rfl, hw⟩
      subst hw
      go_wp2_with (refine wpList_store_row rfl 72 _ _ rfl w.heap.size #[.int .i64 k, .slice none 0 0, .int .i64 0, .int .i64 0, .int .i64 0, .int .i64 0, .slice none 0 0] rfl rfl 72 #[.int .i64 0, .slice none 0 0, .int .i64 0, .int .i64 0, .int .i64 0, .int .i64 0, .slice none 0 0] R hres.out rfl (by simp [Value.oneCell']) ?_)
      exact bodyPost_ret (v := .agg #[.int .i64 k, .slice none 0 0, .int .i64 0, .int .i64 0, .int .i64 0, .int .i64 0, .slice none 0 0]) (results_cell_row Tryz.results39 _ _ w.heap.size 72 _ (0, 0) _ rfl (R.row [.int .i64 k, .slice none 0 0, .int .i64 0, .int .i64 0, .int .i64 0, .int .i64 0, .slice none 0 0]) Tryz.underlying72 rfl hres.out) rfl (HQ.out _ _ ⟨[.int .i64 k, .slice none 0 0, .int .i64 0, .int .i64 0, .int .i64 0, .int .i64 0, .slice none 0 0], _, rfl, by rw [HC.out]; exact authR_own zeroA_own, Below.row BW (Nat.le_refl _) _⟩)
  · have HC : Hid (caD x r certs signs now data = (akC x r, zeroA)) := caD_bad (by unfold caC; rw [if_neg h1]) h1
    have dk : (akC x r != 0) = true := by rw [bne_iff_ne]; exact h1
    clear h1 hr hrc hrs hrd K4 K3 K2
    generalize akC x r = k at *
    go_enter Tryz.func39, Tryz.ntmps39
    go_wp2_with fail
    refine K1.mono ?_
    rintro e w2 ⟨rfl, hw⟩
    subst hw
    go_wp2_with (refine wpList_store_row rfl 72 _ _ rfl w.heap.size #[.int .i64 k, .slice none 0 0, .int .i64 0, .int .i64 0, .int .i64 0, .int .i64 0, .slice none 0 0] rfl rfl 72 #[.int .i64 0, .slice none 0 0, .int .i64 0, .int .i64 0, .int .i64 0, .int .i64 0, .slice none 0 0] R hres.out rfl (by simp [Value.oneCell']) ?_)
    exact bodyPost_ret (v := .agg #[.int .i64 k, .slice none 0 0, .int .i64 0, .int .i64 0, .int .i64 0, .int .i64 0, .slice none 0 0]) (results_cell_row Tryz.results39 _ _ w.heap.size 72 _ (0, 0) _ rfl (R.row [.int .i64 k, .slice none 0 0, .int .i64 0, .int .i64 0, .int .i64 0, .int .i64 0, .slice none 0 0]) Tryz.underlying72 rfl hres.out) rfl (HQ.out _ _ ⟨[.int .i64 k, .slice none 0 0, .int .i64 0, .int .i64 0, .int .i64 0, .int .i64 0, .slice none 0 0], _, rfl, by rw [HC.out]; exact authR_own zeroA_own, Below.row BW (Nat.le_refl _) _⟩)
end Go.Proofs.YtbaldmmbphbinaaGreatDoor

