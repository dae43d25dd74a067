/- The draws of chapter 14 for what is revoked and for time (written by tools/draw_ho.py). What comes out can be read; of the session the two ways to ask what is held agree. -/
import Derived.Test.YtflhoefocjmihaaDrawCl
import Derived.Test.YtflhoefocjmihaaJoint10
namespace Go.Proofs.Ytflhoefocjmihaa
open Go.ChangeShapes Go.WideShapes Go.ChangeAt Go.RowKit

def DrawnRv (w : World) (e : Ending) (w' : World) : Prop := ∃ (x : SesD) (vs : List Value) (id : Int), e = .returned (.tuple #[.agg vs.toArray, .int .i64 id]) ∧ sessionC.rep w' x vs ∧ hdC x.2.2.2.2 = hdS x.2.2.2.2 ∧ (0 ≤ id ∧ id ≤ 100) ∧ Below w.heap.size w w'
theorem Clo.held {W : World} {B : Nat} {x : SesD} {p1 p3 p4 p5 : Option Addr} {q1 q3 q4 q5 k : Nat} {a : HeldD} (h : Clo W B x [.slice p1 x.1.length q1, .int .i64 x.2.1, .slice p3 x.2.2.1.length q3, .slice p4 x.2.2.2.1.length q4, .slice p5 x.2.2.2.2.length q5]) {FP : List Nat} (hF : ∀ k, k ∈ FP → k < B) (hk : x.2.2.2.2[k]? = some a) : ∃ b5 o5, p5 = some ⟨b5, o5, none⟩ ∧ ∀ s : GenS.CW (Only FP) W, s.w.cell? ⟨b5, o5 + k * 2, none⟩ = some (.int .i64 a.1) := by
  have hl := (List.getElem?_eq_some_iff.1 hk).1
  obtain ⟨b5, o5, e5, -⟩ := h.rds.2.2.2.2.2.2 (by omega)
  refine ⟨b5, o5, e5, fun s => ?_⟩
  have h2 : Clo s.w B x _ := h.go (V := s.w) (fun k h1 h2 => s.h.block k h2 (fun e => by have := hF k e; omega)) s.h.size
  obtain ⟨b6, o6, e6, hc⟩ := h2.rds.2.2.2.2.2.2 (by omega)
  rw [e5] at e6
  obtain ⟨rfl, rfl⟩ : b5 = b6 ∧ o5 = o6 := by simpa using e6
  obtain ⟨us, hrep, hcell⟩ := hc k a hk
  obtain rfl := hold_rep hrep
  exact hcell 0 _ rfl
set_option maxRecDepth 4000 in
set_option maxHeartbeats 4000000 in
theorem drawRv_c (p : Option Addr) (q : Nat) (cs : List UInt8) (w : World) (hr : Rd w p q cs) :
    Calls Try.prog 5 #[.slice p cs.length q] w fun e w' => DrawnRv w e w' := by
  have R := Arr.new w [.slice none 0 0, .int .i64 0, .slice none 0 0, .slice none 0 0, .slice none 0 0] 27
  have BW := alloc_below w (.cells #[.slice none 0 0, .int .i64 0, .slice none 0 0, .slice none 0 0, .slice none 0 0] 27)
  have hs0 : Hid ((w.alloc (.cells #[.slice none 0 0, .int .i64 0, .slice none 0 0, .slice none 0 0, .slice none 0 0] 27)).heap.size = w.heap.size + 1) := size_alloc _ _
  have hres : Hid ((Try.prog.info? 27).map (·.size) = some 5) := by show _ = _; kernel_rfl
  go_enter Try.func5, Try.ntmps5
  go_wp2_with fail
  refine (l1Source_c p q cs _ (hr.keep BW)).mono ?_
  rintro e w1 ⟨rfl, hs, hb, hlt⟩
  rw [hs0.out] at hs hlt
  replace R := R.stay hb
  replace BW := Below.step BW hb
  have z1 : Hid (w.heap.size + 1 < w1.heap.size) := hlt
  clear hb hr hlt
  rw [hs0.out]
  clear hs0
  go_wp2_with fail
  refine (l14Bent_c (w.heap.size + 1) p q cs 0 w1 hs (by omega) (by omega)).mono ?_
  rintro e w2 ⟨x, vs, t1, rfl, CL, hdd, hln, hbd, ht1, ht2, hs2, hg2⟩
  obtain ⟨p1, q1, p3, q3, p4, q4, p5, q5, rfl, -, -, -, -⟩ := session_rep (CL w2 (fun _ _ _ => rfl))
  have z2 : Hid (w1.heap.size ≤ w2.heap.size) := hg2.size
  replace R := R.other hg2 (fun e => by have h := Option.some.inj e; omega)
  replace BW := BW.grown hg2 (by have h1 := BW.size; omega) (fun k hk => by simp at hk; omega)
  have HDD : Hid (hdC x.2.2.2.2 = hdS x.2.2.2.2) := hdd
  have HLN : Hid (x.2.2.2.2.length ≤ 101) := hln
  have HBD : Hid (∀ h ∈ x.2.2.2.2, 0 ≤ h.1 ∧ h.1 ≤ 100) := hbd
  clear hs hg2 hdd hln hbd
  have XL := Arr.new w2 [.slice p1 x.1.length q1, .int .i64 x.2.1, .slice p3 x.2.2.1.length q3, .slice p4 x.2.2.2.1.length q4, .slice p5 x.2.2.2.2.length q5] 27
  have hb := alloc_below w2 (.cells #[.slice p1 x.1.length q1, .int .i64 x.2.1, .slice p3 x.2.2.1.length q3, .slice p4 x.2.2.2.1.length q4, .slice p5 x.2.2.2.2.length q5] 27)
  replace R := R.stay hb
  replace BW := Below.step BW hb
  replace CL := CL.go (fun k _ h2 => hb.block k h2) hb.size
  have HS := hs2.keep hb
  clear hs2 hb
  have a0 := (XL.cell 0).trans (show _ = some _ from rfl)
  have a1 := (XL.cell 1).trans (show _ = some _ from rfl)
  have a2 := (XL.cell 2).trans (show _ = some _ from rfl)
  have a3 := (XL.cell 3).trans (show _ = some _ from rfl)
  have a4 := (XL.cell 4).trans (show _ = some _ from rfl)
  have hq1 : x.2.2.2.2.length ≤ q5 := CL.rds.2.2.2.1
  have hq2 : q5 ≤ 2 ^ 63 - 1 := CL.rds.2.2.2.2.1
  have hlI := HLN.out
  by_cases h0 : 0 < x.2.2.2.2.length
  · have hI : 0 < (x.2.2.2.2.length : Int) := by omega
    go_wp2_with fail
    generalize hV : w2.alloc (.cells #[.slice p1 x.1.length q1, .int .i64 x.2.1, .slice p3 x.2.2.1.length q3, .slice p4 x.2.2.2.1.length q4, .slice p5 x.2.2.2.2.length q5] 27) = V at *
    clear hV
    refine (l1Chance_c (w.heap.size + 1) p q cs t1 3 V HS (by omega) (by omega) (by omega) (by omega)).mono ?_
    rintro e w4 ⟨rb, rfl, HS4, hg4⟩
    replace R := R.other hg4 (fun e => by have h := Option.some.inj e; omega)
    replace XL := XL.other hg4 (fun e => by have h := Option.some.inj e; have h1 := z1.out; have h2 := z2.out; omega)
    replace CL := CL.go (fun k h1 h2 => hg4.block k h2 (fun e => by have h := Option.some.inj e; have h3 := z1.out; omega)) hg4.size
    replace BW := BW.grown hg4 (by have h1 := BW.size; omega) (fun k hk => by simp at hk; omega)
    clear HS hg4 a0 a1 a2 a3 a4
    have HS := HS4
    clear HS4
    cases rb
    · have HQ : Hid (x.2.2.2.2.length ≤ q5) := hq1
      have hnx : w2.heap.size ∉ [w.heap.size, w.heap.size + 1] := by have h1 := z1.out; have h2 := z2.out; simp; omega
      have m0 := GenS.only_cell (fp := [w.heap.size, w.heap.size + 1]) ((XL.cell 0).trans (show _ = some _ from rfl)) hnx
      have m1 := GenS.only_cell (fp := [w.heap.size, w.heap.size + 1]) ((XL.cell 1).trans (show _ = some _ from rfl)) hnx
      have m2 := GenS.only_cell (fp := [w.heap.size, w.heap.size + 1]) ((XL.cell 2).trans (show _ = some _ from rfl)) hnx
      have m3 := GenS.only_cell (fp := [w.heap.size, w.heap.size + 1]) ((XL.cell 3).trans (show _ = some _ from rfl)) hnx
      have m4 := GenS.only_cell (fp := [w.heap.size, w.heap.size + 1]) ((XL.cell 4).trans (show _ = some _ from rfl)) hnx
      have hne := GenS.only_some [w.heap.size, w.heap.size + 1] w4
      clear hnx
      go_wp2_with fail
      refine GenS.wp_region_pick (GenS.only_pre [w.heap.size, w.heap.size + 1]) [0, 1, 2, 3, 4, 5, 6] 12 5 1 rfl rfl rfl (by kernel_rfl) (by kernel_rfl) (by kernel_rfl) (by kernel_rfl) ?_
      simp only [opsAt, List.getElem?_toArray, List.getElem?_cons_zero, List.getElem?_cons_succ]
      repeat (go_big_quiet_step (fail))
      refine wpQuiet_nil ?_
      clear m0 m1 m2 m3 m4 hne
      refine GenS.wpM_only (i := 7) (by kernel_rfl) ?_
      refine GenS.mOp_call rfl (by go_simp) 16 _ #[.pointer (some ⟨w.heap.size + 1, 0, none⟩), .int .i64 (x.2.2.2.2.length : Int)] (fun w => by go_simp) rfl ?_
      rintro _ ⟨n1, rfl⟩
      refine (l1Next_c (w.heap.size + 1) p q cs (t1 + 1) (x.2.2.2.2.length : Int) _ (HS.drewN n1) (by omega) (by omega) (by omega) (by omega)).mono ?_
      rintro e w9 ⟨r, rfl, hr0, hr1, HS9, hg9⟩
      refine ⟨_, rfl, ⟨⟨w9, Only.more (Only.grown hg9) (fun k hk => by simp at hk; simp [hk])⟩, rfl⟩, ?_⟩
      have hgw : w4.grownBy w9 (some (w.heap.size + 1)) := grownBy_trans (grownBy_drewN w4 n1 _) hg9
      replace R := R.other hgw (fun e => by have h := Option.some.inj e; omega)
      replace CL := CL.go (fun k h1 h2 => hgw.block k h2 (fun e => by have h := Option.some.inj e; have h3 := z1.out; omega)) hgw.size
      replace BW := BW.grown hgw (by have h1 := BW.size; omega) (fun k hk => by simp at hk; omega)
      clear hgw hg9 HS HS9
      obtain ⟨k, rfl⟩ := Int.eq_ofNat_of_zero_le hr0
      have hk : k < x.2.2.2.2.length := by omega
      obtain ⟨a, ha⟩ : ∃ a, x.2.2.2.2[k]? = some a := ⟨x.2.2.2.2[k], by simp [hk]⟩
      obtain ⟨b5, o5, rfl, gc⟩ := CL.held (FP := [w.heap.size, w.heap.size + 1]) (fun k hk => by have h := z1.out; simp at hk; omega) ha
      have HA : Hid (a ∈ x.2.2.2.2) := List.mem_of_getElem? ha
      clear ha hk
      have hne := GenS.only_some [w.heap.size, w.heap.size + 1] w9
      refine GenS.wpM_more (GenS.only_pre [w.heap.size, w.heap.size + 1]) [8, 9, 10] 4 1 rfl (by kernel_rfl) (by kernel_rfl) (by kernel_rfl) (by kernel_rfl) ?_
      simp only [opsAt, List.getElem?_toArray, List.getElem?_cons_zero, List.getElem?_cons_succ]
      go_simp
      repeat (go_big_quiet_step (fail))
      refine wpQuiet_nil ?_
      clear hne gc
      refine GenS.wpM_only (i := 11) (by kernel_rfl) ?_
      refine GenS.mOp_store rfl (by go_simp) 27 _ _ rfl w.heap.size #[.slice p1 x.1.length q1, .int .i64 x.2.1, .slice p3 x.2.2.1.length q3, .slice p4 x.2.2.2.1.length q4, .slice (some ⟨b5, o5, none⟩) x.2.2.2.2.length q5] rfl rfl 27 #[.slice none 0 0, .int .i64 0, .slice none 0 0, .slice none 0 0, .slice none 0 0] (fun n => R) hres.out rfl (by simp [Value.oneCell']) (fun n => Only.more (Only.grown (grown_rowS _ _ _)) (fun k hk => by simp at hk; simp [hk])) ?_
      intro n2
      refine GenS.wpM_end (by kernel_rfl) rfl (by kernel_rfl) (by decide) ?_
      rintro _ ⟨n3, rfl⟩
      simp only [List.drop_succ_cons, List.drop_zero]
      have RA : Arr (((w9.drewN n2).setRow w.heap.size #[.slice p1 x.1.length q1, .int .i64 x.2.1, .slice p3 x.2.2.1.length q3, .slice p4 x.2.2.2.1.length q4, .slice (some ⟨b5, o5, none⟩) x.2.2.2.2.length q5]).drewN n3) w.heap.size 27 [.slice p1 x.1.length q1, .int .i64 x.2.1, .slice p3 x.2.2.1.length q3, .slice p4 x.2.2.2.1.length q4, .slice (some ⟨b5, o5, none⟩) x.2.2.2.2.length q5] := Arr.row (w := w9.drewN n2) R [.slice p1 x.1.length q1, .int .i64 x.2.1, .slice p3 x.2.2.1.length q3, .slice p4 x.2.2.2.1.length q4, .slice (some ⟨b5, o5, none⟩) x.2.2.2.2.length q5]
      have SAME : ∀ k, w.heap.size < k → (((w9.drewN n2).setRow w.heap.size #[.slice p1 x.1.length q1, .int .i64 x.2.1, .slice p3 x.2.2.1.length q3, .slice p4 x.2.2.2.1.length q4, .slice (some ⟨b5, o5, none⟩) x.2.2.2.2.length q5]).drewN n3).heap[k]? = w9.heap[k]? := fun k hk => setRow_other (w9.drewN n2) w.heap.size k #[.slice p1 x.1.length q1, .int .i64 x.2.1, .slice p3 x.2.2.1.length q3, .slice p4 x.2.2.2.1.length q4, .slice (some ⟨b5, o5, none⟩) x.2.2.2.2.length q5] (by omega)
      have HZ : (((w9.drewN n2).setRow w.heap.size #[.slice p1 x.1.length q1, .int .i64 x.2.1, .slice p3 x.2.2.1.length q3, .slice p4 x.2.2.2.1.length q4, .slice (some ⟨b5, o5, none⟩) x.2.2.2.2.length q5]).drewN n3).heap.size = w9.heap.size := size_setRow _ _ _
      have BEL : Below w.heap.size w (((w9.drewN n2).setRow w.heap.size #[.slice p1 x.1.length q1, .int .i64 x.2.1, .slice p3 x.2.2.1.length q3, .slice p4 x.2.2.2.1.length q4, .slice (some ⟨b5, o5, none⟩) x.2.2.2.2.length q5]).drewN n3) := (Below.row (BW.trans (show Below w.heap.size w9 (w9.drewN n2) from ⟨rfl, rfl, rfl, Nat.le_refl _, fun _ _ => rfl⟩)) (Nat.le_refl _) #[.slice p1 x.1.length q1, .int .i64 x.2.1, .slice p3 x.2.2.1.length q3, .slice p4 x.2.2.2.1.length q4, .slice (some ⟨b5, o5, none⟩) x.2.2.2.2.length q5]).trans ⟨rfl, rfl, rfl, Nat.le_refl _, fun _ _ => rfl⟩
      have RP := (CL.go (V := ((w9.drewN n2).setRow w.heap.size #[.slice p1 x.1.length q1, .int .i64 x.2.1, .slice p3 x.2.2.1.length q3, .slice p4 x.2.2.2.1.length q4, .slice (some ⟨b5, o5, none⟩) x.2.2.2.2.length q5]).drewN n3) (fun k h1 _ => SAME k (by have h := z1.out; omega)) (Nat.le_of_eq HZ.symm)) _ (fun _ _ _ => rfl)
      clear R CL XL BW SAME HZ
      generalize ((w9.drewN n2).setRow w.heap.size #[.slice p1 x.1.length q1, .int .i64 x.2.1, .slice p3 x.2.2.1.length q3, .slice p4 x.2.2.2.1.length q4, .slice (some ⟨b5, o5, none⟩) x.2.2.2.2.length q5]).drewN n3 = W at *
      have c0 := (RA.cell 0).trans (show _ = some _ from rfl)
      have c1 := (RA.cell 1).trans (show _ = some _ from rfl)
      have c2 := (RA.cell 2).trans (show _ = some _ from rfl)
      have c3 := (RA.cell 3).trans (show _ = some _ from rfl)
      have c4 := (RA.cell 4).trans (show _ = some _ from rfl)
      go_wp2_with fail
      exact bodyPost_ret (v := .tuple #[.agg #[.slice p1 x.1.length q1, .int .i64 x.2.1, .slice p3 x.2.2.1.length q3, .slice p4 x.2.2.2.1.length q4, .slice (some ⟨b5, o5, none⟩) x.2.2.2.2.length q5], .int .i64 a.1]) (by simp [results, Try.results5, go_sem, c0, c1, c2, c3, c4]) rfl ⟨x, [.slice p1 x.1.length q1, .int .i64 x.2.1, .slice p3 x.2.2.1.length q3, .slice p4 x.2.2.2.1.length q4, .slice (some ⟨b5, o5, none⟩) x.2.2.2.2.length q5], a.1, rfl, RP, HDD.out, HBD.out a HA.out, BEL⟩
    · clear hI
      have hnx : w2.heap.size ∉ [w.heap.size, w.heap.size + 1] := by have h1 := z1.out; have h2 := z2.out; simp; omega
      have m0 := GenS.only_cell (fp := [w.heap.size, w.heap.size + 1]) ((XL.cell 0).trans (show _ = some _ from rfl)) hnx
      have m1 := GenS.only_cell (fp := [w.heap.size, w.heap.size + 1]) ((XL.cell 1).trans (show _ = some _ from rfl)) hnx
      have m2 := GenS.only_cell (fp := [w.heap.size, w.heap.size + 1]) ((XL.cell 2).trans (show _ = some _ from rfl)) hnx
      have m3 := GenS.only_cell (fp := [w.heap.size, w.heap.size + 1]) ((XL.cell 3).trans (show _ = some _ from rfl)) hnx
      have m4 := GenS.only_cell (fp := [w.heap.size, w.heap.size + 1]) ((XL.cell 4).trans (show _ = some _ from rfl)) hnx
      have hne := GenS.only_some [w.heap.size, w.heap.size + 1] w4
      clear hnx
      go_wp2_with fail
      refine GenS.wp_region_pick (GenS.only_pre [w.heap.size, w.heap.size + 1]) [0, 1] 5 3 1 rfl rfl rfl (by kernel_rfl) (by kernel_rfl) (by kernel_rfl) (by kernel_rfl) ?_
      simp only [opsAt, List.getElem?_toArray, List.getElem?_cons_zero, List.getElem?_cons_succ]
      repeat (go_big_quiet_step (fail))
      refine wpQuiet_nil ?_
      clear m0 m1 m2 m3 m4 hne
      refine GenS.wpM_only (i := 2) (by kernel_rfl) ?_
      refine GenS.mOp_call rfl (by go_simp) 16 _ #[.pointer (some ⟨w.heap.size + 1, 0, none⟩), .int .i64 6] (fun w => by go_simp) rfl ?_
      rintro _ ⟨n1, rfl⟩
      refine (l1Next_c (w.heap.size + 1) p q cs (t1 + 1) 6 _ (HS.drewN n1) (by omega) (by omega) (by omega) (by omega)).mono ?_
      rintro e w9 ⟨r, rfl, hr0, hr1, HS9, hg9⟩
      refine ⟨_, rfl, ⟨⟨w9, Only.more (Only.grown hg9) (fun k hk => by simp at hk; simp [hk])⟩, rfl⟩, ?_⟩
      have hgw : w4.grownBy w9 (some (w.heap.size + 1)) := grownBy_trans (grownBy_drewN w4 n1 _) hg9
      replace R := R.other hgw (fun e => by have h := Option.some.inj e; omega)
      replace CL := CL.go (fun k h1 h2 => hgw.block k h2 (fun e => by have h := Option.some.inj e; have h3 := z1.out; omega)) hgw.size
      replace BW := BW.grown hgw (by have h1 := BW.size; omega) (fun k hk => by simp at hk; omega)
      clear hgw hg9 HS HS9
      have hne := GenS.only_some [w.heap.size, w.heap.size + 1] w9
      refine GenS.wpM_more (GenS.only_pre [w.heap.size, w.heap.size + 1]) [3] 2 1 rfl (by kernel_rfl) (by kernel_rfl) (by kernel_rfl) (by kernel_rfl) ?_
      simp only [opsAt, List.getElem?_toArray, List.getElem?_cons_zero, List.getElem?_cons_succ]
      go_simp
      repeat (go_big_quiet_step (fail))
      refine wpQuiet_nil ?_
      clear hne
      refine GenS.wpM_only (i := 4) (by kernel_rfl) ?_
      refine GenS.mOp_store rfl (by go_simp) 27 _ _ rfl w.heap.size #[.slice p1 x.1.length q1, .int .i64 x.2.1, .slice p3 x.2.2.1.length q3, .slice p4 x.2.2.2.1.length q4, .slice p5 x.2.2.2.2.length q5] rfl rfl 27 #[.slice none 0 0, .int .i64 0, .slice none 0 0, .slice none 0 0, .slice none 0 0] (fun n => R) hres.out rfl (by simp [Value.oneCell']) (fun n => Only.more (Only.grown (grown_rowS _ _ _)) (fun k hk => by simp at hk; simp [hk])) ?_
      intro n2
      refine GenS.wpM_end (by kernel_rfl) rfl (by kernel_rfl) (by decide) ?_
      rintro _ ⟨n3, rfl⟩
      simp only [List.drop_succ_cons, List.drop_zero]
      have RA : Arr (((w9.drewN n2).setRow w.heap.size #[.slice p1 x.1.length q1, .int .i64 x.2.1, .slice p3 x.2.2.1.length q3, .slice p4 x.2.2.2.1.length q4, .slice p5 x.2.2.2.2.length q5]).drewN n3) w.heap.size 27 [.slice p1 x.1.length q1, .int .i64 x.2.1, .slice p3 x.2.2.1.length q3, .slice p4 x.2.2.2.1.length q4, .slice p5 x.2.2.2.2.length q5] := Arr.row (w := w9.drewN n2) R [.slice p1 x.1.length q1, .int .i64 x.2.1, .slice p3 x.2.2.1.length q3, .slice p4 x.2.2.2.1.length q4, .slice p5 x.2.2.2.2.length q5]
      have SAME : ∀ k, w.heap.size < k → (((w9.drewN n2).setRow w.heap.size #[.slice p1 x.1.length q1, .int .i64 x.2.1, .slice p3 x.2.2.1.length q3, .slice p4 x.2.2.2.1.length q4, .slice p5 x.2.2.2.2.length q5]).drewN n3).heap[k]? = w9.heap[k]? := fun k hk => setRow_other (w9.drewN n2) w.heap.size k #[.slice p1 x.1.length q1, .int .i64 x.2.1, .slice p3 x.2.2.1.length q3, .slice p4 x.2.2.2.1.length q4, .slice p5 x.2.2.2.2.length q5] (by omega)
      have HZ : (((w9.drewN n2).setRow w.heap.size #[.slice p1 x.1.length q1, .int .i64 x.2.1, .slice p3 x.2.2.1.length q3, .slice p4 x.2.2.2.1.length q4, .slice p5 x.2.2.2.2.length q5]).drewN n3).heap.size = w9.heap.size := size_setRow _ _ _
      have BEL : Below w.heap.size w (((w9.drewN n2).setRow w.heap.size #[.slice p1 x.1.length q1, .int .i64 x.2.1, .slice p3 x.2.2.1.length q3, .slice p4 x.2.2.2.1.length q4, .slice p5 x.2.2.2.2.length q5]).drewN n3) := (Below.row (BW.trans (show Below w.heap.size w9 (w9.drewN n2) from ⟨rfl, rfl, rfl, Nat.le_refl _, fun _ _ => rfl⟩)) (Nat.le_refl _) #[.slice p1 x.1.length q1, .int .i64 x.2.1, .slice p3 x.2.2.1.length q3, .slice p4 x.2.2.2.1.length q4, .slice p5 x.2.2.2.2.length q5]).trans ⟨rfl, rfl, rfl, Nat.le_refl _, fun _ _ => rfl⟩
      have RP := (CL.go (V := ((w9.drewN n2).setRow w.heap.size #[.slice p1 x.1.length q1, .int .i64 x.2.1, .slice p3 x.2.2.1.length q3, .slice p4 x.2.2.2.1.length q4, .slice p5 x.2.2.2.2.length q5]).drewN n3) (fun k h1 _ => SAME k (by have h := z1.out; omega)) (Nat.le_of_eq HZ.symm)) _ (fun _ _ _ => rfl)
      clear R CL XL BW SAME HZ
      generalize ((w9.drewN n2).setRow w.heap.size #[.slice p1 x.1.length q1, .int .i64 x.2.1, .slice p3 x.2.2.1.length q3, .slice p4 x.2.2.2.1.length q4, .slice p5 x.2.2.2.2.length q5]).drewN n3 = W at *
      have c0 := (RA.cell 0).trans (show _ = some _ from rfl)
      have c1 := (RA.cell 1).trans (show _ = some _ from rfl)
      have c2 := (RA.cell 2).trans (show _ = some _ from rfl)
      have c3 := (RA.cell 3).trans (show _ = some _ from rfl)
      have c4 := (RA.cell 4).trans (show _ = some _ from rfl)
      go_wp2_with fail
      exact bodyPost_ret (v := .tuple #[.agg #[.slice p1 x.1.length q1, .int .i64 x.2.1, .slice p3 x.2.2.1.length q3, .slice p4 x.2.2.2.1.length q4, .slice p5 x.2.2.2.2.length q5], .int .i64 (1 + r)]) (by simp [results, Try.results5, go_sem, c0, c1, c2, c3, c4]) rfl ⟨x, [.slice p1 x.1.length q1, .int .i64 x.2.1, .slice p3 x.2.2.1.length q3, .slice p4 x.2.2.2.1.length q4, .slice p5 x.2.2.2.2.length q5], (1 + r), rfl, RP, HDD.out, by omega, BEL⟩
  · have hI : ¬ 0 < (x.2.2.2.2.length : Int) := by omega
    go_wp2_with fail
    generalize hV : w2.alloc (.cells #[.slice p1 x.1.length q1, .int .i64 x.2.1, .slice p3 x.2.2.1.length q3, .slice p4 x.2.2.2.1.length q4, .slice p5 x.2.2.2.2.length q5] 27) = V at *
    clear hV a0 a1 a2 a3 a4
    have hnx : w2.heap.size ∉ [w.heap.size, w.heap.size + 1] := by have h1 := z1.out; have h2 := z2.out; simp; omega
    have m0 := GenS.only_cell (fp := [w.heap.size, w.heap.size + 1]) ((XL.cell 0).trans (show _ = some _ from rfl)) hnx
    have m1 := GenS.only_cell (fp := [w.heap.size, w.heap.size + 1]) ((XL.cell 1).trans (show _ = some _ from rfl)) hnx
    have m2 := GenS.only_cell (fp := [w.heap.size, w.heap.size + 1]) ((XL.cell 2).trans (show _ = some _ from rfl)) hnx
    have m3 := GenS.only_cell (fp := [w.heap.size, w.heap.size + 1]) ((XL.cell 3).trans (show _ = some _ from rfl)) hnx
    have m4 := GenS.only_cell (fp := [w.heap.size, w.heap.size + 1]) ((XL.cell 4).trans (show _ = some _ from rfl)) hnx
    have hne := GenS.only_some [w.heap.size, w.heap.size + 1] V
    clear hnx
    go_wp2_with fail
    refine GenS.wp_region_pick (GenS.only_pre [w.heap.size, w.heap.size + 1]) [0, 1] 5 3 1 rfl rfl rfl (by kernel_rfl) (by kernel_rfl) (by kernel_rfl) (by kernel_rfl) ?_
    simp only [opsAt, List.getElem?_toArray, List.getElem?_cons_zero, List.getElem?_cons_succ]
    repeat (go_big_quiet_step (fail))
    refine wpQuiet_nil ?_
    clear m0 m1 m2 m3 m4 hne
    refine GenS.wpM_only (i := 2) (by kernel_rfl) ?_
    refine GenS.mOp_call rfl (by go_simp) 16 _ #[.pointer (some ⟨w.heap.size + 1, 0, none⟩), .int .i64 6] (fun w => by go_simp) rfl ?_
    rintro _ ⟨n1, rfl⟩
    refine (l1Next_c (w.heap.size + 1) p q cs t1 6 _ (HS.drewN n1) (by omega) (by omega) (by omega) (by omega)).mono ?_
    rintro e w9 ⟨r, rfl, hr0, hr1, HS9, hg9⟩
    refine ⟨_, rfl, ⟨⟨w9, Only.more (Only.grown hg9) (fun k hk => by simp at hk; simp [hk])⟩, rfl⟩, ?_⟩
    have hgw : V.grownBy w9 (some (w.heap.size + 1)) := grownBy_trans (grownBy_drewN V n1 _) hg9
    replace R := R.other hgw (fun e => by have h := Option.some.inj e; omega)
    replace CL := CL.go (fun k h1 h2 => hgw.block k h2 (fun e => by have h := Option.some.inj e; have h3 := z1.out; omega)) hgw.size
    replace BW := BW.grown hgw (by have h1 := BW.size; omega) (fun k hk => by simp at hk; omega)
    clear hgw hg9 HS HS9
    have hne := GenS.only_some [w.heap.size, w.heap.size + 1] w9
    refine GenS.wpM_more (GenS.only_pre [w.heap.size, w.heap.size + 1]) [3] 2 1 rfl (by kernel_rfl) (by kernel_rfl) (by kernel_rfl) (by kernel_rfl) ?_
    simp only [opsAt, List.getElem?_toArray, List.getElem?_cons_zero, List.getElem?_cons_succ]
    go_simp
    repeat (go_big_quiet_step (fail))
    refine wpQuiet_nil ?_
    clear hne
    refine GenS.wpM_only (i := 4) (by kernel_rfl) ?_
    refine GenS.mOp_store rfl (by go_simp) 27 _ _ rfl w.heap.size #[.slice p1 x.1.length q1, .int .i64 x.2.1, .slice p3 x.2.2.1.length q3, .slice p4 x.2.2.2.1.length q4, .slice p5 x.2.2.2.2.length q5] rfl rfl 27 #[.slice none 0 0, .int .i64 0, .slice none 0 0, .slice none 0 0, .slice none 0 0] (fun n => R) hres.out rfl (by simp [Value.oneCell']) (fun n => Only.more (Only.grown (grown_rowS _ _ _)) (fun k hk => by simp at hk; simp [hk])) ?_
    intro n2
    refine GenS.wpM_end (by kernel_rfl) rfl (by kernel_rfl) (by decide) ?_
    rintro _ ⟨n3, rfl⟩
    simp only [List.drop_succ_cons, List.drop_zero]
    have RA : Arr (((w9.drewN n2).setRow w.heap.size #[.slice p1 x.1.length q1, .int .i64 x.2.1, .slice p3 x.2.2.1.length q3, .slice p4 x.2.2.2.1.length q4, .slice p5 x.2.2.2.2.length q5]).drewN n3) w.heap.size 27 [.slice p1 x.1.length q1, .int .i64 x.2.1, .slice p3 x.2.2.1.length q3, .slice p4 x.2.2.2.1.length q4, .slice p5 x.2.2.2.2.length q5] := Arr.row (w := w9.drewN n2) R [.slice p1 x.1.length q1, .int .i64 x.2.1, .slice p3 x.2.2.1.length q3, .slice p4 x.2.2.2.1.length q4, .slice p5 x.2.2.2.2.length q5]
    have SAME : ∀ k, w.heap.size < k → (((w9.drewN n2).setRow w.heap.size #[.slice p1 x.1.length q1, .int .i64 x.2.1, .slice p3 x.2.2.1.length q3, .slice p4 x.2.2.2.1.length q4, .slice p5 x.2.2.2.2.length q5]).drewN n3).heap[k]? = w9.heap[k]? := fun k hk => setRow_other (w9.drewN n2) w.heap.size k #[.slice p1 x.1.length q1, .int .i64 x.2.1, .slice p3 x.2.2.1.length q3, .slice p4 x.2.2.2.1.length q4, .slice p5 x.2.2.2.2.length q5] (by omega)
    have HZ : (((w9.drewN n2).setRow w.heap.size #[.slice p1 x.1.length q1, .int .i64 x.2.1, .slice p3 x.2.2.1.length q3, .slice p4 x.2.2.2.1.length q4, .slice p5 x.2.2.2.2.length q5]).drewN n3).heap.size = w9.heap.size := size_setRow _ _ _
    have BEL : Below w.heap.size w (((w9.drewN n2).setRow w.heap.size #[.slice p1 x.1.length q1, .int .i64 x.2.1, .slice p3 x.2.2.1.length q3, .slice p4 x.2.2.2.1.length q4, .slice p5 x.2.2.2.2.length q5]).drewN n3) := (Below.row (BW.trans (show Below w.heap.size w9 (w9.drewN n2) from ⟨rfl, rfl, rfl, Nat.le_refl _, fun _ _ => rfl⟩)) (Nat.le_refl _) #[.slice p1 x.1.length q1, .int .i64 x.2.1, .slice p3 x.2.2.1.length q3, .slice p4 x.2.2.2.1.length q4, .slice p5 x.2.2.2.2.length q5]).trans ⟨rfl, rfl, rfl, Nat.le_refl _, fun _ _ => rfl⟩
    have RP := (CL.go (V := ((w9.drewN n2).setRow w.heap.size #[.slice p1 x.1.length q1, .int .i64 x.2.1, .slice p3 x.2.2.1.length q3, .slice p4 x.2.2.2.1.length q4, .slice p5 x.2.2.2.2.length q5]).drewN n3) (fun k h1 _ => SAME k (by have h := z1.out; omega)) (Nat.le_of_eq HZ.symm)) _ (fun _ _ _ => rfl)
    clear R CL XL BW SAME HZ
    generalize ((w9.drewN n2).setRow w.heap.size #[.slice p1 x.1.length q1, .int .i64 x.2.1, .slice p3 x.2.2.1.length q3, .slice p4 x.2.2.2.1.length q4, .slice p5 x.2.2.2.2.length q5]).drewN n3 = W at *
    have c0 := (RA.cell 0).trans (show _ = some _ from rfl)
    have c1 := (RA.cell 1).trans (show _ = some _ from rfl)
    have c2 := (RA.cell 2).trans (show _ = some _ from rfl)
    have c3 := (RA.cell 3).trans (show _ = some _ from rfl)
    have c4 := (RA.cell 4).trans (show _ = some _ from rfl)
    go_wp2_with fail
    exact bodyPost_ret (v := .tuple #[.agg #[.slice p1 x.1.length q1, .int .i64 x.2.1, .slice p3 x.2.2.1.length q3, .slice p4 x.2.2.2.1.length q4, .slice p5 x.2.2.2.2.length q5], .int .i64 (1 + r)]) (by simp [results, Try.results5, go_sem, c0, c1, c2, c3, c4]) rfl ⟨x, [.slice p1 x.1.length q1, .int .i64 x.2.1, .slice p3 x.2.2.1.length q3, .slice p4 x.2.2.2.1.length q4, .slice p5 x.2.2.2.2.length q5], (1 + r), rfl, RP, HDD.out, by omega, BEL⟩
def DrawnTi (w : World) (e : Ending) (w' : World) : Prop := ∃ (x : SesD) (vs : List Value) (now : Int), e = .returned (.tuple #[.agg vs.toArray, .int .i64 now]) ∧ sessionC.rep w' x vs ∧ hdC x.2.2.2.2 = hdS x.2.2.2.2 ∧ Below w.heap.size w w'
set_option maxRecDepth 4000 in
set_option maxHeartbeats 4000000 in
theorem drawTi_c (p : Option Addr) (q : Nat) (cs : List UInt8) (w : World) (hr : Rd w p q cs) :
    Calls Try.prog 6 #[.slice p cs.length q] w fun e w' => DrawnTi w e w' := by
  have R := Arr.new w [.slice none 0 0, .int .i64 0, .slice none 0 0, .slice none 0 0, .slice none 0 0] 27
  have BW := alloc_below w (.cells #[.slice none 0 0, .int .i64 0, .slice none 0 0, .slice none 0 0, .slice none 0 0] 27)
  have hs0 : Hid ((w.alloc (.cells #[.slice none 0 0, .int .i64 0, .slice none 0 0, .slice none 0 0, .slice none 0 0] 27)).heap.size = w.heap.size + 1) := size_alloc _ _
  have hres : Hid ((Try.prog.info? 27).map (·.size) = some 5) := by show _ = _; kernel_rfl
  go_enter Try.func6, Try.ntmps6
  go_wp2_with fail
  refine (l1Source_c p q cs _ (hr.keep BW)).mono ?_
  rintro e w1 ⟨rfl, hs, hb, hlt⟩
  rw [hs0.out] at hs hlt
  replace R := R.stay hb
  replace BW := Below.step BW hb
  have z1 : Hid (w.heap.size + 1 < w1.heap.size) := hlt
  clear hb hr hlt
  rw [hs0.out]
  clear hs0
  go_wp2_with fail
  refine (l14Bent_c (w.heap.size + 1) p q cs 0 w1 hs (by omega) (by omega)).mono ?_
  rintro e w2 ⟨x, vs, t1, rfl, CL, hdd, hln, hbd, ht1, ht2, hs2, hg2⟩
  obtain ⟨p1, q1, p3, q3, p4, q4, p5, q5, rfl, -, -, -, -⟩ := session_rep (CL w2 (fun _ _ _ => rfl))
  have z2 : Hid (w1.heap.size ≤ w2.heap.size) := hg2.size
  replace R := R.other hg2 (fun e => by have h := Option.some.inj e; omega)
  replace BW := BW.grown hg2 (by have h1 := BW.size; omega) (fun k hk => by simp at hk; omega)
  have HDD : Hid (hdC x.2.2.2.2 = hdS x.2.2.2.2) := hdd
  have HLN : Hid (x.2.2.2.2.length ≤ 101) := hln
  have HBD : Hid (∀ h ∈ x.2.2.2.2, 0 ≤ h.1 ∧ h.1 ≤ 100) := hbd
  clear hs hg2 hdd hln hbd
  go_wp2_with fail
  refine (l1Next_c (w.heap.size + 1) p q cs t1 40 w2 hs2 (by omega) (by omega) (by omega) (by omega)).mono ?_
  rintro e w3 ⟨r1, rfl, -, -, hs3, hg⟩
  replace R := R.other hg (fun e => by have h := Option.some.inj e; omega)
  replace CL := CL.go (fun k h1 h2 => hg.block k h2 (fun e => by have h := Option.some.inj e; have h3 := z1.out; omega)) hg.size
  replace BW := BW.grown hg (by have h1 := BW.size; omega) (fun k hk => by simp at hk; omega)
  clear hg hs2
  have hs2 := hs3
  clear hs3
  go_wp2_with fail
  refine (l1Next_c (w.heap.size + 1) p q cs (t1 + 1) 40 w3 hs2 (by omega) (by omega) (by omega) (by omega)).mono ?_
  rintro e w4 ⟨r2, rfl, -, -, hs3, hg⟩
  replace R := R.other hg (fun e => by have h := Option.some.inj e; omega)
  replace CL := CL.go (fun k h1 h2 => hg.block k h2 (fun e => by have h := Option.some.inj e; have h3 := z1.out; omega)) hg.size
  replace BW := BW.grown hg (by have h1 := BW.size; omega) (fun k hk => by simp at hk; omega)
  clear hg hs2
  have hs2 := hs3
  clear hs3
  go_wp2_with fail
  refine (l1Pick_c (w.heap.size + 1) p q cs (t1 + 1 + 1) w4.heap.size [r1, r2, 9999, 10000, -1] 5 _ (hs2.keep (alloc_below _ _)) (by omega) (by omega) rfl (by decide) (by simp) (by have := hs2.lt; omega) (new_ints _ _ _ [r1, r2, 9999, 10000, -1] rfl)).mono ?_
  rintro e w5 ⟨r, -, rfl, hs3, hg⟩
  replace hg := grownBy_trans (World.grownBy_alloc _ _ _) hg
  replace R := R.other hg (fun e => by have h := Option.some.inj e; omega)
  replace CL := CL.go (fun k h1 h2 => hg.block k h2 (fun e => by have h := Option.some.inj e; have h3 := z1.out; omega)) hg.size
  replace BW := BW.grown hg (by have h1 := BW.size; omega) (fun k hk => by simp at hk; omega)
  clear hg hs2
  have hs2 := hs3
  clear hs3
  have RA := R.row [.slice p1 x.1.length q1, .int .i64 x.2.1, .slice p3 x.2.2.1.length q3, .slice p4 x.2.2.2.1.length q4, .slice p5 x.2.2.2.2.length q5]
  have SAME : ∀ k, w.heap.size < k → (w5.setRow w.heap.size #[.slice p1 x.1.length q1, .int .i64 x.2.1, .slice p3 x.2.2.1.length q3, .slice p4 x.2.2.2.1.length q4, .slice p5 x.2.2.2.2.length q5]).heap[k]? = w5.heap[k]? := fun k hk => setRow_other w5 w.heap.size k #[.slice p1 x.1.length q1, .int .i64 x.2.1, .slice p3 x.2.2.1.length q3, .slice p4 x.2.2.2.1.length q4, .slice p5 x.2.2.2.2.length q5] (by omega)
  have RP := (CL.go (V := w5.setRow w.heap.size #[.slice p1 x.1.length q1, .int .i64 x.2.1, .slice p3 x.2.2.1.length q3, .slice p4 x.2.2.2.1.length q4, .slice p5 x.2.2.2.2.length q5]) (fun k h1 _ => SAME k (by have h := z1.out; omega)) (Nat.le_of_eq (size_setRow _ _ _).symm)) _ (fun _ _ _ => rfl)
  have BEL := Below.row BW (Nat.le_refl _) #[.slice p1 x.1.length q1, .int .i64 x.2.1, .slice p3 x.2.2.1.length q3, .slice p4 x.2.2.2.1.length q4, .slice p5 x.2.2.2.2.length q5]
  have c0 := (RA.cell 0).trans (show _ = some _ from rfl)
  have c1 := (RA.cell 1).trans (show _ = some _ from rfl)
  have c2 := (RA.cell 2).trans (show _ = some _ from rfl)
  have c3 := (RA.cell 3).trans (show _ = some _ from rfl)
  have c4 := (RA.cell 4).trans (show _ = some _ from rfl)
  clear CL BW SAME hs2
  go_wp2_with (refine wpList_store_row rfl 27 _ _ rfl w.heap.size #[.slice p1 x.1.length q1, .int .i64 x.2.1, .slice p3 x.2.2.1.length q3, .slice p4 x.2.2.2.1.length q4, .slice p5 x.2.2.2.2.length q5] rfl rfl 27 #[.slice none 0 0, .int .i64 0, .slice none 0 0, .slice none 0 0, .slice none 0 0] R hres.out rfl (by simp [Value.oneCell']) ?_)
  exact bodyPost_ret (v := .tuple #[.agg #[.slice p1 x.1.length q1, .int .i64 x.2.1, .slice p3 x.2.2.1.length q3, .slice p4 x.2.2.2.1.length q4, .slice p5 x.2.2.2.2.length q5], .int .i64 r]) (by simp [results, Try.results6, go_sem, c0, c1, c2, c3, c4]) rfl ⟨x, [.slice p1 x.1.length q1, .int .i64 x.2.1, .slice p3 x.2.2.1.length q3, .slice p4 x.2.2.2.1.length q4, .slice p5 x.2.2.2.2.length q5], r, rfl, RP, HDD.out, BEL⟩
end Go.Proofs.Ytflhoefocjmihaa

