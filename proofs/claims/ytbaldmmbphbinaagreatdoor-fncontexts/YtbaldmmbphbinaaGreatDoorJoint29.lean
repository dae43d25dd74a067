/- Sessions that are drawn: what can be read of them further on. -/
import Derived.Test.YtbaldmmbphbinaaGreatDoorDrawSf
import Derived.Test.YtbaldmmbphbinaaGreatDoorJoint7
import Derived.Test.YtbaldmmbphbinaaGreatDoorJoint20
import Derived.Test.YtbaldmmbphbinaaGreatDoorJoint10
import Derived.Test.YtbaldmmbphbinaaGreatDoorSesP
namespace Go.Proofs.YtbaldmmbphbinaaGreatDoor
open Go.ChangeShapes Go.WideShapes Go.ChangeAt Go.RowKit

theorem Clo.go {W V : World} {B : Nat} {x : SesD} {vs : List Value} (h : Clo W B x vs) (hk : ∀ k, B ≤ k → k < W.heap.size → V.heap[k]? = W.heap[k]?) (hz : W.heap.size ≤ V.heap.size) : Clo V B x vs := fun U hU => h U fun k h1 h2 => (hU k h1 (by omega)).trans (hk k h1 h2)
theorem Clo.rds {W : World} {B : Nat} {x : SesD} {p1 p3 p4 p5 : Option Addr} {q1 q3 q4 q5 : Nat} (h : Clo W B x [.slice p1 x.1.length q1, .int .i64 x.2.1, .slice p3 x.2.2.1.length q3, .slice p4 x.2.2.2.1.length q4, .slice p5 x.2.2.2.2.length q5]) : Rd W p1 q1 x.1 ∧ RdL bytC W p3 q3 x.2.2.1 ∧ RdL bytC W p4 q4 x.2.2.2.1 ∧ RdL holdC W p5 q5 x.2.2.2.2 := by
  obtain ⟨a1, b1, a3, b3, a4, b4, a5, b5, e, r1, r3, r4, r5⟩ := session_rep (h W (fun _ _ _ => rfl))
  simp only [List.cons.injEq, Value.slice.injEq, and_true, true_and] at e
  obtain ⟨⟨rfl, rfl⟩, ⟨rfl, rfl⟩, ⟨rfl, rfl⟩, rfl, rfl⟩ := e
  exact ⟨r1, r3, r4, r5⟩
theorem rd_fromT {w w' : World} {a : Option Addr} {cap : Nat} {bs : List UInt8} (h : Rd w a cap bs) (hk : ∀ x : Addr, a = some x → w'.heap[x.block]? = w.heap[x.block]?) : Rd w' a cap bs :=
  ⟨h.1, h.2.1, h.2.2.1, fun hp => by
    obtain ⟨b, o, e, hc⟩ := h.2.2.2 hp
    refine ⟨b, o, e, fun i hi => ?_⟩
    rw [← hc i hi]
    unfold World.cell?
    rw [hk ⟨b, o, none⟩ e]⟩
end Go.Proofs.YtbaldmmbphbinaaGreatDoor

/- The draw of a session and a context (written by tools/draw_ax.py). What comes out can be read; of the session the two ways to ask what is held agree. -/
namespace Go.Proofs.YtbaldmmbphbinaaGreatDoor
open Go.ChangeShapes Go.WideShapes Go.ChangeAt Go.RowKit

def DrawnAx (w : World) (e : Ending) (w' : World) : Prop := ∃ (x : SesD) (vs : List Value) (tk : List UInt8) (pt : Option Addr) (qt : Nat), e = .returned (.tuple #[.agg vs.toArray, .slice pt tk.length qt]) ∧ sessionC.rep w' x vs ∧ Rd w' pt qt tk ∧ hdC x.2.2.2.2 = hdS x.2.2.2.2 ∧ Below w.heap.size w w'
/-- A context that is used lies in new memory, and so does the list of them. -/
theorem Clo.used {W : World} {B : Nat} {x : SesD} {p1 p3 p4 p5 : Option Addr} {q1 q3 q4 q5 : Nat} {a : List UInt8} (h : Clo W B x [.slice p1 x.1.length q1, .int .i64 x.2.1, .slice p3 x.2.2.1.length q3, .slice p4 x.2.2.2.1.length q4, .slice p5 x.2.2.2.2.length q5]) (hk : x.2.2.2.1[0]? = some a) : ∃ b4 o4 pa qa, p4 = some ⟨b4, o4, none⟩ ∧ B ≤ b4 ∧ W.cell? ⟨b4, o4, none⟩ = some (.slice pa a.length qa) ∧ Rd W pa qa a := by
  have hl := (List.getElem?_eq_some_iff.1 hk).1
  obtain ⟨b4, o4, e4, hc⟩ := h.rds.2.2.1.2.2.2 (by omega)
  obtain ⟨us, ⟨pa, qa, rfl, ra⟩, hcell⟩ := hc 0 a hk
  have h0 := hcell 0 _ rfl
  rw [Nat.zero_mul, Nat.add_zero] at h0
  refine ⟨b4, o4, pa, qa, e4, ?_, h0, ra⟩
  rcases Nat.lt_or_ge b4 B with hlt | hge
  · exfalso
    have h2 : Clo (W.setRow b4 #[]) B x _ := h.go (V := W.setRow b4 #[]) (fun k h1 _ => setRow_other _ _ _ _ (by omega)) (Nat.le_of_eq (size_setRow _ _ _).symm)
    obtain ⟨b6, o6, e6, hc6⟩ := h2.rds.2.2.1.2.2.2 (by omega)
    rw [e4] at e6
    obtain ⟨rfl, rfl⟩ : b4 = b6 ∧ o4 = o6 := by simpa using e6
    obtain ⟨us, ⟨pb, qb, rfl, -⟩, hcell6⟩ := hc6 0 a hk
    have h6 := hcell6 0 _ rfl
    rw [Nat.zero_mul, Nat.add_zero] at h6
    unfold World.cell? at h0 h6
    split at h0
    · rename_i c t f hb
      rw [setRow_heap W b4 c #[] t f hb] at h6
      simp at h6
    · cases h0
  · exact hge
set_option maxRecDepth 4000 in
set_option maxHeartbeats 4000000 in
theorem drawAx_c (p : Option Addr) (q : Nat) (cs : List UInt8) (w : World) (hr : Rd w p q cs) :
    Calls Tryz.prog 5 #[.slice p cs.length q] w fun e w' => DrawnAx w e w' := by
  have R := Arr.new w [.slice none 0 0, .int .i64 0, .slice none 0 0, .slice none 0 0, .slice none 0 0] 27
  have BW := alloc_below w (.cells #[.slice none 0 0, .int .i64 0, .slice none 0 0, .slice none 0 0, .slice none 0 0] 27)
  have hs0 : Hid ((w.alloc (.cells #[.slice none 0 0, .int .i64 0, .slice none 0 0, .slice none 0 0, .slice none 0 0] 27)).heap.size = w.heap.size + 1) := size_alloc _ _
  have hres : Hid ((Tryz.prog.info? 27).map (·.size) = some 5) := by show _ = _; kernel_rfl
  go_enter Tryz.func5, Tryz.ntmps5
  go_wp2_with fail
  refine (l1Source_c p q cs _ (hr.keep BW)).mono ?_
  rintro e w1 ⟨rfl, hs, hb, hlt⟩
  rw [hs0.out] at hs hlt
  replace R := R.stay hb
  replace BW := Below.step BW hb
  have z1 : Hid (w.heap.size + 1 < w1.heap.size) := hlt
  clear hb hr hlt
  rw [hs0.out]
  clear hs0
  go_wp2_with fail
  refine (l14Bent_c (w.heap.size + 1) p q cs 0 w1 hs (by omega) (by omega)).mono ?_
  rintro e w2 ⟨x, vs, t1, rfl, CL, hdd, hln, hbd, hub, ht1, ht2, hs2, hg2⟩
  obtain ⟨p1, q1, p3, q3, p4, q4, p5, q5, rfl, -, -, -, -⟩ := session_rep (CL w2 (fun _ _ _ => rfl))
  have z2 : Hid (w1.heap.size ≤ w2.heap.size) := hg2.size
  replace R := R.other hg2 (fun e => by have h := Option.some.inj e; omega)
  replace BW := BW.grown hg2 (by have h1 := BW.size; omega) (fun k hk => by simp at hk; omega)
  have HDD : Hid (hdC x.2.2.2.2 = hdS x.2.2.2.2) := hdd
  have HLN : Hid (x.2.2.2.2.length ≤ 101) := hln
  have HBD : Hid (∀ h ∈ x.2.2.2.2, 0 ≤ h.1 ∧ h.1 ≤ 100) := hbd
  clear hs hg2 hdd hln hbd
  have HUB : Hid (∀ c ∈ x.2.2.2.1, c.length ≤ 4) := hub
  clear hub
  have XL := Arr.new w2 [.slice p1 x.1.length q1, .int .i64 x.2.1, .slice p3 x.2.2.1.length q3, .slice p4 x.2.2.2.1.length q4, .slice p5 x.2.2.2.2.length q5] 27
  have hb := alloc_below w2 (.cells #[.slice p1 x.1.length q1, .int .i64 x.2.1, .slice p3 x.2.2.1.length q3, .slice p4 x.2.2.2.1.length q4, .slice p5 x.2.2.2.2.length q5] 27)
  replace R := R.stay hb
  replace BW := Below.step BW hb
  replace CL := CL.go (fun k _ h2 => hb.block k h2) hb.size
  have HS := hs2.keep hb
  clear hs2 hb
  have a0 := (XL.cell 0).trans (show _ = some _ from rfl)
  have a1 := (XL.cell 1).trans (show _ = some _ from rfl)
  have a2 := (XL.cell 2).trans (show _ = some _ from rfl)
  have a3 := (XL.cell 3).trans (show _ = some _ from rfl)
  have a4 := (XL.cell 4).trans (show _ = some _ from rfl)
  have hq1 : x.2.2.2.1.length ≤ q4 := CL.rds.2.2.1.1
  have hq2 : q4 ≤ 2 ^ 63 - 1 := CL.rds.2.2.1.2.1
  by_cases h0 : 0 < x.2.2.2.1.length
  · have hI : 0 < (x.2.2.2.1.length : Int) := by omega
    go_wp2_with fail
    generalize hV : w2.alloc (.cells #[.slice p1 x.1.length q1, .int .i64 x.2.1, .slice p3 x.2.2.1.length q3, .slice p4 x.2.2.2.1.length q4, .slice p5 x.2.2.2.2.length q5] 27) = V at *
    clear hV
    refine (l1Chance_c (w.heap.size + 1) p q cs t1 5 V HS (by omega) (by omega) (by omega) (by omega)).mono ?_
    rintro e w4 ⟨rb, rfl, HS4, hg4⟩
    replace R := R.other hg4 (fun e => by have h := Option.some.inj e; omega)
    replace XL := XL.other hg4 (fun e => by have h := Option.some.inj e; have h1 := z1.out; have h2 := z2.out; omega)
    replace CL := CL.go (fun k h1 h2 => hg4.block k h2 (fun e => by have h := Option.some.inj e; have h3 := z1.out; omega)) hg4.size
    replace BW := BW.grown hg4 (by have h1 := BW.size; omega) (fun k hk => by simp at hk; omega)
    clear HS hg4 a0 a1 a2 a3 a4
    have HS := HS4
    clear HS4
    cases rb
    · clear hI
      have hnx : w2.heap.size ∉ [w.heap.size, w.heap.size + 1] := by have h1 := z1.out; have h2 := z2.out; simp; omega
      have m0 := GenS.only_cell (fp := [w.heap.size, w.heap.size + 1]) ((XL.cell 0).trans (show _ = some _ from rfl)) hnx
      have m1 := GenS.only_cell (fp := [w.heap.size, w.heap.size + 1]) ((XL.cell 1).trans (show _ = some _ from rfl)) hnx
      have m2 := GenS.only_cell (fp := [w.heap.size, w.heap.size + 1]) ((XL.cell 2).trans (show _ = some _ from rfl)) hnx
      have m3 := GenS.only_cell (fp := [w.heap.size, w.heap.size + 1]) ((XL.cell 3).trans (show _ = some _ from rfl)) hnx
      have m4 := GenS.only_cell (fp := [w.heap.size, w.heap.size + 1]) ((XL.cell 4).trans (show _ = some _ from rfl)) hnx
      have hne := GenS.only_some [w.heap.size, w.heap.size + 1] w4
      clear hnx
      go_wp2_with fail
      refine GenS.wp_region_pick (GenS.only_pre [w.heap.size, w.heap.size + 1]) [0, 1] 4 2 1 rfl rfl rfl (by kernel_rfl) (by kernel_rfl) (by kernel_rfl) (by kernel_rfl) ?_
      simp only [opsAt, List.getElem?_toArray, List.getElem?_cons_zero, List.getElem?_cons_succ]
      repeat (go_big_quiet_step (fail))
      refine wpQuiet_nil ?_
      clear m0 m1 m2 m3 m4 hne
      refine GenS.wpM_only (i := 2) (by kernel_rfl) ?_
      refine GenS.mOp_call rfl (by go_simp) 17 _ #[.pointer (some ⟨w.heap.size + 1, 0, none⟩)] (fun w => by go_simp) rfl ?_
      rintro _ ⟨n1, rfl⟩
      refine (l13DrawContext_c (w.heap.size + 1) p q cs (t1 + 1) _ (HS.drewN n1) (by omega) (by omega)).mono ?_
      rintro e w9 ⟨u, tk, t9, rfl, ku, -, -, -, HS9, hg9⟩
      refine ⟨_, rfl, ⟨⟨w9, Only.more (Only.grown hg9) (fun k hk => by simp at hk; simp [hk])⟩, rfl⟩, ?_⟩
      have hgw : w4.grownBy w9 (some (w.heap.size + 1)) := grownBy_trans (grownBy_drewN w4 n1 _) hg9
      obtain ⟨pu, qu, rfl, -⟩ := ku.rd
      replace ku : Own w9 w4.heap.size (.slice pu tk.length qu) tk := ku
      have hkB : Hid (w.heap.size < w4.heap.size) := R.lt
      replace R := R.other hgw (fun e => by have h := Option.some.inj e; omega)
      replace CL := CL.go (fun k h1 h2 => hgw.block k h2 (fun e => by have h := Option.some.inj e; have h3 := z1.out; omega)) hgw.size
      replace BW := BW.grown hgw (by have h1 := BW.size; omega) (fun k hk => by simp at hk; omega)
      clear hgw hg9 HS HS9
      refine GenS.wpM_only (i := 3) (by kernel_rfl) ?_
      refine GenS.mOp_store rfl (by go_simp) 27 _ _ rfl w.heap.size #[.slice p1 x.1.length q1, .int .i64 x.2.1, .slice p3 x.2.2.1.length q3, .slice p4 x.2.2.2.1.length q4, .slice p5 x.2.2.2.2.length q5] rfl rfl 27 #[.slice none 0 0, .int .i64 0, .slice none 0 0, .slice none 0 0, .slice none 0 0] (fun n => R) hres.out rfl (by simp [Value.oneCell']) (fun n => Only.more (Only.grown (grown_rowS _ _ _)) (fun k hk => by simp at hk; simp [hk])) ?_
      intro n2
      refine GenS.wpM_end (by kernel_rfl) rfl (by kernel_rfl) (by decide) ?_
      rintro _ ⟨n3, rfl⟩
      simp only [List.drop_succ_cons, List.drop_zero]
      have RA : Arr (((w9.drewN n2).setRow w.heap.size #[.slice p1 x.1.length q1, .int .i64 x.2.1, .slice p3 x.2.2.1.length q3, .slice p4 x.2.2.2.1.length q4, .slice p5 x.2.2.2.2.length q5]).drewN n3) w.heap.size 27 [.slice p1 x.1.length q1, .int .i64 x.2.1, .slice p3 x.2.2.1.length q3, .slice p4 x.2.2.2.1.length q4, .slice p5 x.2.2.2.2.length q5] := Arr.row (w := w9.drewN n2) R [.slice p1 x.1.length q1, .int .i64 x.2.1, .slice p3 x.2.2.1.length q3, .slice p4 x.2.2.2.1.length q4, .slice p5 x.2.2.2.2.length q5]
      have SAME : ∀ k, w.heap.size < k → (((w9.drewN n2).setRow w.heap.size #[.slice p1 x.1.length q1, .int .i64 x.2.1, .slice p3 x.2.2.1.length q3, .slice p4 x.2.2.2.1.length q4, .slice p5 x.2.2.2.2.length q5]).drewN n3).heap[k]? = w9.heap[k]? := fun k hk => setRow_other (w9.drewN n2) w.heap.size k #[.slice p1 x.1.length q1, .int .i64 x.2.1, .slice p3 x.2.2.1.length q3, .slice p4 x.2.2.2.1.length q4, .slice p5 x.2.2.2.2.length q5] (by omega)
      have HZ : (((w9.drewN n2).setRow w.heap.size #[.slice p1 x.1.length q1, .int .i64 x.2.1, .slice p3 x.2.2.1.length q3, .slice p4 x.2.2.2.1.length q4, .slice p5 x.2.2.2.2.length q5]).drewN n3).heap.size = w9.heap.size := size_setRow _ _ _
      have BEL : Below w.heap.size w (((w9.drewN n2).setRow w.heap.size #[.slice p1 x.1.length q1, .int .i64 x.2.1, .slice p3 x.2.2.1.length q3, .slice p4 x.2.2.2.1.length q4, .slice p5 x.2.2.2.2.length q5]).drewN n3) := (Below.row (BW.trans (show Below w.heap.size w9 (w9.drewN n2) from ⟨rfl, rfl, rfl, Nat.le_refl _, fun _ _ => rfl⟩)) (Nat.le_refl _) #[.slice p1 x.1.length q1, .int .i64 x.2.1, .slice p3 x.2.2.1.length q3, .slice p4 x.2.2.2.1.length q4, .slice p5 x.2.2.2.2.length q5]).trans ⟨rfl, rfl, rfl, Nat.le_refl _, fun _ _ => rfl⟩
      have RP := (CL.go (V := ((w9.drewN n2).setRow w.heap.size #[.slice p1 x.1.length q1, .int .i64 x.2.1, .slice p3 x.2.2.1.length q3, .slice p4 x.2.2.2.1.length q4, .slice p5 x.2.2.2.2.length q5]).drewN n3) (fun k h1 _ => SAME k (by have h := z1.out; omega)) (Nat.le_of_eq HZ.symm)) _ (fun _ _ _ => rfl)
      have RU : Rd (((w9.drewN n2).setRow w.heap.size #[.slice p1 x.1.length q1, .int .i64 x.2.1, .slice p3 x.2.2.1.length q3, .slice p4 x.2.2.2.1.length q4, .slice p5 x.2.2.2.2.length q5]).drewN n3) pu qu tk := rd_fromT (Rd.own ku) (fun y hy => SAME y.block (by have h := ku.ge y.block (by subst hy; rfl); have h2 := hkB.out; omega))
      clear R CL XL BW ku SAME HZ
      generalize ((w9.drewN n2).setRow w.heap.size #[.slice p1 x.1.length q1, .int .i64 x.2.1, .slice p3 x.2.2.1.length q3, .slice p4 x.2.2.2.1.length q4, .slice p5 x.2.2.2.2.length q5]).drewN n3 = W at *
      have c0 := (RA.cell 0).trans (show _ = some _ from rfl)
      have c1 := (RA.cell 1).trans (show _ = some _ from rfl)
      have c2 := (RA.cell 2).trans (show _ = some _ from rfl)
      have c3 := (RA.cell 3).trans (show _ = some _ from rfl)
      have c4 := (RA.cell 4).trans (show _ = some _ from rfl)
      go_wp2_with fail
      exact bodyPost_ret (v := .tuple #[.agg #[.slice p1 x.1.length q1, .int .i64 x.2.1, .slice p3 x.2.2.1.length q3, .slice p4 x.2.2.2.1.length q4, .slice p5 x.2.2.2.2.length q5], .slice pu tk.length qu]) (by simp [results, Tryz.results5, go_sem, c0, c1, c2, c3, c4]) rfl ⟨x, [.slice p1 x.1.length q1, .int .i64 x.2.1, .slice p3 x.2.2.1.length q3, .slice p4 x.2.2.2.1.length q4, .slice p5 x.2.2.2.2.length q5], tk, pu, qu, rfl, RP, RU, HDD.out, BEL⟩
    · obtain ⟨a, ha⟩ : ∃ a, x.2.2.2.1[0]? = some a := ⟨x.2.2.2.1[0], by simp⟩
      have HA4 : Hid (a.length ≤ 4) := HUB.out a (List.mem_of_getElem? ha)
      obtain ⟨b4, o4, pa, qa, rfl, hB4, hc4, ra⟩ := CL.used ha
      have gu := GenS.only_cell (fp := [w.heap.size, w.heap.size + 1]) hc4 (by have h := z1.out; simp; omega)
      have RA0 : Hid (Rd w4 pa qa a) := ra
      clear ha ra hc4
      have hnx : w2.heap.size ∉ [w.heap.size, w.heap.size + 1] := by have h1 := z1.out; have h2 := z2.out; simp; omega
      have m0 := GenS.only_cell (fp := [w.heap.size, w.heap.size + 1]) ((XL.cell 0).trans (show _ = some _ from rfl)) hnx
      have m1 := GenS.only_cell (fp := [w.heap.size, w.heap.size + 1]) ((XL.cell 1).trans (show _ = some _ from rfl)) hnx
      have m2 := GenS.only_cell (fp := [w.heap.size, w.heap.size + 1]) ((XL.cell 2).trans (show _ = some _ from rfl)) hnx
      have m3 := GenS.only_cell (fp := [w.heap.size, w.heap.size + 1]) ((XL.cell 3).trans (show _ = some _ from rfl)) hnx
      have m4 := GenS.only_cell (fp := [w.heap.size, w.heap.size + 1]) ((XL.cell 4).trans (show _ = some _ from rfl)) hnx
      have hne := GenS.only_some [w.heap.size, w.heap.size + 1] w4
      clear hnx
      go_wp2_with fail
      refine GenS.wp_region_pick (GenS.only_pre [w.heap.size, w.heap.size + 1]) [0, 1, 2, 3, 4] 7 2 1 rfl rfl rfl (by kernel_rfl) (by kernel_rfl) (by kernel_rfl) (by kernel_rfl) ?_
      simp only [opsAt, List.getElem?_toArray, List.getElem?_cons_zero, List.getElem?_cons_succ]
      repeat (go_big_quiet_step (fail))
      refine wpQuiet_nil ?_
      clear m0 m1 m2 m3 m4 hne gu
      refine GenS.wpM_only (i := 5) (by kernel_rfl) ?_
      refine GenS.mOp_call rfl (by go_simp) 16 _ #[.slice pa a.length qa] (fun w => by go_simp) rfl ?_
      rintro _ ⟨n1, rfl⟩
      refine (l1Copy_c pa qa a (w4.drewN n1) (RA0.out.keep ⟨rfl, rfl, rfl, Nat.le_refl _, fun _ _ => rfl⟩) (by have := HA4.out; omega)).mono ?_
      rintro e w9 ⟨u, rfl, ku, hb0⟩
      have hb9 : Below w4.heap.size w4 w9 := (show Below w4.heap.size w4 (w4.drewN n1) from ⟨rfl, rfl, rfl, Nat.le_refl _, fun _ _ => rfl⟩).trans hb0
      refine ⟨_, rfl, ⟨⟨w9, Only.below hb0⟩, rfl⟩, ?_⟩
      generalize a = tk at *
      obtain ⟨pu, qu, rfl, -⟩ := ku.rd
      replace ku : Own w9 w4.heap.size (.slice pu tk.length qu) tk := ku
      have hkB : Hid (w.heap.size < w4.heap.size) := R.lt
      replace R := R.stay hb9
      replace CL := CL.go (fun k _ h2 => hb9.block k h2) hb9.size
      replace BW := Below.step BW hb9
      clear hb9 hb0 HS
      refine GenS.wpM_only (i := 6) (by kernel_rfl) ?_
      refine GenS.mOp_store rfl (by go_simp) 27 _ _ rfl w.heap.size #[.slice p1 x.1.length q1, .int .i64 x.2.1, .slice p3 x.2.2.1.length q3, .slice (some ⟨b4, o4, none⟩) x.2.2.2.1.length q4, .slice p5 x.2.2.2.2.length q5] rfl rfl 27 #[.slice none 0 0, .int .i64 0, .slice none 0 0, .slice none 0 0, .slice none 0 0] (fun n => R) hres.out rfl (by simp [Value.oneCell']) (fun n => Only.more (Only.grown (grown_rowS _ _ _)) (fun k hk => by simp at hk; simp [hk])) ?_
      intro n2
      refine GenS.wpM_end (by kernel_rfl) rfl (by kernel_rfl) (by decide) ?_
      rintro _ ⟨n3, rfl⟩
      simp only [List.drop_succ_cons, List.drop_zero]
      have RA : Arr (((w9.drewN n2).setRow w.heap.size #[.slice p1 x.1.length q1, .int .i64 x.2.1, .slice p3 x.2.2.1.length q3, .slice (some ⟨b4, o4, none⟩) x.2.2.2.1.length q4, .slice p5 x.2.2.2.2.length q5]).drewN n3) w.heap.size 27 [.slice p1 x.1.length q1, .int .i64 x.2.1, .slice p3 x.2.2.1.length q3, .slice (some ⟨b4, o4, none⟩) x.2.2.2.1.length q4, .slice p5 x.2.2.2.2.length q5] := Arr.row (w := w9.drewN n2) R [.slice p1 x.1.length q1, .int .i64 x.2.1, .slice p3 x.2.2.1.length q3, .slice (some ⟨b4, o4, none⟩) x.2.2.2.1.length q4, .slice p5 x.2.2.2.2.length q5]
      have SAME : ∀ k, w.heap.size < k → (((w9.drewN n2).setRow w.heap.size #[.slice p1 x.1.length q1, .int .i64 x.2.1, .slice p3 x.2.2.1.length q3, .slice (some ⟨b4, o4, none⟩) x.2.2.2.1.length q4, .slice p5 x.2.2.2.2.length q5]).drewN n3).heap[k]? = w9.heap[k]? := fun k hk => setRow_other (w9.drewN n2) w.heap.size k #[.slice p1 x.1.length q1, .int .i64 x.2.1, .slice p3 x.2.2.1.length q3, .slice (some ⟨b4, o4, none⟩) x.2.2.2.1.length q4, .slice p5 x.2.2.2.2.length q5] (by omega)
      have HZ : (((w9.drewN n2).setRow w.heap.size #[.slice p1 x.1.length q1, .int .i64 x.2.1, .slice p3 x.2.2.1.length q3, .slice (some ⟨b4, o4, none⟩) x.2.2.2.1.length q4, .slice p5 x.2.2.2.2.length q5]).drewN n3).heap.size = w9.heap.size := size_setRow _ _ _
      have BEL : Below w.heap.size w (((w9.drewN n2).setRow w.heap.size #[.slice p1 x.1.length q1, .int .i64 x.2.1, .slice p3 x.2.2.1.length q3, .slice (some ⟨b4, o4, none⟩) x.2.2.2.1.length q4, .slice p5 x.2.2.2.2.length q5]).drewN n3) := (Below.row (BW.trans (show Below w.heap.size w9 (w9.drewN n2) from ⟨rfl, rfl, rfl, Nat.le_refl _, fun _ _ => rfl⟩)) (Nat.le_refl _) #[.slice p1 x.1.length q1, .int .i64 x.2.1, .slice p3 x.2.2.1.length q3, .slice (some ⟨b4, o4, none⟩) x.2.2.2.1.length q4, .slice p5 x.2.2.2.2.length q5]).trans ⟨rfl, rfl, rfl, Nat.le_refl _, fun _ _ => rfl⟩
      have RP := (CL.go (V := ((w9.drewN n2).setRow w.heap.size #[.slice p1 x.1.length q1, .int .i64 x.2.1, .slice p3 x.2.2.1.length q3, .slice (some ⟨b4, o4, none⟩) x.2.2.2.1.length q4, .slice p5 x.2.2.2.2.length q5]).drewN n3) (fun k h1 _ => SAME k (by have h := z1.out; omega)) (Nat.le_of_eq HZ.symm)) _ (fun _ _ _ => rfl)
      have RU : Rd (((w9.drewN n2).setRow w.heap.size #[.slice p1 x.1.length q1, .int .i64 x.2.1, .slice p3 x.2.2.1.length q3, .slice (some ⟨b4, o4, none⟩) x.2.2.2.1.length q4, .slice p5 x.2.2.2.2.length q5]).drewN n3) pu qu tk := rd_fromT (Rd.own ku) (fun y hy => SAME y.block (by have h := ku.ge y.block (by subst hy; rfl); have h2 := hkB.out; omega))
      clear R CL XL BW ku SAME HZ
      generalize ((w9.drewN n2).setRow w.heap.size #[.slice p1 x.1.length q1, .int .i64 x.2.1, .slice p3 x.2.2.1.length q3, .slice (some ⟨b4, o4, none⟩) x.2.2.2.1.length q4, .slice p5 x.2.2.2.2.length q5]).drewN n3 = W at *
      have c0 := (RA.cell 0).trans (show _ = some _ from rfl)
      have c1 := (RA.cell 1).trans (show _ = some _ from rfl)
      have c2 := (RA.cell 2).trans (show _ = some _ from rfl)
      have c3 := (RA.cell 3).trans (show _ = some _ from rfl)
      have c4 := (RA.cell 4).trans (show _ = some _ from rfl)
      go_wp2_with fail
      exact bodyPost_ret (v := .tuple #[.agg #[.slice p1 x.1.length q1, .int .i64 x.2.1, .slice p3 x.2.2.1.length q3, .slice (some ⟨b4, o4, none⟩) x.2.2.2.1.length q4, .slice p5 x.2.2.2.2.length q5], .slice pu tk.length qu]) (by simp [results, Tryz.results5, go_sem, c0, c1, c2, c3, c4]) rfl ⟨x, [.slice p1 x.1.length q1, .int .i64 x.2.1, .slice p3 x.2.2.1.length q3, .slice (some ⟨b4, o4, none⟩) x.2.2.2.1.length q4, .slice p5 x.2.2.2.2.length q5], tk, pu, qu, rfl, RP, RU, HDD.out, BEL⟩
  · have hI : ¬ 0 < (x.2.2.2.1.length : Int) := by omega
    go_wp2_with fail
    generalize hV : w2.alloc (.cells #[.slice p1 x.1.length q1, .int .i64 x.2.1, .slice p3 x.2.2.1.length q3, .slice p4 x.2.2.2.1.length q4, .slice p5 x.2.2.2.2.length q5] 27) = V at *
    clear hV a0 a1 a2 a3 a4
    have hnx : w2.heap.size ∉ [w.heap.size, w.heap.size + 1] := by have h1 := z1.out; have h2 := z2.out; simp; omega
    have m0 := GenS.only_cell (fp := [w.heap.size, w.heap.size + 1]) ((XL.cell 0).trans (show _ = some _ from rfl)) hnx
    have m1 := GenS.only_cell (fp := [w.heap.size, w.heap.size + 1]) ((XL.cell 1).trans (show _ = some _ from rfl)) hnx
    have m2 := GenS.only_cell (fp := [w.heap.size, w.heap.size + 1]) ((XL.cell 2).trans (show _ = some _ from rfl)) hnx
    have m3 := GenS.only_cell (fp := [w.heap.size, w.heap.size + 1]) ((XL.cell 3).trans (show _ = some _ from rfl)) hnx
    have m4 := GenS.only_cell (fp := [w.heap.size, w.heap.size + 1]) ((XL.cell 4).trans (show _ = some _ from rfl)) hnx
    have hne := GenS.only_some [w.heap.size, w.heap.size + 1] V
    clear hnx
    go_wp2_with fail
    refine GenS.wp_region_pick (GenS.only_pre [w.heap.size, w.heap.size + 1]) [0, 1] 4 2 1 rfl rfl rfl (by kernel_rfl) (by kernel_rfl) (by kernel_rfl) (by kernel_rfl) ?_
    simp only [opsAt, List.getElem?_toArray, List.getElem?_cons_zero, List.getElem?_cons_succ]
    repeat (go_big_quiet_step (fail))
    refine wpQuiet_nil ?_
    clear m0 m1 m2 m3 m4 hne
    refine GenS.wpM_only (i := 2) (by kernel_rfl) ?_
    refine GenS.mOp_call rfl (by go_simp) 17 _ #[.pointer (some ⟨w.heap.size + 1, 0, none⟩)] (fun w => by go_simp) rfl ?_
    rintro _ ⟨n1, rfl⟩
    refine (l13DrawContext_c (w.heap.size + 1) p q cs t1 _ (HS.drewN n1) (by omega) (by omega)).mono ?_
    rintro e w9 ⟨u, tk, t9, rfl, ku, -, -, -, HS9, hg9⟩
    refine ⟨_, rfl, ⟨⟨w9, Only.more (Only.grown hg9) (fun k hk => by simp at hk; simp [hk])⟩, rfl⟩, ?_⟩
    have hgw : V.grownBy w9 (some (w.heap.size + 1)) := grownBy_trans (grownBy_drewN V n1 _) hg9
    obtain ⟨pu, qu, rfl, -⟩ := ku.rd
    replace ku : Own w9 V.heap.size (.slice pu tk.length qu) tk := ku
    have hkB : Hid (w.heap.size < V.heap.size) := R.lt
    replace R := R.other hgw (fun e => by have h := Option.some.inj e; omega)
    replace CL := CL.go (fun k h1 h2 => hgw.block k h2 (fun e => by have h := Option.some.inj e; have h3 := z1.out; omega)) hgw.size
    replace BW := BW.grown hgw (by have h1 := BW.size; omega) (fun k hk => by simp at hk; omega)
    clear hgw hg9 HS HS9
    refine GenS.wpM_only (i := 3) (by kernel_rfl) ?_
    refine GenS.mOp_store rfl (by go_simp) 27 _ _ rfl w.heap.size #[.slice p1 x.1.length q1, .int .i64 x.2.1, .slice p3 x.2.2.1.length q3, .slice p4 x.2.2.2.1.length q4, .slice p5 x.2.2.2.2.length q5] rfl rfl 27 #[.slice none 0 0, .int .i64 0, .slice none 0 0, .slice none 0 0, .slice none 0 0] (fun n => R) hres.out rfl (by simp [Value.oneCell']) (fun n => Only.more (Only.grown (grown_rowS _ _ _)) (fun k hk => by simp at hk; simp [hk])) ?_
    intro n2
    refine GenS.wpM_end (by kernel_rfl) rfl (by kernel_rfl) (by decide) ?_
    rintro _ ⟨n3, rfl⟩
    simp only [List.drop_succ_cons, List.drop_zero]
    have RA : Arr (((w9.drewN n2).setRow w.heap.size #[.slice p1 x.1.length q1, .int .i64 x.2.1, .slice p3 x.2.2.1.length q3, .slice p4 x.2.2.2.1.length q4, .slice p5 x.2.2.2.2.length q5]).drewN n3) w.heap.size 27 [.slice p1 x.1.length q1, .int .i64 x.2.1, .slice p3 x.2.2.1.length q3, .slice p4 x.2.2.2.1.length q4, .slice p5 x.2.2.2.2.length q5] := Arr.row (w := w9.drewN n2) R [.slice p1 x.1.length q1, .int .i64 x.2.1, .slice p3 x.2.2.1.length q3, .slice p4 x.2.2.2.1.length q4, .slice p5 x.2.2.2.2.length q5]
    have SAME : ∀ k, w.heap.size < k → (((w9.drewN n2).setRow w.heap.size #[.slice p1 x.1.length q1, .int .i64 x.2.1, .slice p3 x.2.2.1.length q3, .slice p4 x.2.2.2.1.length q4, .slice p5 x.2.2.2.2.length q5]).drewN n3).heap[k]? = w9.heap[k]? := fun k hk => setRow_other (w9.drewN n2) w.heap.size k #[.slice p1 x.1.length q1, .int .i64 x.2.1, .slice p3 x.2.2.1.length q3, .slice p4 x.2.2.2.1.length q4, .slice p5 x.2.2.2.2.length q5] (by omega)
    have HZ : (((w9.drewN n2).setRow w.heap.size #[.slice p1 x.1.length q1, .int .i64 x.2.1, .slice p3 x.2.2.1.length q3, .slice p4 x.2.2.2.1.length q4, .slice p5 x.2.2.2.2.length q5]).drewN n3).heap.size = w9.heap.size := size_setRow _ _ _
    have BEL : Below w.heap.size w (((w9.drewN n2).setRow w.heap.size #[.slice p1 x.1.length q1, .int .i64 x.2.1, .slice p3 x.2.2.1.length q3, .slice p4 x.2.2.2.1.length q4, .slice p5 x.2.2.2.2.length q5]).drewN n3) := (Below.row (BW.trans (show Below w.heap.size w9 (w9.drewN n2) from ⟨rfl, rfl, rfl, Nat.le_refl _, fun _ _ => rfl⟩)) (Nat.le_refl _) #[.slice p1 x.1.length q1, .int .i64 x.2.1, .slice p3 x.2.2.1.length q3, .slice p4 x.2.2.2.1.length q4, .slice p5 x.2.2.2.2.length q5]).trans ⟨rfl, rfl, rfl, Nat.le_refl _, fun _ _ => rfl⟩
    have RP := (CL.go (V := ((w9.drewN n2).setRow w.heap.size #[.slice p1 x.1.length q1, .int .i64 x.2.1, .slice p3 x.2.2.1.length q3, .slice p4 x.2.2.2.1.length q4, .slice p5 x.2.2.2.2.length q5]).drewN n3) (fun k h1 _ => SAME k (by have h := z1.out; omega)) (Nat.le_of_eq HZ.symm)) _ (fun _ _ _ => rfl)
    have RU : Rd (((w9.drewN n2).setRow w.heap.size #[.slice p1 x.1.length q1, .int .i64 x.2.1, .slice p3 x.2.2.1.length q3, .slice p4 x.2.2.2.1.length q4, .slice p5 x.2.2.2.2.length q5]).drewN n3) pu qu tk := rd_fromT (Rd.own ku) (fun y hy => SAME y.block (by have h := ku.ge y.block (by subst hy; rfl); have h2 := hkB.out; omega))
    clear R CL XL BW ku SAME HZ
    generalize ((w9.drewN n2).setRow w.heap.size #[.slice p1 x.1.length q1, .int .i64 x.2.1, .slice p3 x.2.2.1.length q3, .slice p4 x.2.2.2.1.length q4, .slice p5 x.2.2.2.2.length q5]).drewN n3 = W at *
    have c0 := (RA.cell 0).trans (show _ = some _ from rfl)
    have c1 := (RA.cell 1).trans (show _ = some _ from rfl)
    have c2 := (RA.cell 2).trans (show _ = some _ from rfl)
    have c3 := (RA.cell 3).trans (show _ = some _ from rfl)
    have c4 := (RA.cell 4).trans (show _ = some _ from rfl)
    go_wp2_with fail
    exact bodyPost_ret (v := .tuple #[.agg #[.slice p1 x.1.length q1, .int .i64 x.2.1, .slice p3 x.2.2.1.length q3, .slice p4 x.2.2.2.1.length q4, .slice p5 x.2.2.2.2.length q5], .slice pu tk.length qu]) (by simp [results, Tryz.results5, go_sem, c0, c1, c2, c3, c4]) rfl ⟨x, [.slice p1 x.1.length q1, .int .i64 x.2.1, .slice p3 x.2.2.1.length q3, .slice p4 x.2.2.2.1.length q4, .slice p5 x.2.2.2.2.length q5], tk, pu, qu, rfl, RP, RU, HDD.out, BEL⟩
end Go.Proofs.YtbaldmmbphbinaaGreatDoor

/- RevokeIn and TimeIn of the specification, by their codes (written by tools/ses_t.py). What was there stays. -/
namespace Go.Proofs.YtbaldmmbphbinaaGreatDoor
open Go.ChangeShapes Go.WideShapes Go.ChangeAt Go.RowKit

end Go.Proofs.YtbaldmmbphbinaaGreatDoor

