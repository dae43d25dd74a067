/- The contracts of ownSign, ownSigns, signFault, SignWith in the program, at every argument (written by tools/sign_v.py). What was there stays. -/
import Derived.Test.YtklglpmlfboglaaSignI
import Derived.Test.YtklglpmlfboglaaJoint5
import Derived.Test.YtklglpmlfboglaaPickG
namespace Go.Proofs.Ytklglpmlfboglaa
open Go.ChangeShapes Go.WideShapes Go.ChangeAt Go.RowKit

theorem Gen.wpM_two {P : Program} {ops : Array Oper} {md : Region.Mode} {Q' : Exit → Act → World → Prop} {last m : Nat} {R : World → World → Prop} {L : Array Bool} {i j fuel : Nat} {a : Act} {V : World} (hr : Region.ready md ops L = [i, j])
    (h : Gen.mOp R P ops i (Gen.wpM R P md ops Q' last m fuel (L.setIfInBounds i true)) a V) (h2 : Gen.mOp R P ops j (Gen.wpM R P md ops Q' last m fuel (L.setIfInBounds j true)) a V) : Gen.wpM R P md ops Q' last m (fuel + 1) L a V :=
  ⟨by rw [hr]; simp, fun k hk => by
    rw [hr] at hk
    rcases List.mem_cons.1 hk with rfl | hk
    · exact h
    · rcases List.mem_singleton.1 hk with rfl
      exact h2⟩
set_option maxRecDepth 4000 in
set_option maxHeartbeats 1000000 in
theorem ownSign_c (x : SignD) (pd : Option Addr) (qd : Nat) (w : World) (rd : Rd w pd qd x.2.2) (hl : x.2.2.length ≤ 1000) :
    Calls Try.prog 55 #[.agg #[.int .i64 x.1, .int .i64 x.2.1, .slice pd x.2.2.length qd]] w fun e w' => ∃ v, e = .returned (.agg #[.int .i64 x.1, .int .i64 x.2.1, v]) ∧ Own w' w.heap.size v x.2.2 ∧ Below w.heap.size w w' := by
  have BW := Below.mk (alloc_below w (.cells #[.int .i64 x.1, .int .i64 x.2.1, .slice pd x.2.2.length qd] 49)) (.cells #[.int .i64 0, .int .i64 0, .slice none 0 0] 49)
  have A := (Arr.new w [.int .i64 x.1, .int .i64 x.2.1, .slice pd x.2.2.length qd] 49).old _ (.cells #[.int .i64 0, .int .i64 0, .slice none 0 0] 49)
  have R := Arr.new (w.alloc (.cells #[.int .i64 x.1, .int .i64 x.2.1, .slice pd x.2.2.length qd] 49)) [.int .i64 0, .int .i64 0, .slice none 0 0] 49
  rw [size_alloc] at R
  have HR := rd.keep BW
  go_enter Try.func55, Try.ntmps55
  go_wp2_with fail
  generalize hV : (w.alloc (.cells #[.int .i64 x.1, .int .i64 x.2.1, .slice pd x.2.2.length qd] 49)).alloc (.cells #[.int .i64 0, .int .i64 0, .slice none 0 0] 49) = V at *
  have KC : Hid (∀ W : World, Below V.heap.size V W → Calls Try.prog 76 #[.slice pd x.2.2.length qd] W fun e w' => ∃ u, e = .returned u ∧ Own w' V.heap.size u x.2.2 ∧ Below W.heap.size W w') := fun W hW => by
    refine Calls.mono (bytesClone_c pd qd x.2.2 W (HR.keep hW) (by omega)) ?_
    rintro e w' ⟨u, rfl, ho, hb⟩
    exact ⟨u, rfl, ho.lower hW.size, hb⟩
  have a0 := (A.cell 0).trans (show _ = some _ from rfl)
  have a1 := (A.cell 1).trans (show _ = some _ from rfl)
  have a2 := (A.cell 2).trans (show _ = some _ from rfl)
  have hlt : Hid (w.heap.size + 1 < V.heap.size) := R.lt
  clear hV
  apply share
  case h =>
    intro JN
    have BB := Below.refl V.heap.size V
    have hne := HW.some V
    have g0 := HW.at (a0)
    have g1 := HW.at (a1)
    have g2 := HW.at (a2)
    refine wp_region_pick [0, 1, 2, 3, 4, 5] 8 2 1 rfl rfl rfl (by kernel_rfl) (by kernel_rfl) (by kernel_rfl) (by kernel_rfl) ?_
    simp only [opsAt, List.getElem?_toArray, List.getElem?_cons_zero, List.getElem?_cons_succ]
    repeat (go_big_quiet_step (fail))
    refine wpQuiet_nil ?_
    clear g0 g1 g2
    refine wpM_only (i := 6) (by kernel_rfl) ?_
    refine mOp_call rfl (by go_simp) 76 _ #[.slice pd x.2.2.length qd] (fun w => by go_simp) rfl ?_
    rintro _ ⟨sg, rfl⟩
    refine (KC.out _ (Below.step BB sg.h)).mono ?_
    rintro e wg1 ⟨u, rfl, kv, hbx⟩
    obtain ⟨pv, qv, rfl, -⟩ := kv.rd
    have hbg := Below.step sg.h hbx
    refine ⟨_, rfl, ⟨⟨wg1, hbx⟩, rfl⟩, ?_⟩
    have OV := kv
    replace BB := Below.step BB hbg
    clear hbg hbx sg kv
    replace hne := HW.some wg1
    refine wpM_more [7] 1 0 rfl (by kernel_rfl) (by kernel_rfl) (by kernel_rfl) (by kernel_rfl) ?_
    simp only [opsAt, List.getElem?_toArray, List.getElem?_cons_zero, List.getElem?_cons_succ]
    go_simp
    repeat (go_big_quiet_step (fail))
    refine wpQuiet_nil ?_
    refine wpM_end (by kernel_rfl) rfl (by kernel_rfl) (by decide) ?_
    rintro _ ⟨sz, rfl⟩
    simp only [List.drop_succ_cons, List.drop_zero]
    go_simp
    replace OV := OV.stay sz.h
    replace BB := Below.step BB sz.h
    clear hne
    generalize sz.w = W at *
    clear sz
    revert OV
    revert BB
    revert qv
    revert pv
    revert W
    exact JN.out
  case hj =>
  intro W pv qv BB OV
  have R2 := R.stay BB
  have B2 := Below.step BW BB
  have r0 := R2.cell 0
  have r1 := R2.cell 1
  have r2 := R2.cell 2
  have fr := R2.frozen
  simp at r0 r1 r2
  clear KC a0 a1 a2 A R R2 HR
  go_wp2_with fail
  refine bodyPost_ret (v := .agg #[.int .i64 x.1, .int .i64 x.2.1, .slice pv x.2.2.length qv]) (by simp [results, Try.results55, go_sem, r0, r1, r2]) rfl ⟨_, rfl, ?_, ((B2.setCell (by show w.heap.size ≤ w.heap.size + 1; omega) _).setCell (by show w.heap.size ≤ w.heap.size + 1; omega) _).setCell (by show w.heap.size ≤ w.heap.size + 1; omega) _⟩
  exact (((OV.set (a := ⟨w.heap.size + 1, 0, none⟩) hlt.out _).set (a := ⟨w.heap.size + 1, 1, none⟩) hlt.out _).set (a := ⟨w.heap.size + 1, 2, none⟩) hlt.out _).lower (B' := w.heap.size) (by have := hlt.out; omega)
set_option maxRecDepth 4000 in
set_option maxHeartbeats 2000000 in
theorem ownSigns_c (l : List SignD) (p : Option Addr) (q : Nat) (w : World) (hr : RdL signC w p q l) (hl : l.length ≤ 40) (hd : ∀ a ∈ l, a.2.2.length = 32) :
    Calls Try.prog 56 #[.slice p l.length q] w fun e w' => ∃ v xs fp, e = .returned v ∧ OwnL 49 signC w' w.heap.size v l xs fp ∧ Below w.heap.size w w' := by
  have HR : Hid (RdL signC w p q l) := hr
  have hq1 : l.length ≤ q := hr.1
  have hq2 : q ≤ 2 ^ 63 - 1 := hr.2.1
  have HD : Hid (∀ a ∈ l, a.2.2.length = 32) := hd
  have hln : (l.length : Int) ≤ 40 := by omega
  have O1 := nil_ownS w w.heap.size
  clear hr hl hd
  go_enter Try.func56, Try.ntmps56
  go_wp2_with fail
  go_loopw [3, 8] (fun v i wr => ∃ (k : Nat) (xs : List Value) (fp : List Nat), k ≤ l.length ∧ i = .int .i64 k ∧ OwnL 49 signC wr w.heap.size v (l.take k) xs fp ∧ Below w.heap.size w wr)
    (fun _ i _ => l.length - (intOf i).toNat)
  case atStart => exact ⟨0, [], [], Nat.zero_le _, rfl, O1, Below.refl _ _⟩
  case round =>
    clear O1
    obtain ⟨k, xs, fp, hk, rfl, ho, BW⟩ := hrel
    by_cases hlt : k < l.length
    · have hI : (k : Int) < (l.length : Int) := by omega
      obtain ⟨b, o, e1, hc⟩ := (HR.out.keep BW).2.2.2 (by omega)
      subst e1
      obtain ⟨a, ha⟩ : ∃ a, l[k]? = some a := ⟨l[k], by simp [hlt]⟩
      obtain ⟨us, hrep, hcell⟩ := hc k a ha
      obtain ⟨pa, qa, rfl, ra⟩ := sign_rep hrep
      have m0 := hcell 0 _ rfl
      have m1 := hcell 1 _ rfl
      have m2 := hcell 2 _ rfl
      rw [show signC.n = 3 from rfl] at m0 m1 m2
      rw [Nat.add_zero] at m0
      have HTk : Hid (l.take (k + 1) = l.take k ++ [a]) := by show _ = _; rw [List.take_add_one, ha]; rfl
      have HA : Hid (a.2.2.length = 32) := HD.out a (List.mem_of_getElem? ha)
      obtain ⟨out, HO⟩ : ∃ out, Hid (out = l.take k) := ⟨_, rfl⟩
      have hol : (out.length : Int) = (k : Int) := by rw [HO.out, List.length_take]; omega
      have HOL : Hid (out.length = k) := by show _ = _; omega
      rw [← HO.out] at ho
      obtain ⟨po, qo, rfl, hord⟩ := ho.rd
      have hqo2 : qo ≤ 2 ^ 63 - 1 := hord.2.1
      clear hc hcell hrep hord
      have hal := alloc_below wr (.cells #[.int .i64 a.1, .int .i64 a.2.1, .slice pa a.2.2.length qa] 49)
      have hinsO : Hid (∀ j, j ∈ (Value.slice po out.length qo).ownBlock.toList ++ fp → j < wr.heap.size) := fun j hj => (ho.ins j hj).2
      have KC : Hid (Calls Try.prog 55 #[.agg #[.int .i64 a.1, .int .i64 a.2.1, .slice pa a.2.2.length qa]] _ _) := ownSign_c a pa qa _ (ra.keep hal) (by rw [HA.out]; decide)
      go_wp2_with fail
      refine KC.out.mono ?_
      rintro e w3 ⟨u3, rfl, k3, hb3⟩
      obtain ⟨pv, qv, rfl, -⟩ := k3.rd
      rw [size_alloc] at k3
      have ho3 := (ho.stay hal).stay hb3
      have BW3 := Below.step (Below.step BW hal) hb3
      have hal5 := alloc_below w3 (.cells #[.int .i64 a.1, .int .i64 a.2.1, .slice pv a.2.2.length qv] 49)
      have hnew : ∀ j u, [Value.int .i64 a.1, .int .i64 a.2.1, .slice pv a.2.2.length qv][j]? = some u → (w3.alloc (.cells #[.int .i64 a.1, .int .i64 a.2.1, .slice pv a.2.2.length qv] 49)).cell? ((⟨w3.heap.size, 0, none⟩ : Addr).add j) = some u := fun j u hj => (Arr.new w3 [.int .i64 a.1, .int .i64 a.2.1, .slice pv a.2.2.length qv] 49).cells j u hj
      have ho5 := ho3.stay hal5
      have k5 := k3.stay hal5
      have BW5 := Below.step BW3 hal5
      have hrow5 : Hid ((w3.alloc (.cells #[.int .i64 a.1, .int .i64 a.2.1, .slice pv a.2.2.length qv] 49)).ownsRow w.heap.size 49 3 (.slice po out.length qo) out.length xs) := ho5.row
      have hzw : Hid (w.heap.size ≤ wr.heap.size) := BW.size
      obtain ⟨i0, hi, hz0, hz1, hz2⟩ := info_parts infoSign
      clear KC k3 ho3 BW3 hal m0 m1 m2 ra hb3 ho BW hal5
      go_wp2_with (at_builtin; refine wpList_append_lies _ rfl (.tmp 12) (.tmp 15) 41 rfl w.heap.size 49 i0 (.agg #[.int .i64 0, .int .i64 0, .slice none 0 0]) 3 40 Try.underlying41 hi hz0 hz1 hz2 rfl (by decide) (.slice po out.length qo) out.length xs rfl hrow5.out ⟨w3.heap.size, 0, none⟩ 1 1 [.int .i64 a.1, .int .i64 a.2.1, .slice pv a.2.2.length qv] rfl rfl hnew (by intro u hu; simp at hu; rcases hu with rfl | rfl | rfl <;> rfl) (by decide) (by unfold maxLen; omega) (by omega) BW5.size _ rfl ?_; intro g6 c6 w6 hown6 hgrow6 hat6 hlt6)
      have hlow : Hid (∀ j, (Value.slice pv a.2.2.length qv).ownBlock = some j → wr.heap.size + 1 ≤ j) := fun j hj => k5.ge j hj
      have ka := sign_own_mk (a := a) (k5.lower (B' := w.heap.size) (by have := hzw.out; omega))
      have OP := ho5.push ka (fun j hj hj2 => by
        have h1 := hlow.out j (mem_opt.1 hj)
        have h2 := hinsO.out j hj2
        omega) (k := out.length + 1) (v' := .slice (some ⟨g6, 0, none⟩) (out.length + 1) c6) (g := g6) hown6 (by simp) hgrow6 rfl hat6
      have BW6 := BW5.grown hgrow6 BW5.size (fun k hk => (ho5.ins k (List.mem_append_left _ (mem_opt.2 hk))).1)
      rw [HO.out, ← HTk.out] at OP
      clear ho5 k5 hown6 hgrow6 hat6 hnew hrow5 ka BW5
      go_wp2_with fail
      go_roundw
      case rel => exact ⟨k + 1, _, _, by omega, by go_num, by first | exact OP | (rw [← HO.out] at OP; exact OP), BW6⟩
      case measure => simp [intOf]; omega
    · have e : k = l.length := by omega
      subst e
      rw [List.take_length] at ho
      obtain ⟨po, qo, rfl, -⟩ := ho.rd
      go_wp2_with fail
      go_ret
      exact ⟨_, _, _, rfl, ho, BW⟩
set_option maxRecDepth 4000 in
set_option maxHeartbeats 2000000 in
theorem signFault_c (list : List CertD) (lk : List Int) (signs : List SignD) (id by' : Int) (d : List UInt8) (pc pl ps pd : Option Addr) (qc ql qs qd : Nat) (w : World)
    (rc : RdL certC w pc qc list) (rl : RdI w pl ql lk) (rs : RdL signC w ps qs signs) :
    Calls Try.prog 54 #[.slice pc list.length qc, .slice pl lk.length ql, .slice ps signs.length qs, .int .i64 id, .int .i64 by', .slice pd d.length qd] w fun e w' => e = .returned (.int .i64 (swC list lk signs id by' d)) ∧ Below w.heap.size w w' := by
  have HC : Hid (swC list lk signs id by' d = _) := swC.eq_1 list lk signs id by' d
  have HO : Hid (swO list lk signs id by' d = _) := swO.eq_1 list lk signs id by' d
  have HRC : Hid (RdL certC w pc qc list) := rc
  have HRL : Hid (RdI w pl ql lk) := rl
  have HRS : Hid (RdL signC w ps qs signs) := rs
  have hqs1 : signs.length ≤ qs := rs.1
  have hqs2 : qs ≤ 2 ^ 63 - 1 := rs.2.1
  have KF : Hid (Calls Try.prog 20 #[.slice pc list.length qc] _ _) := implCt_c list pc qc w rc
  clear rc rl rs
  by_cases hf : ctC list = 0
  · rw [hf] at KF
    go_enter Try.func54, Try.ntmps54
    go_wp2_with fail
    refine KF.out.mono ?_
    rintro e w1 ⟨rfl, hb1⟩
    have B1 := hb1
    have KG : Hid (Calls Try.prog 26 #[.slice ps signs.length qs] _ _) := implSg_c signs ps qs w1 (HRS.out.keep B1)
    clear KF hb1
    by_cases hg : sgC signs = 0
    · rw [hg] at KG
      have HSO : Hid (swC list lk signs id by' d = swO list lk signs id by' d) := by show _ = _; rw [HC.out, if_pos hf, if_pos hg]
      go_wp2_with fail
      refine KG.out.mono ?_
      rintro e w2 ⟨rfl, hb2⟩
      have B2 := Below.step B1 hb2
      have KA : Hid (Calls Try.prog 48 #[.slice pc list.length qc, .int .i64 id] _ _) := certOf_c list pc qc id w2 (HRC.out.keep B2)
      clear KG hb2
      go_wp2_with fail
      refine KA.out.mono ?_
      rintro e w3 ⟨rfl, hb3⟩
      obtain ⟨f, hfo⟩ : ∃ f, Hid (foC list id = f) := ⟨_, rfl⟩
      rw [hfo.out]
      have B3 := Below.mk (Below.step B2 hb3) (.cells #[.int .i64 f.1, .int .i64 f.2.1, .int .i64 f.2.2] 26)
      have A3 := Arr.new w3 [.int .i64 f.1, .int .i64 f.2.1, .int .i64 f.2.2] 26
      have a1 := (A3.cell 1).trans (show _ = some _ from rfl)
      have KL : Hid (Calls Try.prog 75 #[.slice pl lk.length ql, .int .i64 id] (w3.alloc (.cells #[.int .i64 f.1, .int .i64 f.2.1, .int .i64 f.2.2] 26)) _) := containsI_c lk pl ql id _ (HRL.out.keep B3)
      clear KA hb3 A3
      cases hh : hasC list id
      · have HU : Hid (swC list lk signs id by' d = 4) := by show _ = _; rw [HSO.out, HO.out, hh]; rfl
        have hz : f = zC := hfo.out.symm.trans (foC_none hh)
        subst hz
        clear hf hg hfo
        simp only [show zC.1 = 0 from rfl, show zC.2.1 = 0 from rfl, show zC.2.2 = 0 from rfl] at B3 KL a1 ⊢
        go_wp2
        go_ret
        exact ⟨by rw [HU.out]; rfl, B3⟩
      · have hok := okC_parts (foC_ok (ctC_all hf) hh)
        rw [hfo.out] at hok
        have d0 : (f.1 == 0) = false := by rw [beq_eq_false_iff_ne]; omega
        clear hf hok
        cases h2 : inB by' 0 9
        · have HU : Hid (swC list lk signs id by' d = 3) := by show _ = _; rw [HSO.out, HO.out, hh, h2]; rfl
          go_wp2_with fail
          refine (isGiver_c _ _).mono ?_
          rintro e w5 ⟨rfl, hw⟩
          subst hw
          rw [h2]
          go_wp2
          go_ret
          exact ⟨by rw [HU.out]; rfl, B3⟩
        · cases h3 : is32 d
          · have HU : Hid (swC list lk signs id by' d = 1) := by show _ = _; rw [HSO.out, HO.out, hh, h2, h3]; rfl
            go_wp2_with fail
            refine (isGiver_c _ _).mono ?_
            rintro e w5 ⟨rfl, hw⟩
            subst hw
            rw [h2]
            go_wp2_with fail
            refine (isKeyR_c pd qd d _).mono ?_
            rintro e w5 ⟨rfl, hw⟩
            subst hw
            rw [h3]
            go_wp2
            go_ret
            exact ⟨by rw [HU.out]; rfl, B3⟩
          · have HP : Hid (swC list lk signs id by' d = if decide (f.2.1 = by') || lkB lk id then (if signs.length < 40 then 0 else 2) else 7) := by show _ = _; rw [HSO.out, HO.out, hh, h2, h3, hfo.out]; rfl
            have hln : signs.length ≤ 40 := (sgC_all.1 hg).1
            by_cases h4 : f.2.1 = by'
            · have d4 : (by' != f.2.1) = false := by rw [bne_eq_false_iff_eq]; exact h4.symm
              have HQ : Hid ((decide (f.2.1 = by') || lkB lk id) = true) := by show _ = _; simp [h4]
              clear h4
              by_cases h5 : signs.length < 40
              · have HU : Hid (swC list lk signs id by' d = 0) := by show _ = _; rw [HP.out, if_pos HQ.out, if_pos h5]
                have h5I : ((signs.length : Int) == 40) = false := by rw [beq_eq_false_iff_ne]; omega
                go_wp2_with fail
                refine (isGiver_c _ _).mono ?_
                rintro e w5 ⟨rfl, hw⟩
                subst hw
                rw [h2]
                go_wp2_with fail
                refine (isKeyR_c pd qd d _).mono ?_
                rintro e w5 ⟨rfl, hw⟩
                subst hw
                rw [h3]
                go_wp2
                go_ret
                exact ⟨by rw [HU.out]; rfl, B3⟩
              · have HU : Hid (swC list lk signs id by' d = 2) := by show _ = _; rw [HP.out, if_pos HQ.out, if_neg h5]
                have h5I : ((signs.length : Int) == 40) = true := by rw [beq_iff_eq]; omega
                go_wp2_with fail
                refine (isGiver_c _ _).mono ?_
                rintro e w5 ⟨rfl, hw⟩
                subst hw
                rw [h2]
                go_wp2_with fail
                refine (isKeyR_c pd qd d _).mono ?_
                rintro e w5 ⟨rfl, hw⟩
                subst hw
                rw [h3]
                go_wp2
                go_ret
                exact ⟨by rw [HU.out]; rfl, B3⟩
            · have d4 : (by' != f.2.1) = true := by rw [bne_iff_ne]; exact fun h => h4 h.symm
              cases h6 : lkB lk id
              · have HU : Hid (swC list lk signs id by' d = 7) := by show _ = _; rw [HP.out, if_neg (by simp [h4, h6])]
                clear h4
                go_wp2_with fail
                refine (isGiver_c _ _).mono ?_
                rintro e w5 ⟨rfl, hw⟩
                subst hw
                rw [h2]
                go_wp2_with fail
                refine (isKeyR_c pd qd d _).mono ?_
                rintro e w5 ⟨rfl, hw⟩
                subst hw
                rw [h3]
                go_wp2_with fail
                refine KL.out.mono ?_
                rintro e w5 ⟨rfl, hw⟩
                subst hw
                rw [h6]
                go_wp2
                go_ret
                exact ⟨by rw [HU.out]; rfl, B3⟩
              · have HQ : Hid ((decide (f.2.1 = by') || lkB lk id) = true) := by show _ = _; simp [h6]
                clear h4
                by_cases h5 : signs.length < 40
                · have HU : Hid (swC list lk signs id by' d = 0) := by show _ = _; rw [HP.out, if_pos HQ.out, if_pos h5]
                  have h5I : ((signs.length : Int) == 40) = false := by rw [beq_eq_false_iff_ne]; omega
                  go_wp2_with fail
                  refine (isGiver_c _ _).mono ?_
                  rintro e w5 ⟨rfl, hw⟩
                  subst hw
                  rw [h2]
                  go_wp2_with fail
                  refine (isKeyR_c pd qd d _).mono ?_
                  rintro e w5 ⟨rfl, hw⟩
                  subst hw
                  rw [h3]
                  go_wp2_with fail
                  refine KL.out.mono ?_
                  rintro e w5 ⟨rfl, hw⟩
                  subst hw
                  rw [h6]
                  go_wp2
                  go_ret
                  exact ⟨by rw [HU.out]; rfl, B3⟩
                · have HU : Hid (swC list lk signs id by' d = 2) := by show _ = _; rw [HP.out, if_pos HQ.out, if_neg h5]
                  have h5I : ((signs.length : Int) == 40) = true := by rw [beq_iff_eq]; omega
                  go_wp2_with fail
                  refine (isGiver_c _ _).mono ?_
                  rintro e w5 ⟨rfl, hw⟩
                  subst hw
                  rw [h2]
                  go_wp2_with fail
                  refine (isKeyR_c pd qd d _).mono ?_
                  rintro e w5 ⟨rfl, hw⟩
                  subst hw
                  rw [h3]
                  go_wp2_with fail
                  refine KL.out.mono ?_
                  rintro e w5 ⟨rfl, hw⟩
                  subst hw
                  rw [h6]
                  go_wp2
                  go_ret
                  exact ⟨by rw [HU.out]; rfl, B3⟩
    · skip
      obtain ⟨z, hz⟩ : ∃ z, Hid (sgC signs = z) := ⟨_, rfl⟩
      have HU : Hid (swC list lk signs id by' d = z) := by show _ = _; rw [HC.out, if_pos hf, if_neg hg, hz.out]
      have dz : (z != 0) = true := by rw [bne_iff_ne, ← hz.out]; exact hg
      rw [hz.out] at KG
      clear HC HO hf hg hz
      go_wp2_with fail
      refine KG.out.mono ?_
      rintro e w2 ⟨rfl, hb2⟩
      have B2 := Below.step B1 hb2
      go_wp2
      go_ret
      exact ⟨by rw [HU.out]; rfl, B2⟩
  · skip
    obtain ⟨z, hz⟩ : ∃ z, Hid (ctC list = z) := ⟨_, rfl⟩
    have HU : Hid (swC list lk signs id by' d = z) := by show _ = _; rw [HC.out, if_neg hf, hz.out]
    have dz : (z != 0) = true := by rw [bne_iff_ne, ← hz.out]; exact hf
    rw [hz.out] at KF
    clear HC HO hf hz
    go_enter Try.func54, Try.ntmps54
    go_wp2_with fail
    refine KF.out.mono ?_
    rintro e w2 ⟨rfl, hb2⟩
    go_wp2
    go_ret
    exact ⟨by rw [HU.out]; rfl, hb2⟩
set_option maxRecDepth 4000 in
set_option maxHeartbeats 2000000 in
theorem implSw_c (list : List CertD) (lk : List Int) (signs : List SignD) (id by' : Int) (d : List UInt8) (pc pl ps pd : Option Addr) (qc ql qs qd : Nat) (w : World)
    (rc : RdL certC w pc qc list) (rl : RdI w pl ql lk) (rs : RdL signC w ps qs signs) (rd : Rd w pd qd d) :
    Calls Try.prog 22 #[.slice pc list.length qc, .slice pl lk.length ql, .slice ps signs.length qs, .int .i64 id, .int .i64 by', .slice pd d.length qd] w fun e w' => ∃ v xs fp, e = .returned (.agg #[.int .i64 (swD list lk signs id by' d).1, .int .i64 (swD list lk signs id by' d).2.1, v]) ∧ OwnL 49 signC w' w.heap.size v (swD list lk signs id by' d).2.2 xs fp ∧ Below w.heap.size w w' := by
  have BW := alloc_below w (.cells #[.int .i64 0, .int .i64 0, .slice none 0 0] 45)
  have R := Arr.new w [.int .i64 0, .int .i64 0, .slice none 0 0] 45
  have KF : Hid (Calls Try.prog 54 #[.slice pc list.length qc, .slice pl lk.length ql, .slice ps signs.length qs, .int .i64 id, .int .i64 by', .slice pd d.length qd] _ _) := signFault_c list lk signs id by' d pc pl ps pd qc ql qs qd _ (rc.keep BW) (rl.keep BW) (rs.keep BW)
  have HRS : Hid (RdL signC w ps qs signs) := rs
  have HRD : Hid (Rd w pd qd d) := rd
  have hqs1 : signs.length ≤ qs := rs.1
  have hqs2 : qs ≤ 2 ^ 63 - 1 := rs.2.1
  clear rc rl rs rd
  by_cases hf : swC list lk signs id by' d = 0
  · rw [hf] at KF
    obtain ⟨hc1, hc2, hc3⟩ := swC_ok hf
    obtain ⟨-, -, g3, -, g5⟩ := swO_ok hc3
    have HS := sgC_all.1 hc2
    have HX : Hid (d.length = 32) := by show _ = _; simpa [is32] using g3
    have HD : Hid (swD list lk signs id by' d = (0, (signs.length : Int), signs ++ [(id, by', d)])) := by show _ = _; unfold swD; rw [if_pos hf]
    rw [HD.out]
    clear hf hc1 hc2 hc3 g3
    go_enter Try.func22, Try.ntmps22
    go_wp2_with fail
    refine KF.out.mono ?_
    rintro e w2 ⟨rfl, hb2⟩
    have R2 := R.stay hb2
    have B2 := Below.step BW hb2
    have KO : Hid (Calls Try.prog 55 #[.agg #[.int .i64 id, .int .i64 by', .slice pd d.length qd]] _ _) := ownSign_c (id, by', d) pd qd w2 (HRD.out.keep B2) (by show d.length ≤ 1000; rw [HX.out]; decide)
    clear KF hb2 R BW
    go_wp2_with fail
    refine KO.out.mono ?_
    rintro e w3 ⟨v3, rfl, k3, hb3⟩
    replace k3 : Own w3 w2.heap.size v3 d := k3
    obtain ⟨pv, qv, rfl, -⟩ := k3.rd
    have hal := alloc_below w3 (.cells #[.int .i64 id, .int .i64 by', .slice pv d.length qv] 49)
    have N4 := Arr.new w3 [.int .i64 id, .int .i64 by', .slice pv d.length qv] 49
    have R4 := (R2.stay hb3).stay hal
    have k4 := k3.stay hal
    have BW4 := Below.step (Below.step B2 hb3) hal
    have hrl : Hid (w.heap.size < w2.heap.size) := R2.lt
    have hb24 := Below.step hb3 hal
    clear KO R2 k3 hb3 hal
    go_wp2_with fail
    generalize hV4 : w3.alloc (.cells #[.int .i64 id, .int .i64 by', .slice pv d.length qv] 49) = V at *
    have n0 := (N4.cell 0).trans (show _ = some _ from rfl)
    have n1 := (N4.cell 1).trans (show _ = some _ from rfl)
    have n2 := (N4.cell 2).trans (show _ = some _ from rfl)
    have HR4 := HRS.out.keep BW4
    have KC : Hid (∀ W : World, Below V.heap.size V W → Calls Try.prog 56 #[.slice ps signs.length qs] W fun e w' => ∃ v xs fp, e = .returned v ∧ OwnL 49 signC w' V.heap.size v signs xs fp ∧ Below W.heap.size W w') := fun W hW => by
      refine Calls.mono (ownSigns_c signs ps qs W (HR4.keep hW) (by omega) (fun a ha => (sgO_parts (HS.2 a ha)).2.2.2.2)) ?_
      rintro e w' ⟨v, xs, fp, rfl, ho, hb⟩
      exact ⟨v, xs, fp, rfl, ho.low hW.size, hb⟩
    have hvs : Hid (w2.heap.size ≤ V.heap.size) := hb24.size
    have hgl0 : w3.heap.size < V.heap.size := N4.lt
    clear hV4 HR4 hb24 N4 B2
    have hlt3 : Hid (∀ j, (Value.slice pv d.length qv).ownBlock = some j → j < V.heap.size) := fun j hj => k4.lt j hj
    have hgl : Hid (w3.heap.size < V.heap.size) := hgl0
    apply share
    case h =>
      intro JN
      have g0 := Gen.low_cell (B := V.heap.size) n0 hgl.out
      have g1 := Gen.low_cell (B := V.heap.size) n1 hgl.out
      have g2 := Gen.low_cell (B := V.heap.size) n2 hgl.out
      have hne := Gen.low_some V.heap.size V
      refine Gen.wp_region_pick (Gen.low_pre V.heap.size) [0, 1, 2, 4] 7 3 2 rfl rfl rfl (by kernel_rfl) (by kernel_rfl) (by kernel_rfl) (by kernel_rfl) ?_
      simp only [opsAt, List.getElem?_toArray, List.getElem?_cons_zero, List.getElem?_cons_succ]
      repeat (go_big_quiet_step (fail))
      refine wpQuiet_nil ?_
      clear g0 g1 g2 hne
      have BB := Below.refl V.heap.size V
      refine Gen.wpM_two (i := 3) (j := 5) (by kernel_rfl) ?_ ?_
      · skip
        refine Gen.mOp_call rfl (by go_simp) 56 _ #[.slice ps signs.length qs] (fun w => by go_simp) rfl ?_
        rintro _ ⟨n1, rfl⟩
        have B1 := BB.trans ((Gen.low_pre V.heap.size).drewN V n1)
        generalize V.drewN n1 = U1 at *
        clear BB
        refine (KC.out U1 B1).mono ?_
        rintro e w5 ⟨v, xs, fp, rfl, OL, hbx⟩
        obtain ⟨po, qo, rfl, hord⟩ := OL.rd
        have hqo2 : qo ≤ 2 ^ 63 - 1 := hord.2.1
        clear hord
        have hby : Below V.heap.size U1 w5 := ⟨hbx.os, hbx.tape, hbx.output, hbx.size, fun k hk => hbx.block k (Nat.lt_of_lt_of_le hk B1.size)⟩
        refine ⟨_, rfl, ⟨⟨w5, hby⟩, rfl⟩, ?_⟩
        have BB := B1.trans hby
        clear hbx hby B1 U1
        refine Gen.wpM_only (i := 5) (by kernel_rfl) ?_
        refine Gen.mOp_make rfl (by go_simp) ?_
        rintro _ ⟨n2, rfl⟩
        have B1 := BB.trans ((Gen.low_pre V.heap.size).drewN w5 n2)
        replace OL := OL.fr (w' := w5.drewN n2) (fun _ _ => rfl)
        generalize w5.drewN n2 = U1 at *
        clear BB
        refine ⟨.slice (some ⟨U1.heap.size, 0, none⟩) 1 1, U1.alloc (.cells #[.int .i64 id, .int .i64 by', .slice pv d.length qv] 49), by go_simp, ⟨⟨_, (Below.refl _ _).alloc B1.size _⟩, rfl⟩, ?_⟩
        have AA := Arr.new U1 [.int .i64 id, .int .i64 by', .slice pv d.length qv] 49
        replace OL := OL.stay (alloc_below U1 (.cells #[.int .i64 id, .int .i64 by', .slice pv d.length qv] 49))
        have BB := B1.alloc B1.size (.cells #[.int .i64 id, .int .i64 by', .slice pv d.length qv] 49)
        generalize U1.alloc (.cells #[.int .i64 id, .int .i64 by', .slice pv d.length qv] 49) = w6 at *
        generalize U1.heap.size = gg at *
        clear B1 U1
        clear w5
        generalize hw65 : w6 = w5 at *
        clear hw65
        refine Gen.wpM_only (i := 6) (by kernel_rfl) ?_
        refine Gen.mOp_list rfl (by go_simp) (by kernel_rfl) ?_
        rintro _ ⟨n3, rfl⟩
        replace BB := BB.trans ((Gen.low_pre V.heap.size).drewN w5 n3)
        replace OL := OL.fr (w' := w5.drewN n3) (fun _ _ => rfl)
        replace AA : Arr (w5.drewN n3) gg 49 [.int .i64 id, .int .i64 by', .slice pv d.length qv] := AA
        generalize w5.drewN n3 = W at *
        have k5 : Own W w2.heap.size (.slice pv d.length qv) d := k4.keep BB (fun k hk => k4.lt k hk)
        have hnew : ∀ j u, [Value.int .i64 id, .int .i64 by', .slice pv d.length qv][j]? = some u → W.cell? ((⟨gg, 0, none⟩ : Addr).add j) = some u := fun j u hj => AA.cells j u hj
        obtain ⟨i0, hi, hz0, hz1, hz2⟩ := info_parts infoSign
        refine wpList_append_lies _ rfl (.tmp 34) (.tmp 36) 41 rfl V.heap.size 49 i0 (.agg #[.int .i64 0, .int .i64 0, .slice none 0 0]) 3 40 Try.underlying41 hi hz0 hz1 hz2 rfl (by decide) (.slice po signs.length qo) signs.length xs rfl OL.row ⟨gg, 0, none⟩ 1 1 [.int .i64 id, .int .i64 by', .slice pv d.length qv] rfl rfl hnew (by intro u hu; simp at hu; rcases hu with rfl | rfl | rfl <;> rfl) (by decide) (by unfold maxLen; omega) (by omega) BB.size _ rfl ?_
        intro g6 c6 w6 hown6 hgrow6 hat6 hlt6
        have ka := sign_own_mk (a := (id, by', d)) k5
        have OP := (OL.low (B' := w2.heap.size) hvs.out).push ka (fun j hj hj2 => by
          have h1 := hlt3.out j (mem_opt.1 hj)
          have h2 := (OL.ins j hj2).1
          omega) (k := signs.length + 1) (v' := .slice (some ⟨g6, 0, none⟩) (signs.length + 1) c6) (g := g6) (ownsRow_low hown6 hvs.out) (by simp) hgrow6 rfl hat6
        have BG := (Below.refl V.heap.size W).grown hgrow6 BB.size (fun k hk => (OL.ins k (List.mem_append_left _ (mem_opt.2 hk))).1)
        refine ⟨rfl, BG, ?_⟩
        replace BB := BB.trans BG
        clear BG k5 hnew hi hz0 hz1 hz2 i0 hown6 hgrow6 hat6 hlt6 ka OL AA
        clear W
        refine Gen.wpM_end (by kernel_rfl) rfl (by kernel_rfl) (by decide) ?_
        rintro _ ⟨n4, rfl⟩
        replace BB := BB.trans ((Gen.low_pre V.heap.size).drewN w6 n4)
        replace OP := OP.fr (w' := w6.drewN n4) (fun _ _ => rfl)
        generalize w6.drewN n4 = W at *
        simp only [List.drop_succ_cons, List.drop_zero]
        go_simp
        clear hqo2
        revert BB
        revert OP
        generalize xs ++ _ = ys
        generalize fp ++ _ = fq
        revert fq
        revert ys
        revert qo
        revert po
        revert gg
        revert c6
        revert g6
        revert W
        exact JN.out
      · skip
        refine Gen.mOp_make rfl (by go_simp) ?_
        rintro _ ⟨n2, rfl⟩
        have B1 := BB.trans ((Gen.low_pre V.heap.size).drewN V n2)
        generalize V.drewN n2 = U1 at *
        clear BB
        refine ⟨.slice (some ⟨U1.heap.size, 0, none⟩) 1 1, U1.alloc (.cells #[.int .i64 id, .int .i64 by', .slice pv d.length qv] 49), by go_simp, ⟨⟨_, (Below.refl _ _).alloc B1.size _⟩, rfl⟩, ?_⟩
        have AA := Arr.new U1 [.int .i64 id, .int .i64 by', .slice pv d.length qv] 49
        have BB := B1.alloc B1.size (.cells #[.int .i64 id, .int .i64 by', .slice pv d.length qv] 49)
        generalize U1.alloc (.cells #[.int .i64 id, .int .i64 by', .slice pv d.length qv] 49) = w5 at *
        generalize U1.heap.size = gg at *
        clear B1 U1
        refine Gen.wpM_only (i := 3) (by kernel_rfl) ?_
        refine Gen.mOp_call rfl (by go_simp) 56 _ #[.slice ps signs.length qs] (fun w => by go_simp) rfl ?_
        rintro _ ⟨n1, rfl⟩
        have B1 := BB.trans ((Gen.low_pre V.heap.size).drewN w5 n1)
        replace AA : Arr (w5.drewN n1) gg 49 [.int .i64 id, .int .i64 by', .slice pv d.length qv] := AA
        generalize w5.drewN n1 = U1 at *
        clear BB
        refine (KC.out U1 B1).mono ?_
        rintro e w6 ⟨v, xs, fp, rfl, OL, hbx⟩
        obtain ⟨po, qo, rfl, hord⟩ := OL.rd
        have hqo2 : qo ≤ 2 ^ 63 - 1 := hord.2.1
        clear hord
        have hby : Below V.heap.size U1 w6 := ⟨hbx.os, hbx.tape, hbx.output, hbx.size, fun k hk => hbx.block k (Nat.lt_of_lt_of_le hk B1.size)⟩
        refine ⟨_, rfl, ⟨⟨w6, hby⟩, rfl⟩, ?_⟩
        have BB := B1.trans hby
        replace AA := AA.stay hbx
        clear hbx hby B1 U1
        clear w5
        generalize hw65 : w6 = w5 at *
        clear hw65
        refine Gen.wpM_only (i := 6) (by kernel_rfl) ?_
        refine Gen.mOp_list rfl (by go_simp) (by kernel_rfl) ?_
        rintro _ ⟨n3, rfl⟩
        replace BB := BB.trans ((Gen.low_pre V.heap.size).drewN w5 n3)
        replace OL := OL.fr (w' := w5.drewN n3) (fun _ _ => rfl)
        replace AA : Arr (w5.drewN n3) gg 49 [.int .i64 id, .int .i64 by', .slice pv d.length qv] := AA
        generalize w5.drewN n3 = W at *
        have k5 : Own W w2.heap.size (.slice pv d.length qv) d := k4.keep BB (fun k hk => k4.lt k hk)
        have hnew : ∀ j u, [Value.int .i64 id, .int .i64 by', .slice pv d.length qv][j]? = some u → W.cell? ((⟨gg, 0, none⟩ : Addr).add j) = some u := fun j u hj => AA.cells j u hj
        obtain ⟨i0, hi, hz0, hz1, hz2⟩ := info_parts infoSign
        refine wpList_append_lies _ rfl (.tmp 34) (.tmp 36) 41 rfl V.heap.size 49 i0 (.agg #[.int .i64 0, .int .i64 0, .slice none 0 0]) 3 40 Try.underlying41 hi hz0 hz1 hz2 rfl (by decide) (.slice po signs.length qo) signs.length xs rfl OL.row ⟨gg, 0, none⟩ 1 1 [.int .i64 id, .int .i64 by', .slice pv d.length qv] rfl rfl hnew (by intro u hu; simp at hu; rcases hu with rfl | rfl | rfl <;> rfl) (by decide) (by unfold maxLen; omega) (by omega) BB.size _ rfl ?_
        intro g6 c6 w6 hown6 hgrow6 hat6 hlt6
        have ka := sign_own_mk (a := (id, by', d)) k5
        have OP := (OL.low (B' := w2.heap.size) hvs.out).push ka (fun j hj hj2 => by
          have h1 := hlt3.out j (mem_opt.1 hj)
          have h2 := (OL.ins j hj2).1
          omega) (k := signs.length + 1) (v' := .slice (some ⟨g6, 0, none⟩) (signs.length + 1) c6) (g := g6) (ownsRow_low hown6 hvs.out) (by simp) hgrow6 rfl hat6
        have BG := (Below.refl V.heap.size W).grown hgrow6 BB.size (fun k hk => (OL.ins k (List.mem_append_left _ (mem_opt.2 hk))).1)
        refine ⟨rfl, BG, ?_⟩
        replace BB := BB.trans BG
        clear BG k5 hnew hi hz0 hz1 hz2 i0 hown6 hgrow6 hat6 hlt6 ka OL AA
        clear W
        refine Gen.wpM_end (by kernel_rfl) rfl (by kernel_rfl) (by decide) ?_
        rintro _ ⟨n4, rfl⟩
        replace BB := BB.trans ((Gen.low_pre V.heap.size).drewN w6 n4)
        replace OP := OP.fr (w' := w6.drewN n4) (fun _ _ => rfl)
        generalize w6.drewN n4 = W at *
        simp only [List.drop_succ_cons, List.drop_zero]
        go_simp
        clear hqo2
        revert BB
        revert OP
        generalize xs ++ _ = ys
        generalize fp ++ _ = fq
        revert fq
        revert ys
        revert qo
        revert po
        revert gg
        revert c6
        revert g6
        revert W
        exact JN.out
    case hj =>
    intro W g6 c6 gg po qo ys fq OP BB
    have R5 := R4.stay BB
    have BW6 := Below.step BW4 BB
    have hins := OP.ins
    have s0 := (R5.cell 0).trans (show _ = some _ from rfl)
    have s1 := (R5.cell 1).trans (show _ = some _ from rfl)
    have s2 := (R5.cell 2).trans (show _ = some _ from rfl)
    have fs := R5.frozen
    clear KC n0 n1 n2 R4 BB R5
    go_wp2_with fail
    refine bodyPost_ret (v := .agg #[.int .i64 0, .int .i64 signs.length, .slice (some ⟨g6, 0, none⟩) (signs.length + 1) c6]) (by simp [results, Try.results22, go_sem, s0, s1, s2]) rfl ⟨_, _, _, rfl, OwnL.low (OP.fr (fun j hj => ?_)) (by have := hrl.out; omega), ((BW6.setCell (Nat.le_refl _) _).setCell (Nat.le_refl _) _).setCell (Nat.le_refl _) _⟩
    rw [heap_setCell_other _ _ j _ (by have := (hins j hj).1; have := hrl.out; show j ≠ w.heap.size; omega), heap_setCell_other _ _ j _ (by have := (hins j hj).1; have := hrl.out; show j ≠ w.heap.size; omega), heap_setCell_other _ _ j _ (by have := (hins j hj).1; have := hrl.out; show j ≠ w.heap.size; omega)]
  · obtain ⟨z, hz⟩ : ∃ z, Hid (swC list lk signs id by' d = z) := ⟨_, rfl⟩
    have HD : Hid (swD list lk signs id by' d = (z, 0, [])) := by show _ = _; unfold swD; rw [if_neg hf, hz.out]
    have dz : (z != 0) = true := by rw [bne_iff_ne, ← hz.out]; exact hf
    rw [hz.out] at KF
    rw [HD.out]
    clear hf hz
    go_enter Try.func22, Try.ntmps22
    go_wp2_with fail
    refine KF.out.mono ?_
    rintro e w2 ⟨rfl, hb2⟩
    have R2 := R.stay hb2
    have B2 := Below.step BW hb2
    have s0 := R2.cell 0
    have s1 := R2.cell 1
    have s2 := R2.cell 2
    have fs := R2.frozen
    simp at s0 s1 s2
    clear KF hb2 R BW R2
    go_wp2_with fail
    exact bodyPost_ret (v := .agg #[.int .i64 z, .int .i64 0, .slice none 0 0]) (by simp [results, Try.results22, go_sem, s0, s1, s2]) rfl ⟨_, _, _, rfl, nil_ownS _ _, ((B2.setCell (Nat.le_refl _) _).setCell (Nat.le_refl _) _).setCell (Nat.le_refl _) _⟩
end Go.Proofs.Ytklglpmlfboglaa

