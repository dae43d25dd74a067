/- The draws DrawSignWith and DrawCheckSign: what comes out can be read; its bounds, no more (written by tools/draw_si.py). -/
import Derived.Test.YtklglpmlfboglaaDrawSg
import Derived.Test.YtklglpmlfboglaaJoint11
import Derived.Test.YtklglpmlfboglaaJoint10
import Derived.Test.YtklglpmlfboglaaJoint5
namespace Go.Proofs.Ytklglpmlfboglaa
open Go.ChangeShapes Go.WideShapes Go.ChangeAt Go.RowKit

theorem OwnI.draw {w w' : World} {B b : Nat} {v : Value} {l : List Int} (h : OwnI w B v l) (hg : w.grownBy w' (some b)) (hne : ∀ k, v.ownBlock = some k → (some b : Option Nat) ≠ some k) : OwnI w' B v l :=
  h.fr fun k hk => hg.block k (World.ownsRow.lt h k hk).2 (fun e => hne k hk e.symm)
theorem rdI_lit (w : World) (x : Int) (t : TypeId) : RdI (w.alloc (.cells #[.int .i64 x] t)) (some ⟨w.heap.size, 0, none⟩) 1 [x] :=
  ⟨Nat.le_refl _, by unfold maxLen; decide, (fun h => by cases h), fun _ => ⟨w.heap.size, 0, rfl, fun i hi => by
    have e : i = 0 := by simp at hi; omega
    subst e
    rw [World.cell?_alloc_new]
    rfl⟩⟩
set_option maxRecDepth 4000 in
set_option maxHeartbeats 4000000 in
theorem drawSw_c (p : Option Addr) (q : Nat) (cs : List UInt8) (w : World) (hr : Rd w p q cs) :
    Calls Try.prog 21 #[.slice p cs.length q] w fun e w' => ∃ (list : List CertD) (lk : List Int) (signs : List SignD) (id by' : Int) (d : List UInt8) (pc pl ps pd : Option Addr) (qc ql qs qd : Nat), e = .returned (.tuple #[.slice pc list.length qc, .slice pl lk.length ql, .slice ps signs.length qs, .int .i64 id, .int .i64 by', .slice pd d.length qd]) ∧ RdL certC w' pc qc list ∧ RdI w' pl ql lk ∧ RdL signC w' ps qs signs ∧ Rd w' pd qd d ∧ list.length ≤ 9 ∧ lk.length ≤ 1 ∧ signs.length ≤ 41 ∧ okS signs ∧ 1 ≤ id ∧ id ≤ 4 ∧ d.length ≤ 32 ∧ Below w.heap.size w w' := by
  go_enter Try.func21, Try.ntmps21
  go_wp2_with fail
  refine (l1Source_c p q cs w hr).mono ?_
  rintro e w1 ⟨rfl, hs, BW, hlt⟩
  have hlH : Hid (w.heap.size < w1.heap.size) := hlt
  clear hlt
  go_wp2_with fail
  refine (l12Bent_c w.heap.size p q cs 0 w1 hs (by omega) (by omega)).mono ?_
  rintro e w2 ⟨v, rfl, list, xs, fp, t1, OL, hll, -, ht1, ht1b, hs2, hgn⟩
  obtain ⟨pc, qc, rfl, -⟩ := OL.rd
  replace BW := BW.grown hgn BW.size (fun k hk => by simp at hk; omega)
  clear hs hgn
  have hw2 : Hid (w.heap.size < w2.heap.size) := hs2.lt
  have HLn : Hid (w2.heap.size ∉ (Value.slice pc list.length qc).ownBlock.toList ++ fp) := fun h => by have := (OL.ins _ h).2; omega
  have hal := alloc_below w2 (.cells #[] 2)
  replace OL := OL.stay hal
  replace BW := Below.step BW hal
  replace hs2 := hs2.keep hal
  have OK : OwnI (w2.alloc (.cells #[] 2)) w2.heap.size (.slice (some ⟨w2.heap.size, 0, none⟩) 0 0) [] := World.ownsRow_lit (base := w2.heap.size) (e := 2) (size := 1) w2 #[] 0 (Nat.le_refl _) (by unfold maxLen; decide) (by simp)
  clear hal
  have hKg : Hid (∀ k, (Value.slice (some ⟨w2.heap.size, 0, none⟩) 0 0).ownBlock = some k → w.heap.size < k) := fun k hk => by simp [Value.ownBlock] at hk; have := hw2.out; omega
  go_wp2_with fail
  refine (l1Chance_c w.heap.size p q cs t1 2 _ hs2 (by omega) (by omega) (by omega) (by omega)).mono ?_
  rintro e w3 ⟨ch, rfl, hs3, hgn⟩
  replace OL := OL.drawC hgn (Nat.lt_of_lt_of_le hlH.out (Nat.le_refl _))
  replace OK := OwnI.draw OK hgn (fun k hk e => by have := hKg.out k hk; simp at e; omega)
  replace BW := BW.grown hgn BW.size (fun k hk => by simp at hk; omega)
  clear hgn hs2
  cases ch
  · skip
    go_wp2_with fail
    refine (l1Next_c w.heap.size p q cs (t1 + 1) 4 w3 hs3 (by omega) (by omega) (by omega) (by omega)).mono ?_
    rintro e w5 ⟨r4, rfl, x4, y4, hs5, hgn⟩
    replace OL := OL.drawC hgn (Nat.lt_of_lt_of_le hlH.out (Nat.le_refl _))
    replace OK := OwnI.draw OK hgn (fun k hk e => by have := hKg.out k hk; simp at e; omega)
    replace BW := BW.grown hgn BW.size (fun k hk => by simp at hk; omega)
    clear hgn hs3
    go_wp2_with fail
    refine (l1Pick_c w.heap.size p q cs (t1 + 1 + 1) w5.heap.size [1, 2, 3, 0, 10] 5 _ (hs5.keep (alloc_below _ _)) (by omega) (by omega) rfl (by decide) (by decide) (by have := hs5.lt; omega) (new_ints _ _ _ [1, 2, 3, 0, 10] rfl)).mono ?_
    rintro e w6 ⟨b5, -, rfl, hs6, hgn⟩
    replace OL := (OL.stay (alloc_below _ _)).drawC hgn (Nat.lt_of_lt_of_le hlH.out (Nat.le_refl _))
    replace OK := OwnI.draw (OwnI.stay OK (alloc_below _ _)) hgn (fun k hk e => by have := hKg.out k hk; simp at e; omega)
    replace BW := (Below.mk BW _).grown hgn (by rw [size_alloc]; have := BW.size; omega) (fun k hk => by simp at hk; omega)
    clear hgn hs5
    have rl6 := RdL.own OL
    have hq1 : list.length ≤ qc := rl6.1
    have hq2 : qc ≤ 2 ^ 63 - 1 := rl6.2.1
    have KA : Hid (Calls Try.prog 50 #[.slice pc list.length qc, .int .i64 (1 + r4)] w6 fun e w' => e = .returned (.int .i64 (ixC list (1 + r4))) ∧ w' = w6) := l12At_c list pc qc (1 + r4) w6 rl6
    cases hh : hasC list (1 + r4)
    · rw [ixC_none hh] at KA
      go_wp2_with fail
      refine KA.out.mono ?_
      rintro e w7 ⟨rfl, hw⟩
      subst w7
      clear KA rl6 hh
      have hwS : Hid (w.heap.size < w6.heap.size) := hs6.lt
      go_wp2_with fail
      refine (l12DrawSigns_c w.heap.size p q cs (t1 + 1 + 1 + 1) w6 hs6 (by omega) (by omega)).mono ?_
      rintro e w8 ⟨v8, rfl, signs, ys, fq, t8, OS, hsl, hok, ht8, ht9, hs8, hgn⟩
      obtain ⟨ps, qs, rfl, -⟩ := OS.rd
      replace OL := OL.drawC hgn (Nat.lt_of_lt_of_le hlH.out (Nat.le_refl _))
      replace OK := OwnI.draw OK hgn (fun k hk e => by have := hKg.out k hk; simp at e; omega)
      replace BW := BW.grown hgn BW.size (fun k hk => by simp at hk; omega)
      clear hgn hs6
      go_wp2_with fail
      refine (l4Key_c w.heap.size p q cs t8 w8 hs8 (by omega) (by omega)).mono ?_
      rintro e w9 ⟨v9, dg, t10, rfl, hdl, -, -, kd, -, hgn⟩
      obtain ⟨pd, qd, rfl, rd9⟩ := kd.rd
      replace OL := OL.drawC hgn (Nat.lt_of_lt_of_le hlH.out (Nat.le_refl _))
      replace OK := OwnI.draw OK hgn (fun k hk e => by have := hKg.out k hk; simp at e; omega)
      replace OS := OS.drawC hgn hwS.out
      replace BW := BW.grown hgn BW.size (fun k hk => by simp at hk; omega)
      have RC : Hid (RdL certC w9 pc qc list) := RdL.own OL
      have RK : Hid (RdI w9 (some ⟨w2.heap.size, 0, none⟩) 0 []) := RdI.own OK
      have RS : Hid (RdL signC w9 ps qs signs) := RdL.own OS
      have RD : Hid (Rd w9 pd qd dg) := rd9
      clear OL OK OS kd rd9 hgn hs8
      go_wp2_with fail
      exact bodyPost_ret (v := .tuple #[.slice pc list.length qc, .slice (some ⟨w2.heap.size, 0, none⟩) [].length 0, .slice ps signs.length qs, .int .i64 (1 + r4), .int .i64 (b5), .slice pd dg.length qd]) (by simp [results, Try.results21, go_sem]) rfl ⟨list, [], signs, 1 + r4, b5, dg, pc, (some ⟨w2.heap.size, 0, none⟩), ps, pd, qc, 0, qs, qd, rfl, RC.out, RK.out, RS.out, RD.out, hll, by simp, hsl, hok, by omega, by omega, hdl, BW⟩
    · obtain ⟨k, hk, hat, -⟩ := ixC_some hh
      rw [hk] at KA
      have hkl : k < list.length := (List.getElem?_eq_some_iff.1 hat).1
      have hkI : (k : Int) < (list.length : Int) := by omega
      go_wp2_with fail
      refine KA.out.mono ?_
      rintro e w7 ⟨rfl, hw⟩
      subst w7
      have HAT : Hid (list[k]? = some (foC list (1 + r4))) := hat
      clear KA rl6 hh hk hat
      go_wp2_with fail
      refine (l1Chance_c w.heap.size p q cs (t1 + 1 + 1 + 1) 2 _ hs6 (by omega) (by omega) (by omega) (by omega)).mono ?_
      rintro e w7 ⟨ch2, rfl, hs7, hgn⟩
      replace OL := OL.drawC hgn (Nat.lt_of_lt_of_le hlH.out (Nat.le_refl _))
      replace OK := OwnI.draw OK hgn (fun k hk e => by have := hKg.out k hk; simp at e; omega)
      replace BW := BW.grown hgn BW.size (fun k hk => by simp at hk; omega)
      clear hgn hs6
      cases ch2
      · skip
        have hwS : Hid (w.heap.size < w7.heap.size) := hs7.lt
        go_wp2_with fail
        refine (l12DrawSigns_c w.heap.size p q cs (t1 + 1 + 1 + 1 + 1) w7 hs7 (by omega) (by omega)).mono ?_
        rintro e w8 ⟨v8, rfl, signs, ys, fq, t8, OS, hsl, hok, ht8, ht9, hs8, hgn⟩
        obtain ⟨ps, qs, rfl, -⟩ := OS.rd
        replace OL := OL.drawC hgn (Nat.lt_of_lt_of_le hlH.out (Nat.le_refl _))
        replace OK := OwnI.draw OK hgn (fun k hk e => by have := hKg.out k hk; simp at e; omega)
        replace BW := BW.grown hgn BW.size (fun k hk => by simp at hk; omega)
        clear hgn hs7
        go_wp2_with fail
        refine (l4Key_c w.heap.size p q cs t8 w8 hs8 (by omega) (by omega)).mono ?_
        rintro e w9 ⟨v9, dg, t10, rfl, hdl, -, -, kd, -, hgn⟩
        obtain ⟨pd, qd, rfl, rd9⟩ := kd.rd
        replace OL := OL.drawC hgn (Nat.lt_of_lt_of_le hlH.out (Nat.le_refl _))
        replace OK := OwnI.draw OK hgn (fun k hk e => by have := hKg.out k hk; simp at e; omega)
        replace OS := OS.drawC hgn hwS.out
        replace BW := BW.grown hgn BW.size (fun k hk => by simp at hk; omega)
        have RC : Hid (RdL certC w9 pc qc list) := RdL.own OL
        have RK : Hid (RdI w9 (some ⟨w2.heap.size, 0, none⟩) 0 []) := RdI.own OK
        have RS : Hid (RdL signC w9 ps qs signs) := RdL.own OS
        have RD : Hid (Rd w9 pd qd dg) := rd9
        clear OL OK OS kd rd9 hgn hs8
        go_wp2_with fail
        exact bodyPost_ret (v := .tuple #[.slice pc list.length qc, .slice (some ⟨w2.heap.size, 0, none⟩) [].length 0, .slice ps signs.length qs, .int .i64 (1 + r4), .int .i64 (b5), .slice pd dg.length qd]) (by simp [results, Try.results21, go_sem]) rfl ⟨list, [], signs, 1 + r4, b5, dg, pc, (some ⟨w2.heap.size, 0, none⟩), ps, pd, qc, 0, qs, qd, rfl, RC.out, RK.out, RS.out, RD.out, hll, by simp, hsl, hok, by omega, by omega, hdl, BW⟩
      · obtain ⟨b0, o0, e0, hc⟩ := (RdL.own OL).2.2.2 (by omega)
        subst e0
        obtain ⟨us, hrep, hcell⟩ := hc k _ HAT.out
        obtain rfl := cert_rep hrep
        have c1 := hcell 1 _ rfl
        rw [show certC.n = 3 from rfl] at c1
        clear hc hcell hrep
        obtain ⟨ow, how⟩ : ∃ ow, Hid ((foC list (1 + r4)).2.1 = ow) := ⟨_, rfl⟩
        rw [how.out] at c1
        have hwS : Hid (w.heap.size < w7.heap.size) := hs7.lt
        go_wp2_with fail
        refine (l12DrawSigns_c w.heap.size p q cs (t1 + 1 + 1 + 1 + 1) w7 hs7 (by omega) (by omega)).mono ?_
        rintro e w8 ⟨v8, rfl, signs, ys, fq, t8, OS, hsl, hok, ht8, ht9, hs8, hgn⟩
        obtain ⟨ps, qs, rfl, -⟩ := OS.rd
        replace OL := OL.drawC hgn (Nat.lt_of_lt_of_le hlH.out (Nat.le_refl _))
        replace OK := OwnI.draw OK hgn (fun k hk e => by have := hKg.out k hk; simp at e; omega)
        replace BW := BW.grown hgn BW.size (fun k hk => by simp at hk; omega)
        clear hgn hs7
        go_wp2_with fail
        refine (l4Key_c w.heap.size p q cs t8 w8 hs8 (by omega) (by omega)).mono ?_
        rintro e w9 ⟨v9, dg, t10, rfl, hdl, -, -, kd, -, hgn⟩
        obtain ⟨pd, qd, rfl, rd9⟩ := kd.rd
        replace OL := OL.drawC hgn (Nat.lt_of_lt_of_le hlH.out (Nat.le_refl _))
        replace OK := OwnI.draw OK hgn (fun k hk e => by have := hKg.out k hk; simp at e; omega)
        replace OS := OS.drawC hgn hwS.out
        replace BW := BW.grown hgn BW.size (fun k hk => by simp at hk; omega)
        have RC : Hid (RdL certC w9 (some ⟨b0, o0, none⟩) qc list) := RdL.own OL
        have RK : Hid (RdI w9 (some ⟨w2.heap.size, 0, none⟩) 0 []) := RdI.own OK
        have RS : Hid (RdL signC w9 ps qs signs) := RdL.own OS
        have RD : Hid (Rd w9 pd qd dg) := rd9
        clear OL OK OS kd rd9 hgn hs8
        go_wp2_with fail
        exact bodyPost_ret (v := .tuple #[.slice (some ⟨b0, o0, none⟩) list.length qc, .slice (some ⟨w2.heap.size, 0, none⟩) [].length 0, .slice ps signs.length qs, .int .i64 (1 + r4), .int .i64 (ow), .slice pd dg.length qd]) (by simp [results, Try.results21, go_sem]) rfl ⟨list, [], signs, 1 + r4, ow, dg, some ⟨b0, o0, none⟩, (some ⟨w2.heap.size, 0, none⟩), ps, pd, qc, 0, qs, qd, rfl, RC.out, RK.out, RS.out, RD.out, hll, by simp, hsl, hok, by omega, by omega, hdl, BW⟩
  · skip
    go_wp2_with fail
    refine (l1Next_c w.heap.size p q cs (t1 + 1) 3 w3 hs3 (by omega) (by omega) (by omega) (by omega)).mono ?_
    rintro e w4 ⟨r3, rfl, x3, y3, hs4, hgn⟩
    replace OL := OL.drawC hgn (Nat.lt_of_lt_of_le hlH.out (Nat.le_refl _))
    replace OK := OwnI.draw OK hgn (fun k hk e => by have := hKg.out k hk; simp at e; omega)
    replace BW := BW.grown hgn BW.size (fun k hk => by simp at hk; omega)
    clear hgn hs3
    have hal := alloc_below w4 (.cells #[.int .i64 (1 + r3)] 2)
    replace OL := OL.stay hal
    replace OK := OwnI.stay OK hal
    replace BW := Below.step BW hal
    replace hs4 := hs4.keep hal
    have RI := rdI_lit w4 (1 + r3) 2
    have hB4 : Hid (w2.heap.size ≤ (w4.alloc (.cells #[.int .i64 (1 + r3)] 2)).heap.size) := Nat.le_of_lt (OK.ins w2.heap.size (by simp [Value.ownBlock])).2
    have hoL := OL.ins
    clear hal
    go_wp2_with (at_builtin; refine wpList_append_rdI rfl (.tmp 21) (.tmp 25) rfl w2.heap.size (.slice (some ⟨w2.heap.size, 0, none⟩) 0 0) [] rfl OK (some ⟨w4.heap.size, 0, none⟩) 1 [1 + r3] rfl RI (by simp) hB4.out ?_; intro v5 wa OK5 hg5)
    have OL5 := OL.other (Only.grown hg5) (fun k hk hk2 => by have h1 := mem_opt.1 hk2; simp [Value.ownBlock] at h1; subst h1; exact HLn.out hk)
    have hsa := hs4.other hg5 (fun k hk => by simp [Value.ownBlock] at hk; have := hw2.out; omega)
    have BW5 := BW.grown hg5 BW.size (fun k hk => by simp [Value.ownBlock] at hk; have := hw2.out; omega)
    clear OL OK hs4 BW RI hg5 hoL
    have OL := OL5
    have BW := BW5
    obtain ⟨pl, ql, rfl, -⟩ := OK5.rd
    have OK := OK5
    have hKg : Hid (∀ k, (Value.slice pl [1 + r3].length ql).ownBlock = some k → w.heap.size < k) := fun k hk => by have := (OK.ins k (mem_opt.2 hk)).1; have := hw2.out; omega
    clear OL5 BW5 OK5
    simp only [List.nil_append] at OK hKg ⊢
    go_wp2_with fail
    refine (l1Next_c w.heap.size p q cs (t1 + 1 + 1) 4 wa hsa (by omega) (by omega) (by omega) (by omega)).mono ?_
    rintro e w5 ⟨r4, rfl, x4, y4, hs5, hgn⟩
    replace OL := OL.drawC hgn (Nat.lt_of_lt_of_le hlH.out (Nat.le_refl _))
    replace OK := OwnI.draw OK hgn (fun k hk e => by have := hKg.out k hk; simp at e; omega)
    replace BW := BW.grown hgn BW.size (fun k hk => by simp at hk; omega)
    clear hgn hsa
    go_wp2_with fail
    refine (l1Pick_c w.heap.size p q cs (t1 + 1 + 1 + 1) w5.heap.size [1, 2, 3, 0, 10] 5 _ (hs5.keep (alloc_below _ _)) (by omega) (by omega) rfl (by decide) (by decide) (by have := hs5.lt; omega) (new_ints _ _ _ [1, 2, 3, 0, 10] rfl)).mono ?_
    rintro e w6 ⟨b5, -, rfl, hs6, hgn⟩
    replace OL := (OL.stay (alloc_below _ _)).drawC hgn (Nat.lt_of_lt_of_le hlH.out (Nat.le_refl _))
    replace OK := OwnI.draw (OwnI.stay OK (alloc_below _ _)) hgn (fun k hk e => by have := hKg.out k hk; simp at e; omega)
    replace BW := (Below.mk BW _).grown hgn (by rw [size_alloc]; have := BW.size; omega) (fun k hk => by simp at hk; omega)
    clear hgn hs5
    have rl6 := RdL.own OL
    have hq1 : list.length ≤ qc := rl6.1
    have hq2 : qc ≤ 2 ^ 63 - 1 := rl6.2.1
    have KA : Hid (Calls Try.prog 50 #[.slice pc list.length qc, .int .i64 (1 + r4)] w6 fun e w' => e = .returned (.int .i64 (ixC list (1 + r4))) ∧ w' = w6) := l12At_c list pc qc (1 + r4) w6 rl6
    cases hh : hasC list (1 + r4)
    · rw [ixC_none hh] at KA
      go_wp2_with fail
      refine KA.out.mono ?_
      rintro e w7 ⟨rfl, hw⟩
      subst w7
      clear KA rl6 hh
      have hwS : Hid (w.heap.size < w6.heap.size) := hs6.lt
      go_wp2_with fail
      refine (l12DrawSigns_c w.heap.size p q cs (t1 + 1 + 1 + 1 + 1) w6 hs6 (by omega) (by omega)).mono ?_
      rintro e w8 ⟨v8, rfl, signs, ys, fq, t8, OS, hsl, hok, ht8, ht9, hs8, hgn⟩
      obtain ⟨ps, qs, rfl, -⟩ := OS.rd
      replace OL := OL.drawC hgn (Nat.lt_of_lt_of_le hlH.out (Nat.le_refl _))
      replace OK := OwnI.draw OK hgn (fun k hk e => by have := hKg.out k hk; simp at e; omega)
      replace BW := BW.grown hgn BW.size (fun k hk => by simp at hk; omega)
      clear hgn hs6
      go_wp2_with fail
      refine (l4Key_c w.heap.size p q cs t8 w8 hs8 (by omega) (by omega)).mono ?_
      rintro e w9 ⟨v9, dg, t10, rfl, hdl, -, -, kd, -, hgn⟩
      obtain ⟨pd, qd, rfl, rd9⟩ := kd.rd
      replace OL := OL.drawC hgn (Nat.lt_of_lt_of_le hlH.out (Nat.le_refl _))
      replace OK := OwnI.draw OK hgn (fun k hk e => by have := hKg.out k hk; simp at e; omega)
      replace OS := OS.drawC hgn hwS.out
      replace BW := BW.grown hgn BW.size (fun k hk => by simp at hk; omega)
      have RC : Hid (RdL certC w9 pc qc list) := RdL.own OL
      have RK : Hid (RdI w9 pl ql [1 + r3]) := RdI.own OK
      have RS : Hid (RdL signC w9 ps qs signs) := RdL.own OS
      have RD : Hid (Rd w9 pd qd dg) := rd9
      clear OL OK OS kd rd9 hgn hs8
      go_wp2_with fail
      exact bodyPost_ret (v := .tuple #[.slice pc list.length qc, .slice pl [1 + r3].length ql, .slice ps signs.length qs, .int .i64 (1 + r4), .int .i64 (b5), .slice pd dg.length qd]) (by simp [results, Try.results21, go_sem]) rfl ⟨list, [1 + r3], signs, 1 + r4, b5, dg, pc, pl, ps, pd, qc, ql, qs, qd, rfl, RC.out, RK.out, RS.out, RD.out, hll, by simp, hsl, hok, by omega, by omega, hdl, BW⟩
    · obtain ⟨k, hk, hat, -⟩ := ixC_some hh
      rw [hk] at KA
      have hkl : k < list.length := (List.getElem?_eq_some_iff.1 hat).1
      have hkI : (k : Int) < (list.length : Int) := by omega
      go_wp2_with fail
      refine KA.out.mono ?_
      rintro e w7 ⟨rfl, hw⟩
      subst w7
      have HAT : Hid (list[k]? = some (foC list (1 + r4))) := hat
      clear KA rl6 hh hk hat
      go_wp2_with fail
      refine (l1Chance_c w.heap.size p q cs (t1 + 1 + 1 + 1 + 1) 2 _ hs6 (by omega) (by omega) (by omega) (by omega)).mono ?_
      rintro e w7 ⟨ch2, rfl, hs7, hgn⟩
      replace OL := OL.drawC hgn (Nat.lt_of_lt_of_le hlH.out (Nat.le_refl _))
      replace OK := OwnI.draw OK hgn (fun k hk e => by have := hKg.out k hk; simp at e; omega)
      replace BW := BW.grown hgn BW.size (fun k hk => by simp at hk; omega)
      clear hgn hs6
      cases ch2
      · skip
        have hwS : Hid (w.heap.size < w7.heap.size) := hs7.lt
        go_wp2_with fail
        refine (l12DrawSigns_c w.heap.size p q cs (t1 + 1 + 1 + 1 + 1 + 1) w7 hs7 (by omega) (by omega)).mono ?_
        rintro e w8 ⟨v8, rfl, signs, ys, fq, t8, OS, hsl, hok, ht8, ht9, hs8, hgn⟩
        obtain ⟨ps, qs, rfl, -⟩ := OS.rd
        replace OL := OL.drawC hgn (Nat.lt_of_lt_of_le hlH.out (Nat.le_refl _))
        replace OK := OwnI.draw OK hgn (fun k hk e => by have := hKg.out k hk; simp at e; omega)
        replace BW := BW.grown hgn BW.size (fun k hk => by simp at hk; omega)
        clear hgn hs7
        go_wp2_with fail
        refine (l4Key_c w.heap.size p q cs t8 w8 hs8 (by omega) (by omega)).mono ?_
        rintro e w9 ⟨v9, dg, t10, rfl, hdl, -, -, kd, -, hgn⟩
        obtain ⟨pd, qd, rfl, rd9⟩ := kd.rd
        replace OL := OL.drawC hgn (Nat.lt_of_lt_of_le hlH.out (Nat.le_refl _))
        replace OK := OwnI.draw OK hgn (fun k hk e => by have := hKg.out k hk; simp at e; omega)
        replace OS := OS.drawC hgn hwS.out
        replace BW := BW.grown hgn BW.size (fun k hk => by simp at hk; omega)
        have RC : Hid (RdL certC w9 pc qc list) := RdL.own OL
        have RK : Hid (RdI w9 pl ql [1 + r3]) := RdI.own OK
        have RS : Hid (RdL signC w9 ps qs signs) := RdL.own OS
        have RD : Hid (Rd w9 pd qd dg) := rd9
        clear OL OK OS kd rd9 hgn hs8
        go_wp2_with fail
        exact bodyPost_ret (v := .tuple #[.slice pc list.length qc, .slice pl [1 + r3].length ql, .slice ps signs.length qs, .int .i64 (1 + r4), .int .i64 (b5), .slice pd dg.length qd]) (by simp [results, Try.results21, go_sem]) rfl ⟨list, [1 + r3], signs, 1 + r4, b5, dg, pc, pl, ps, pd, qc, ql, qs, qd, rfl, RC.out, RK.out, RS.out, RD.out, hll, by simp, hsl, hok, by omega, by omega, hdl, BW⟩
      · obtain ⟨b0, o0, e0, hc⟩ := (RdL.own OL).2.2.2 (by omega)
        subst e0
        obtain ⟨us, hrep, hcell⟩ := hc k _ HAT.out
        obtain rfl := cert_rep hrep
        have c1 := hcell 1 _ rfl
        rw [show certC.n = 3 from rfl] at c1
        clear hc hcell hrep
        obtain ⟨ow, how⟩ : ∃ ow, Hid ((foC list (1 + r4)).2.1 = ow) := ⟨_, rfl⟩
        rw [how.out] at c1
        have hwS : Hid (w.heap.size < w7.heap.size) := hs7.lt
        go_wp2_with fail
        refine (l12DrawSigns_c w.heap.size p q cs (t1 + 1 + 1 + 1 + 1 + 1) w7 hs7 (by omega) (by omega)).mono ?_
        rintro e w8 ⟨v8, rfl, signs, ys, fq, t8, OS, hsl, hok, ht8, ht9, hs8, hgn⟩
        obtain ⟨ps, qs, rfl, -⟩ := OS.rd
        replace OL := OL.drawC hgn (Nat.lt_of_lt_of_le hlH.out (Nat.le_refl _))
        replace OK := OwnI.draw OK hgn (fun k hk e => by have := hKg.out k hk; simp at e; omega)
        replace BW := BW.grown hgn BW.size (fun k hk => by simp at hk; omega)
        clear hgn hs7
        go_wp2_with fail
        refine (l4Key_c w.heap.size p q cs t8 w8 hs8 (by omega) (by omega)).mono ?_
        rintro e w9 ⟨v9, dg, t10, rfl, hdl, -, -, kd, -, hgn⟩
        obtain ⟨pd, qd, rfl, rd9⟩ := kd.rd
        replace OL := OL.drawC hgn (Nat.lt_of_lt_of_le hlH.out (Nat.le_refl _))
        replace OK := OwnI.draw OK hgn (fun k hk e => by have := hKg.out k hk; simp at e; omega)
        replace OS := OS.drawC hgn hwS.out
        replace BW := BW.grown hgn BW.size (fun k hk => by simp at hk; omega)
        have RC : Hid (RdL certC w9 (some ⟨b0, o0, none⟩) qc list) := RdL.own OL
        have RK : Hid (RdI w9 pl ql [1 + r3]) := RdI.own OK
        have RS : Hid (RdL signC w9 ps qs signs) := RdL.own OS
        have RD : Hid (Rd w9 pd qd dg) := rd9
        clear OL OK OS kd rd9 hgn hs8
        go_wp2_with fail
        exact bodyPost_ret (v := .tuple #[.slice (some ⟨b0, o0, none⟩) list.length qc, .slice pl [1 + r3].length ql, .slice ps signs.length qs, .int .i64 (1 + r4), .int .i64 (ow), .slice pd dg.length qd]) (by simp [results, Try.results21, go_sem]) rfl ⟨list, [1 + r3], signs, 1 + r4, ow, dg, some ⟨b0, o0, none⟩, pl, ps, pd, qc, ql, qs, qd, rfl, RC.out, RK.out, RS.out, RD.out, hll, by simp, hsl, hok, by omega, by omega, hdl, BW⟩
set_option maxRecDepth 4000 in
set_option maxHeartbeats 4000000 in
theorem drawCk_c (p : Option Addr) (q : Nat) (cs : List UInt8) (w : World) (hr : Rd w p q cs) :
    Calls Try.prog 25 #[.slice p cs.length q] w fun e w' => ∃ (signs : List SignD) (place id : Int) (d : List UInt8) (ps pd : Option Addr) (qs qd : Nat), e = .returned (.tuple #[.slice ps signs.length qs, .int .i64 place, .int .i64 id, .slice pd d.length qd]) ∧ RdL signC w' ps qs signs ∧ Rd w' pd qd d ∧ signs.length ≤ 41 ∧ 0 ≤ place ∧ place ≤ 41 ∧ 0 ≤ id ∧ id ≤ 100 ∧ d.length ≤ 32 ∧ Below w.heap.size w w' := by
  go_enter Try.func25, Try.ntmps25
  go_wp2_with fail
  refine (l1Source_c p q cs w hr).mono ?_
  rintro e w1 ⟨rfl, hs, BW, hlt⟩
  have hlH : Hid (w.heap.size < w1.heap.size) := hlt
  clear hlt
  have hwS : Hid (w.heap.size < w1.heap.size) := hlH.out
  go_wp2_with fail
  refine (l12DrawSigns_c w.heap.size p q cs 0 w1 hs (by omega) (by omega)).mono ?_
  rintro e w2 ⟨v2, rfl, signs, xs, fp, t2, OS, hsl, hok, ht2, ht3, hs2, hgn⟩
  obtain ⟨ps, qs, rfl, hrd⟩ := OS.rd
  have hq1 : signs.length ≤ qs := hrd.1
  have hq2 : qs ≤ 2 ^ 63 - 1 := hrd.2.1
  replace BW := BW.grown hgn BW.size (fun k hk => by simp at hk; omega)
  clear hgn hs hrd
  by_cases h0 : 0 < signs.length
  · have h0I : 0 < (signs.length : Int) := by omega
    go_wp2_with fail
    refine (l1Chance_c w.heap.size p q cs t2 3 _ hs2 (by omega) (by omega) (by omega) (by omega)).mono ?_
    rintro e w3 ⟨ch, rfl, hs3, hgn⟩
    replace OS := OS.drawC hgn hwS.out
    replace BW := BW.grown hgn BW.size (fun k hk => by simp at hk; omega)
    have w3lt : Hid (w.heap.size < w3.heap.size) := hs3.lt
    clear hgn hs2
    cases ch
    · skip
      go_wp2_with fail
      refine (l1Next_c w.heap.size p q cs (t2 + 1) (signs.length : Int) _ hs3 (by omega) (by omega) (by omega) (by omega)).mono ?_
      rintro e V ⟨at0, rfl, x4, y4, hs4, hgn⟩
      replace OS := OS.drawC hgn hwS.out
      replace BW := BW.grown hgn BW.size (fun k hk => by simp at hk; omega)
      clear hgn hs3
      obtain ⟨k, rfl⟩ := Int.eq_ofNat_of_zero_le x4
      obtain ⟨b0, o0, e0, hc⟩ := (RdL.own OS).2.2.2 (by omega)
      subst e0
      obtain ⟨a, ha⟩ : ∃ a, signs[k]? = some a := ⟨signs[k], by simp⟩
      obtain ⟨us, hrep, hcell⟩ := hc k a ha
      obtain ⟨pa, qa, rfl, ra⟩ := sign_rep hrep
      have c0 := hcell 0 _ rfl
      have c2 := hcell 2 _ rfl
      rw [show signC.n = 3 from rfl] at c0 c2
      rw [Nat.add_zero] at c0
      have hka := hok a (List.mem_of_getElem? ha)
      have RS := RdL.own OS
      have KC : Hid (∀ W : World, Below V.heap.size V W → Calls Try.prog 62 #[.slice pa a.2.2.length qa] W fun e w' => ∃ u, e = .returned u ∧ Own w' W.heap.size u a.2.2 ∧ Below W.heap.size W w') := fun W hW => l1Copy_c pa qa a.2.2 W (ra.keep hW) (by omega)
      clear hc hcell hrep OS ra hs4
      go_wp2_with fail
      apply share
      case h =>
        intro JN
        have BB := Below.refl V.heap.size V
        have hne := HW.some V
        have g0 := HW.at (c0)
        have g2 := HW.at (c2)
        refine wp_region_pick [0, 1, 2, 3, 4, 5, 6, 7, 8, 9, 10, 11] 16 4 1 rfl rfl rfl (by kernel_rfl) (by kernel_rfl) (by kernel_rfl) (by kernel_rfl) ?_
        simp only [opsAt, List.getElem?_toArray, List.getElem?_cons_zero, List.getElem?_cons_succ]
        repeat (go_big_quiet_step (fail))
        refine wpQuiet_nil ?_
        clear g0 g2
        refine wpM_only (i := 12) (by kernel_rfl) ?_
        refine mOp_call rfl (by go_simp) 62 _ #[.slice pa a.2.2.length qa] (fun w => by go_simp) rfl ?_
        rintro _ ⟨sg, rfl⟩
        refine (KC.out _ (Below.step BB sg.h)).mono ?_
        rintro e wg1 ⟨u, rfl, kv, hbx⟩
        obtain ⟨pv, qv, rfl, rv⟩ := kv.rd
        have hbg := Below.step sg.h hbx
        refine ⟨_, rfl, ⟨⟨wg1, hbx⟩, rfl⟩, ?_⟩
        have RV := rv
        replace BB := Below.step BB hbg
        clear hbg hbx sg kv rv
        replace hne := HW.some wg1
        refine wpM_more [13, 14, 15] 3 0 rfl (by kernel_rfl) (by kernel_rfl) (by kernel_rfl) (by kernel_rfl) ?_
        simp only [opsAt, List.getElem?_toArray, List.getElem?_cons_zero, List.getElem?_cons_succ]
        go_simp
        repeat (go_big_quiet_step (fail))
        refine wpQuiet_nil ?_
        refine wpM_end (by kernel_rfl) rfl (by kernel_rfl) (by decide) ?_
        rintro _ ⟨sz, rfl⟩
        simp only [List.drop_succ_cons, List.drop_zero]
        go_simp
        replace RV := RV.keep sz.h
        replace BB := Below.step BB sz.h
        clear hne
        generalize sz.w = W at *
        clear sz
        revert RV
        revert BB
        revert qv
        revert pv
        revert W
        exact JN.out
      case hj =>
      intro W pv qv BB RV
      have RS2 : Hid (RdL signC W (some ⟨b0, o0, none⟩) qs signs) := RS.keep BB
      have BW2 := Below.step BW BB
      have RV2 : Hid (Rd W pv qv a.2.2) := RV
      clear RS BW BB RV KC c0 c2
      go_wp2_with fail
      exact bodyPost_ret (v := .tuple #[.slice (some ⟨b0, o0, none⟩) signs.length qs, .int .i64 (k : Int), .int .i64 a.1, .slice pv a.2.2.length qv]) (by simp [results, Try.results25, go_sem]) rfl ⟨signs, k, a.1, a.2.2, some ⟨b0, o0, none⟩, pv, qs, qv, rfl, RS2.out, RV2.out, hsl, by omega, by omega, hka.1, hka.2.1, hka.2.2, BW2⟩
    · skip
      obtain ⟨j0, hj, hy0, hy1, hy2⟩ := info_parts info8
      go_wp2_with (at_make; refine wpList_make_full _ rfl _ _ 22 rfl w3.heap.size 5 j0 (.int .u8 0) 1 Try.underlying22 hj hy0 hy1 .i64 .i64 _ _ 32 rfl rfl rfl rfl (by rw [hy2]; decide) (by unfold maxLen; decide) (Nat.le_refl _) ?_; intro w5 hown hgrow)
      have kd := made_zeros hown
      replace OS := OS.other (Only.grown hgrow) (fun k hk e => by cases e)
      replace hs3 := hs3.other hgrow (fun k hk => by cases hk)
      replace BW := BW.grown hgrow BW.size (fun k hk => by cases hk)
      have hgd : Hid (w.heap.size < w3.heap.size) := w3lt.out
      clear hown hgrow hj hy0 hy1 hy2
      go_wp2_with fail
      refine (l1Next_c w.heap.size p q cs (t2 + 1) 5 _ hs3 (by omega) (by omega) (by omega) (by omega)).mono ?_
      rintro e w6 ⟨r5, rfl, x5, y5, hs6, hgn⟩
      replace OS := OS.drawC hgn hwS.out
      replace kd := kd.other hgn (fun k hk e => by have := kd.ge k hk; have := hgd.out; simp at e; omega)
      replace BW := BW.grown hgn BW.size (fun k hk => by simp at hk; omega)
      clear hgn hs3
      go_wp2_with fail
      refine (l1Next_c w.heap.size p q cs (t2 + 1 + 1) 3 _ hs6 (by omega) (by omega) (by omega) (by omega)).mono ?_
      rintro e w7 ⟨r6, rfl, x6, y6, hs7, hgn⟩
      replace OS := OS.drawC hgn hwS.out
      replace kd := kd.other hgn (fun k hk e => by have := kd.ge k hk; have := hgd.out; simp at e; omega)
      replace BW := BW.grown hgn BW.size (fun k hk => by simp at hk; omega)
      clear hgn hs6
      have RS : Hid (RdL signC w7 ps qs signs) := RdL.own OS
      have RD := Rd.own kd
      clear OS kd hs7
      go_wp2_with fail
      exact bodyPost_ret (v := .tuple #[.slice ps signs.length qs, .int .i64 r5, .int .i64 (1 + r6), .slice (some ⟨w3.heap.size, 0, none⟩) 32 32]) (by simp [results, Try.results25, go_sem]) rfl ⟨signs, r5, 1 + r6, zs 32, ps, _, qs, _, by rw [zs_len], RS.out, RD, hsl, by omega, by omega, by omega, by omega, by rw [zs_len]; exact Nat.le_refl _, BW⟩
  · have h0I : ¬ (0 < (signs.length : Int)) := by omega
    have w2lt : Hid (w.heap.size < w2.heap.size) := hs2.lt
    obtain ⟨j0, hj, hy0, hy1, hy2⟩ := info_parts info8
    go_wp2_with (at_make; refine wpList_make_full _ rfl _ _ 22 rfl w2.heap.size 5 j0 (.int .u8 0) 1 Try.underlying22 hj hy0 hy1 .i64 .i64 _ _ 32 rfl rfl rfl rfl (by rw [hy2]; decide) (by unfold maxLen; decide) (Nat.le_refl _) ?_; intro w5 hown hgrow)
    have kd := made_zeros hown
    replace OS := OS.other (Only.grown hgrow) (fun k hk e => by cases e)
    replace hs2 := hs2.other hgrow (fun k hk => by cases hk)
    replace BW := BW.grown hgrow BW.size (fun k hk => by cases hk)
    have hgd : Hid (w.heap.size < w2.heap.size) := w2lt.out
    clear hown hgrow hj hy0 hy1 hy2
    go_wp2_with fail
    refine (l1Next_c w.heap.size p q cs (t2) 5 _ hs2 (by omega) (by omega) (by omega) (by omega)).mono ?_
    rintro e w6 ⟨r5, rfl, x5, y5, hs6, hgn⟩
    replace OS := OS.drawC hgn hwS.out
    replace kd := kd.other hgn (fun k hk e => by have := kd.ge k hk; have := hgd.out; simp at e; omega)
    replace BW := BW.grown hgn BW.size (fun k hk => by simp at hk; omega)
    clear hgn hs2
    go_wp2_with fail
    refine (l1Next_c w.heap.size p q cs (t2 + 1) 3 _ hs6 (by omega) (by omega) (by omega) (by omega)).mono ?_
    rintro e w7 ⟨r6, rfl, x6, y6, hs7, hgn⟩
    replace OS := OS.drawC hgn hwS.out
    replace kd := kd.other hgn (fun k hk e => by have := kd.ge k hk; have := hgd.out; simp at e; omega)
    replace BW := BW.grown hgn BW.size (fun k hk => by simp at hk; omega)
    clear hgn hs6
    have RS : Hid (RdL signC w7 ps qs signs) := RdL.own OS
    have RD := Rd.own kd
    clear OS kd hs7
    go_wp2_with fail
    exact bodyPost_ret (v := .tuple #[.slice ps signs.length qs, .int .i64 r5, .int .i64 (1 + r6), .slice (some ⟨w2.heap.size, 0, none⟩) 32 32]) (by simp [results, Try.results25, go_sem]) rfl ⟨signs, r5, 1 + r6, zs 32, ps, _, qs, _, by rw [zs_len], RS.out, RD, hsl, by omega, by omega, by omega, by omega, by rw [zs_len]; exact Nat.le_refl _, BW⟩
end Go.Proofs.Ytklglpmlfboglaa

