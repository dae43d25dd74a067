/- The draw of a session, certificates, signs and data to hear (written by tools/draw_ha.py). What comes out can be read; of the session the two ways to ask what is held agree. -/
import Derived.Test.YtbaldmmbphbinaaGreatDoorJoint29
import Derived.Test.YtbaldmmbphbinaaGreatDoorJoint26
namespace Go.Proofs.YtbaldmmbphbinaaGreatDoor
open Go.ChangeShapes Go.WideShapes Go.ChangeAt Go.RowKit

def DrawnHa (w : World) (e : Ending) (w' : World) : Prop := ∃ (x : SesD) (vs : List Value) (l : List CertD) (s : List SignD) (now : Int) (d : List UInt8) (pc ps pd : Option Addr) (qc qs qd : Nat), e = .returned (.tuple #[.agg vs.toArray, .slice pc l.length qc, .slice ps s.length qs, .int .i64 now, .slice pd d.length qd]) ∧ sessionC.rep w' x vs ∧ RdL certC w' pc qc l ∧ RdL signC w' ps qs s ∧ Rd w' pd qd d ∧ hdC x.2.2.2.2 = hdS x.2.2.2.2 ∧ (0 ≤ now ∧ now ≤ 60) ∧ Below w.heap.size w w'
theorem Clo.at {W V : World} {B : Nat} {x : SesD} {p1 p3 p4 p5 : Option Addr} {q1 q3 q4 q5 : Nat} (h : Clo W B x [.slice p1 x.1.length q1, .int .i64 x.2.1, .slice p3 x.2.2.1.length q3, .slice p4 x.2.2.2.1.length q4, .slice p5 x.2.2.2.2.length q5]) (hk : ∀ k, B ≤ k → k < W.heap.size → V.heap[k]? = W.heap[k]?) : Rd V p1 q1 x.1 ∧ RdL bytC V p3 q3 x.2.2.1 ∧ RdL bytC V p4 q4 x.2.2.2.1 ∧ RdL holdC V p5 q5 x.2.2.2.2 := by
  obtain ⟨a1, b1, a3, b3, a4, b4, a5, b5, e, r1, r3, r4, r5⟩ := session_rep (h V hk)
  simp only [List.cons.injEq, Value.slice.injEq, and_true, true_and] at e
  obtain ⟨⟨rfl, rfl⟩, ⟨rfl, rfl⟩, ⟨rfl, rfl⟩, rfl, rfl⟩ := e
  exact ⟨r1, r3, r4, r5⟩
/-- An element of a list that can be read whatever lies outside: where it lies. -/
theorem cloE {W : World} {B : Nat} {l : List (List UInt8)} {p : Option Addr} {q : Nat} (h : ∀ V : World, (∀ k, B ≤ k → k < W.heap.size → V.heap[k]? = W.heap[k]?) → RdL bytC V p q l) {i : Nat} {a : List UInt8} (hk : l[i]? = some a) : ∃ b o pa qa, p = some ⟨b, o, none⟩ ∧ B ≤ b ∧ b < W.heap.size ∧ ∀ V : World, (∀ k, B ≤ k → k < W.heap.size → V.heap[k]? = W.heap[k]?) → V.cell? ⟨b, o + i, none⟩ = some (.slice pa a.length qa) ∧ Rd V pa qa a := by
  have hl := (List.getElem?_eq_some_iff.1 hk).1
  have get : ∀ V : World, (∀ k, B ≤ k → k < W.heap.size → V.heap[k]? = W.heap[k]?) → ∃ b o pa qa, p = some ⟨b, o, none⟩ ∧ V.cell? ⟨b, o + i, none⟩ = some (.slice pa a.length qa) ∧ Rd V pa qa a := fun V hV => by
    obtain ⟨b, o, e, hc⟩ := (h V hV).2.2.2 (by omega)
    obtain ⟨us, ⟨pa, qa, rfl, ra⟩, hcell⟩ := hc i a hk
    have h0 := hcell 0 _ rfl
    rw [show bytC.n = 1 from rfl, Nat.mul_one, Nat.add_zero] at h0
    exact ⟨b, o, pa, qa, e, h0, ra⟩
  obtain ⟨b, o, pa, qa, e, h0, ra⟩ := get W (fun _ _ _ => rfl)
  have hlt := World.block_lt_of_cell? W _ h0
  have hB : B ≤ b := by
    rcases Nat.lt_or_ge b B with hb | hb
    · exfalso
      obtain ⟨b6, o6, pb, qb, e6, h6, -⟩ := get (W.setRow b #[]) (fun k h1 _ => setRow_other _ _ _ _ (by omega))
      rw [e] at e6
      obtain ⟨rfl, rfl⟩ : b = b6 ∧ o = o6 := by simpa using e6
      unfold World.cell? at h0 h6
      split at h0
      · rename_i c t f hb
        rw [setRow_heap W b c #[] t f hb] at h6
        simp at h6
      · cases h0
    · exact hb
  refine ⟨b, o, pa, qa, e, hB, hlt, fun V hV => ?_⟩
  have hcV : V.cell? ⟨b, o + i, none⟩ = some (.slice pa a.length qa) := (World.cell?_of_block (w := W) (a := ⟨b, o + i, none⟩) (hV b hB hlt)).trans h0
  obtain ⟨b6, o6, pb, qb, e6, h6, rb⟩ := get V hV
  rw [e] at e6
  obtain ⟨rfl, rfl⟩ : b = b6 ∧ o = o6 := by simpa using e6
  rw [hcV] at h6
  obtain ⟨rfl, rfl⟩ : pa = pb ∧ qa = qb := by simpa using h6
  exact ⟨hcV, rb⟩
/-- What stands while the draw goes on: the cell of the answer, and all that was drawn before the signs. -/
structure Car (w w5 W : World) (B : Nat) : Prop where
  R : Arr W w.heap.size 27 [.slice none 0 0, .int .i64 0, .slice none 0 0, .slice none 0 0, .slice none 0 0]
  bw : Below w.heap.size w W
  size : w5.heap.size ≤ W.heap.size
  same : ∀ k, B ≤ k → k < w5.heap.size → W.heap[k]? = w5.heap[k]?
  low : w.heap.size + 1 < B
  mid : B ≤ w5.heap.size
theorem Car.draw {w w5 W V : World} {B : Nat} (h : Car w w5 W B) (hg : W.grownBy V (some (w.heap.size + 1))) : Car w w5 V B :=
  ⟨h.R.other hg (fun e => by have := Option.some.inj e; omega), h.bw.grown hg (by have h1 := h.bw.size; omega) (fun k hk => by simp at hk; omega), Nat.le_trans h.size hg.size, fun k h1 h2 => (hg.block k (by have := h.size; omega) (fun e => by have := Option.some.inj e; have := h.low; omega)).trans (h.same k h1 h2), h.low, h.mid⟩
theorem Car.stay {w w5 W V : World} {B : Nat} (h : Car w w5 W B) (hb : Below W.heap.size W V) : Car w w5 V B :=
  ⟨h.R.stay hb, Below.step h.bw hb, Nat.le_trans h.size hb.size, fun k h1 h2 => (hb.block k (by have := h.size; omega)).trans (h.same k h1 h2), h.low, h.mid⟩
theorem Car.other {w w5 W V : World} {B : Nat} {o : Option Nat} (h : Car w w5 W B) (hg : W.grownBy V o) (ho : ∀ k, o = some k → w5.heap.size ≤ k) : Car w w5 V B :=
  ⟨h.R.other hg (fun e => by have h1 := ho _ e; have := h.low; have := h.mid; omega), h.bw.grown hg (by have h1 := h.bw.size; omega) (fun k hk => by have h1 := ho k hk; have := h.low; have := h.mid; omega), Nat.le_trans h.size hg.size, fun k h1 h2 => (hg.block k (by have := h.size; omega) (fun e => by have h3 := ho k e.symm; omega)).trans (h.same k h1 h2), h.low, h.mid⟩
theorem ctx_20 {c : List UInt8} (h : ctxB c = true) : c.length ≤ 20 := by simp [ctxB, inB] at h; omega
set_option maxRecDepth 4000 in
set_option maxHeartbeats 4000000 in
theorem drawHa_c (p : Option Addr) (q : Nat) (cs : List UInt8) (w : World) (hr : Rd w p q cs) :
    Calls Tryz.prog 8 #[.slice p cs.length q] w fun e w' => DrawnHa w e w' := by
  have R := Arr.new w [.slice none 0 0, .int .i64 0, .slice none 0 0, .slice none 0 0, .slice none 0 0] 27
  have BW := alloc_below w (.cells #[.slice none 0 0, .int .i64 0, .slice none 0 0, .slice none 0 0, .slice none 0 0] 27)
  have hs0 : Hid ((w.alloc (.cells #[.slice none 0 0, .int .i64 0, .slice none 0 0, .slice none 0 0, .slice none 0 0] 27)).heap.size = w.heap.size + 1) := size_alloc _ _
  have hres : Hid ((Tryz.prog.info? 27).map (·.size) = some 5) := by show _ = _; kernel_rfl
  go_enter Tryz.func8, Tryz.ntmps8
  go_wp2_with fail
  refine (l1Source_c p q cs _ (hr.keep BW)).mono ?_
  rintro e w1 ⟨rfl, hs, hb, hlt⟩
  rw [hs0.out] at hs hlt
  replace R := R.stay hb
  replace BW := Below.step BW hb
  have z1 : Hid (w.heap.size + 1 < w1.heap.size) := hlt
  clear hb hr hlt
  rw [hs0.out]
  clear hs0
  go_wp2_with fail
  refine (l14Bent_c (w.heap.size + 1) p q cs 0 w1 hs (by omega) (by omega)).mono ?_
  rintro e w2 ⟨x, vs, t1, rfl, CL, hdd, hln, hbd, hub, ht1, ht2, hs2, hg2⟩
  obtain ⟨p1, q1, p3, q3, p4, q4, p5, q5, rfl, -, -, -, -⟩ := session_rep (CL w2 (fun _ _ _ => rfl))
  have z2 : Hid (w1.heap.size ≤ w2.heap.size) := hg2.size
  replace R := R.other hg2 (fun e => by have h := Option.some.inj e; omega)
  replace BW := BW.grown hg2 (by have h1 := BW.size; omega) (fun k hk => by simp at hk; omega)
  have HDD : Hid (hdC x.2.2.2.2 = hdS x.2.2.2.2) := hdd
  have HLN : Hid (x.2.2.2.2.length ≤ 101) := hln
  have HBD : Hid (∀ h ∈ x.2.2.2.2, 0 ≤ h.1 ∧ h.1 ≤ 100) := hbd
  clear hs hg2 hdd hln hbd
  have HUB : Hid (∀ c ∈ x.2.2.2.1, c.length ≤ 4) := hub
  clear hub
  clear HLN HBD
  have XL := Arr.new w2 [.slice p1 x.1.length q1, .int .i64 x.2.1, .slice p3 x.2.2.1.length q3, .slice p4 x.2.2.2.1.length q4, .slice p5 x.2.2.2.2.length q5] 27
  have hb := alloc_below w2 (.cells #[.slice p1 x.1.length q1, .int .i64 x.2.1, .slice p3 x.2.2.1.length q3, .slice p4 x.2.2.2.1.length q4, .slice p5 x.2.2.2.2.length q5] 27)
  replace R := R.stay hb
  replace BW := Below.step BW hb
  replace CL := CL.go (fun k _ h2 => hb.block k h2) hb.size
  have HS := hs2.keep hb
  have z3 : Hid (w2.heap.size < (w2.alloc (.cells #[.slice p1 x.1.length q1, .int .i64 x.2.1, .slice p3 x.2.2.1.length q3, .slice p4 x.2.2.2.1.length q4, .slice p5 x.2.2.2.2.length q5] 27)).heap.size) := XL.lt
  clear hs2 hb
  go_wp2_with fail
  generalize hV : w2.alloc (.cells #[.slice p1 x.1.length q1, .int .i64 x.2.1, .slice p3 x.2.2.1.length q3, .slice p4 x.2.2.2.1.length q4, .slice p5 x.2.2.2.2.length q5] 27) = V at *
  clear hV
  obtain ⟨gx, hgx⟩ : ∃ gx, w2.heap.size = gx := ⟨_, rfl⟩
  rw [hgx] at XL z2 z3
  simp only [hgx]
  clear hgx
  refine (l12Bent_c (w.heap.size + 1) p q cs t1 V HS (by omega) (by omega)).mono ?_
  rintro e w4 ⟨v, rfl, l, xl, fl, t2, OC, hl9, hl1, ht3, ht3b, hs4, hg⟩
  obtain ⟨pc, qc, rfl, -⟩ := OC.rd
  have HL : Hid (1 ≤ l.length ∧ l.length ≤ 9) := ⟨hl1, hl9⟩
  replace R := R.other hg (fun e => by have h := Option.some.inj e; omega)
  replace XL := XL.other hg (fun e => by have h := Option.some.inj e; have h1 := z1.out; have h2 := z2.out; omega)
  replace CL := CL.go (fun k h1 h2 => hg.block k h2 (fun e => by have h := Option.some.inj e; have h3 := z1.out; omega)) hg.size
  replace BW := BW.grown hg (by have h1 := BW.size; omega) (fun k hk => by simp at hk; omega)
  have z4 : Hid (V.heap.size ≤ w4.heap.size) := hg.size
  clear HS hg hl9 hl1
  go_wp2_with fail
  refine (l1Pick_c (w.heap.size + 1) p q cs t2 w4.heap.size [0, 3, 3, 60] 4 _ (hs4.keep (alloc_below _ _)) (by omega) (by omega) rfl (by decide) (by decide) (by have := hs4.lt; omega) (new_ints _ _ _ [0, 3, 3, 60] rfl)).mono ?_
  rintro e w5 ⟨now, hnow, rfl, hs5, hg⟩
  replace hg := grownBy_trans (World.grownBy_alloc _ _ _) hg
  have HNOW : Hid (0 ≤ now ∧ now ≤ 60) := by simp at hnow; show _ ∧ _; omega
  replace R := R.other hg (fun e => by have h := Option.some.inj e; omega)
  replace XL := XL.other hg (fun e => by have h := Option.some.inj e; have h1 := z1.out; have h2 := z2.out; omega)
  replace CL := CL.go (fun k h1 h2 => hg.block k h2 (fun e => by have h := Option.some.inj e; have h3 := z1.out; omega)) hg.size
  replace BW := BW.grown hg (by have h1 := BW.size; omega) (fun k hk => by simp at hk; omega)
  replace OC := OC.drawC hg (by have h1 := z1.out; have h2 := z2.out; have h3 := z3.out; omega)
  have z5 : Hid (V.heap.size ≤ w5.heap.size) := Nat.le_trans z4.out hg.size
  clear hs4 hg hnow
  have CA : Car w w5 w5 w1.heap.size := ⟨R, BW, Nat.le_refl _, fun _ _ _ => rfl, z1.out, by have h2 := z2.out; have h3 := z3.out; have h5 := z5.out; omega⟩
  have XGE : Hid (w1.heap.size ≤ gx ∧ gx < w5.heap.size) := ⟨z2.out, XL.lt⟩
  have OCB : Hid (∀ k, k ∈ (Value.slice pc l.length qc).ownBlock.toList ++ fl → w1.heap.size ≤ k ∧ k < w5.heap.size) := fun k hk => ⟨by have h := (OC.ins k hk).1; have h2 := z2.out; have h3 := z3.out; omega, (OC.ins k hk).2⟩
  clear R BW
  go_wp2_with fail
  refine (l12DrawSigns_c (w.heap.size + 1) p q cs (t2 + 1) w5 hs5 (by omega) (by omega)).mono ?_
  rintro e w6 ⟨v, rfl, s, xs, fp, t3, OS, hs41, -, ht4, ht4b, hs6, hg⟩
  obtain ⟨ps, qs, rfl, -⟩ := OS.rd
  have z6 : Hid (w5.heap.size ≤ w6.heap.size) := hg.size
  replace CA := CA.draw hg
  have hT : Hid (0 ≤ t3 ∧ t3 ≤ 10000) := ⟨by omega, by omega⟩
  have HS := hs6
  have OSB : Hid (∀ k, k ∈ (Value.slice ps s.length qs).ownBlock.toList ++ fp → w5.heap.size ≤ k ∧ k < w6.heap.size) := fun k hk => OS.ins k hk
  clear hs5 hg hs6 ht1 ht2 ht3 ht3b ht4 ht4b hs41
  have XS : ∀ (W : World), (∀ k, w1.heap.size ≤ k → k < w5.heap.size → W.heap[k]? = w5.heap[k]?) → Arr W gx 27 [.slice p1 x.1.length q1, .int .i64 x.2.1, .slice p3 x.2.2.1.length q3, .slice p4 x.2.2.2.1.length q4, .slice p5 x.2.2.2.2.length q5] := fun W h => (h gx XGE.out.1 XGE.out.2).trans XL
  have CXS : Hid _ := XS
  clear XS XL
  have RDS : Hid (∀ (W : World), (∀ k, w1.heap.size ≤ k → k < w5.heap.size → W.heap[k]? = w5.heap[k]?) → Rd W p1 q1 x.1 ∧ RdL bytC W p3 q3 x.2.2.1 ∧ RdL bytC W p4 q4 x.2.2.2.1 ∧ RdL holdC W p5 q5 x.2.2.2.2) := fun W h => CL.at h
  have RCS : Hid (∀ (W : World), (∀ k, w1.heap.size ≤ k → k < w5.heap.size → W.heap[k]? = w5.heap[k]?) → RdL certC W pc qc l) := fun W h => RdL.own (OC.fr (fun k hk => h k (OCB.out k hk).1 (OCB.out k hk).2))
  have hqc1 : l.length ≤ qc := (RdL.own OC).1
  have hqc2 : qc ≤ 2 ^ 63 - 1 := (RdL.own OC).2.1
  clear OC OCB
  have a0 := ((CXS.out w6 CA.same).cell 0).trans (show _ = some _ from rfl)
  have a1 := ((CXS.out w6 CA.same).cell 1).trans (show _ = some _ from rfl)
  have a2 := ((CXS.out w6 CA.same).cell 2).trans (show _ = some _ from rfl)
  have a3 := ((CXS.out w6 CA.same).cell 3).trans (show _ = some _ from rfl)
  have a4 := ((CXS.out w6 CA.same).cell 4).trans (show _ = some _ from rfl)
  go_wp2_with fail
  obtain ⟨r1, r3, r4, r5⟩ := RDS.out w6 CA.same
  refine (l14Fault_c gx 0 p1 p3 p4 p5 q1 q3 q4 q5 x w6 ⟨a0, a1, a2, a3, a4⟩ r3 r4 r5).mono ?_
  rintro e w7 ⟨rfl, hb⟩
  replace CA := CA.stay hb
  replace OS := OS.stay hb
  replace HS := HS.keep hb
  have z7 : Hid (w6.heap.size ≤ w7.heap.size) := hb.size
  clear hb r1 r3 r4 r5 a0 a1 a2 a3 a4
  by_cases h0 : seF hdS x = 0
  case neg =>
    have d0 : (seF hdS x != 0) = true := by rw [bne_iff_ne]; exact h0
    clear h0
    generalize seF hdS x = k0 at *
    have a0 := ((CXS.out w7 CA.same).cell 0).trans (show _ = some _ from rfl)
    have a1 := ((CXS.out w7 CA.same).cell 1).trans (show _ = some _ from rfl)
    have a2 := ((CXS.out w7 CA.same).cell 2).trans (show _ = some _ from rfl)
    have a3 := ((CXS.out w7 CA.same).cell 3).trans (show _ = some _ from rfl)
    have a4 := ((CXS.out w7 CA.same).cell 4).trans (show _ = some _ from rfl)
    have RU0 := rd_new w7 [.int .u8 1, .int .u8 2] [1, 2] 5 2 rfl rfl (by decide)
    have hb := alloc_below w7 (.cells #[.int .u8 1, .int .u8 2] 5)
    have HZ7 : Hid (w.heap.size < w7.heap.size) := CA.R.lt
    replace CA := CA.stay hb
    replace OS := OS.stay hb
    clear HS hb
    have RA := CA.R.row [.slice p1 x.1.length q1, .int .i64 x.2.1, .slice p3 x.2.2.1.length q3, .slice p4 x.2.2.2.1.length q4, .slice p5 x.2.2.2.2.length q5]
    have SAME : ∀ k, w.heap.size < k → ((w7.alloc (.cells #[.int .u8 1, .int .u8 2] 5)).setRow w.heap.size #[.slice p1 x.1.length q1, .int .i64 x.2.1, .slice p3 x.2.2.1.length q3, .slice p4 x.2.2.2.1.length q4, .slice p5 x.2.2.2.2.length q5]).heap[k]? = (w7.alloc (.cells #[.int .u8 1, .int .u8 2] 5)).heap[k]? := fun k hk => setRow_other (w7.alloc (.cells #[.int .u8 1, .int .u8 2] 5)) w.heap.size k #[.slice p1 x.1.length q1, .int .i64 x.2.1, .slice p3 x.2.2.1.length q3, .slice p4 x.2.2.2.1.length q4, .slice p5 x.2.2.2.2.length q5] (by omega)
    have SM : ∀ k, w1.heap.size ≤ k → k < w5.heap.size → ((w7.alloc (.cells #[.int .u8 1, .int .u8 2] 5)).setRow w.heap.size #[.slice p1 x.1.length q1, .int .i64 x.2.1, .slice p3 x.2.2.1.length q3, .slice p4 x.2.2.2.1.length q4, .slice p5 x.2.2.2.2.length q5]).heap[k]? = w5.heap[k]? := fun k h1 h2 => (SAME k (by have h := z1.out; omega)).trans (CA.same k h1 h2)
    have RP := CL _ SM
    have RC := RCS.out _ SM
    have RS := RdL.own (OS.fr (fun k hk => SAME k (by have h := (OS.ins k hk).1; have h1 := CA.low; have h2 := CA.mid; omega)))
    have RU := rd_fromT RU0 (fun y hy => SAME y.block (by cases hy; exact HZ7.out))
    have BEL := Below.row CA.bw (Nat.le_refl _) #[.slice p1 x.1.length q1, .int .i64 x.2.1, .slice p3 x.2.2.1.length q3, .slice p4 x.2.2.2.1.length q4, .slice p5 x.2.2.2.2.length q5]
    have c0 := (RA.cell 0).trans (show _ = some _ from rfl)
    have c1 := (RA.cell 1).trans (show _ = some _ from rfl)
    have c2 := (RA.cell 2).trans (show _ = some _ from rfl)
    have c3 := (RA.cell 3).trans (show _ = some _ from rfl)
    have c4 := (RA.cell 4).trans (show _ = some _ from rfl)
    have R := CA.R
    generalize e6 : (w7.alloc (.cells #[.int .u8 1, .int .u8 2] 5)).setRow w.heap.size #[.slice p1 x.1.length q1, .int .i64 x.2.1, .slice p3 x.2.2.1.length q3, .slice p4 x.2.2.2.1.length q4, .slice p5 x.2.2.2.2.length q5] = ZW at *
    clear RU0 SAME SM RDS RCS CXS CL OS CA HZ7 RA
    go_wp2_with (first | (refine wpList_store_row rfl 27 _ _ rfl w.heap.size #[.slice p1 x.1.length q1, .int .i64 x.2.1, .slice p3 x.2.2.1.length q3, .slice p4 x.2.2.2.1.length q4, .slice p5 x.2.2.2.2.length q5] rfl rfl 27 #[.slice none 0 0, .int .i64 0, .slice none 0 0, .slice none 0 0, .slice none 0 0] R hres.out rfl (by simp [Value.oneCell']) ?_; rw [e6]) | exact bodyPost_ret (v := .tuple #[.agg #[.slice p1 x.1.length q1, .int .i64 x.2.1, .slice p3 x.2.2.1.length q3, .slice p4 x.2.2.2.1.length q4, .slice p5 x.2.2.2.2.length q5], .slice pc l.length qc, .slice ps s.length qs, .int .i64 now, .slice (some ⟨w7.heap.size, 0, none⟩) 2 2]) (by simp [results, Tryz.results8, go_sem, c0, c1, c2, c3, c4]) rfl ⟨x, [.slice p1 x.1.length q1, .int .i64 x.2.1, .slice p3 x.2.2.1.length q3, .slice p4 x.2.2.2.1.length q4, .slice p5 x.2.2.2.2.length q5], l, s, now, [1, 2], pc, ps, (some ⟨w7.heap.size, 0, none⟩), qc, qs, 2, rfl, RP, RC, RS, RU, HDD.out, HNOW.out, BEL⟩)
  have SE : Hid (Ses x) := seS_iff.1 h0
  rw [h0]
  clear h0
  have a0 := ((CXS.out w7 CA.same).cell 0).trans (show _ = some _ from rfl)
  have a1 := ((CXS.out w7 CA.same).cell 1).trans (show _ = some _ from rfl)
  have a2 := ((CXS.out w7 CA.same).cell 2).trans (show _ = some _ from rfl)
  have a3 := ((CXS.out w7 CA.same).cell 3).trans (show _ = some _ from rfl)
  have a4 := ((CXS.out w7 CA.same).cell 4).trans (show _ = some _ from rfl)
  by_cases hA : x.2.2.1.length = 0
  case pos =>
    have hAI : ((x.2.2.1.length : Int) == 0) = true := by rw [beq_iff_eq]; omega
    clear hA a0 a1 a2 a3 a4
    have a0 := ((CXS.out w7 CA.same).cell 0).trans (show _ = some _ from rfl)
    have a1 := ((CXS.out w7 CA.same).cell 1).trans (show _ = some _ from rfl)
    have a2 := ((CXS.out w7 CA.same).cell 2).trans (show _ = some _ from rfl)
    have a3 := ((CXS.out w7 CA.same).cell 3).trans (show _ = some _ from rfl)
    have a4 := ((CXS.out w7 CA.same).cell 4).trans (show _ = some _ from rfl)
    have RU0 := rd_new w7 [.int .u8 1, .int .u8 2] [1, 2] 5 2 rfl rfl (by decide)
    have hb := alloc_below w7 (.cells #[.int .u8 1, .int .u8 2] 5)
    have HZ7 : Hid (w.heap.size < w7.heap.size) := CA.R.lt
    replace CA := CA.stay hb
    replace OS := OS.stay hb
    clear HS hb
    have RA := CA.R.row [.slice p1 x.1.length q1, .int .i64 x.2.1, .slice p3 x.2.2.1.length q3, .slice p4 x.2.2.2.1.length q4, .slice p5 x.2.2.2.2.length q5]
    have SAME : ∀ k, w.heap.size < k → ((w7.alloc (.cells #[.int .u8 1, .int .u8 2] 5)).setRow w.heap.size #[.slice p1 x.1.length q1, .int .i64 x.2.1, .slice p3 x.2.2.1.length q3, .slice p4 x.2.2.2.1.length q4, .slice p5 x.2.2.2.2.length q5]).heap[k]? = (w7.alloc (.cells #[.int .u8 1, .int .u8 2] 5)).heap[k]? := fun k hk => setRow_other (w7.alloc (.cells #[.int .u8 1, .int .u8 2] 5)) w.heap.size k #[.slice p1 x.1.length q1, .int .i64 x.2.1, .slice p3 x.2.2.1.length q3, .slice p4 x.2.2.2.1.length q4, .slice p5 x.2.2.2.2.length q5] (by omega)
    have SM : ∀ k, w1.heap.size ≤ k → k < w5.heap.size → ((w7.alloc (.cells #[.int .u8 1, .int .u8 2] 5)).setRow w.heap.size #[.slice p1 x.1.length q1, .int .i64 x.2.1, .slice p3 x.2.2.1.length q3, .slice p4 x.2.2.2.1.length q4, .slice p5 x.2.2.2.2.length q5]).heap[k]? = w5.heap[k]? := fun k h1 h2 => (SAME k (by have h := z1.out; omega)).trans (CA.same k h1 h2)
    have RP := CL _ SM
    have RC := RCS.out _ SM
    have RS := RdL.own (OS.fr (fun k hk => SAME k (by have h := (OS.ins k hk).1; have h1 := CA.low; have h2 := CA.mid; omega)))
    have RU := rd_fromT RU0 (fun y hy => SAME y.block (by cases hy; exact HZ7.out))
    have BEL := Below.row CA.bw (Nat.le_refl _) #[.slice p1 x.1.length q1, .int .i64 x.2.1, .slice p3 x.2.2.1.length q3, .slice p4 x.2.2.2.1.length q4, .slice p5 x.2.2.2.2.length q5]
    have c0 := (RA.cell 0).trans (show _ = some _ from rfl)
    have c1 := (RA.cell 1).trans (show _ = some _ from rfl)
    have c2 := (RA.cell 2).trans (show _ = some _ from rfl)
    have c3 := (RA.cell 3).trans (show _ = some _ from rfl)
    have c4 := (RA.cell 4).trans (show _ = some _ from rfl)
    have R := CA.R
    generalize e6 : (w7.alloc (.cells #[.int .u8 1, .int .u8 2] 5)).setRow w.heap.size #[.slice p1 x.1.length q1, .int .i64 x.2.1, .slice p3 x.2.2.1.length q3, .slice p4 x.2.2.2.1.length q4, .slice p5 x.2.2.2.2.length q5] = ZW at *
    clear RU0 SAME SM RDS RCS CXS CL OS CA HZ7 RA
    go_wp2_with (first | (refine wpList_store_row rfl 27 _ _ rfl w.heap.size #[.slice p1 x.1.length q1, .int .i64 x.2.1, .slice p3 x.2.2.1.length q3, .slice p4 x.2.2.2.1.length q4, .slice p5 x.2.2.2.2.length q5] rfl rfl 27 #[.slice none 0 0, .int .i64 0, .slice none 0 0, .slice none 0 0, .slice none 0 0] R hres.out rfl (by simp [Value.oneCell']) ?_; rw [e6]) | exact bodyPost_ret (v := .tuple #[.agg #[.slice p1 x.1.length q1, .int .i64 x.2.1, .slice p3 x.2.2.1.length q3, .slice p4 x.2.2.2.1.length q4, .slice p5 x.2.2.2.2.length q5], .slice pc l.length qc, .slice ps s.length qs, .int .i64 now, .slice (some ⟨w7.heap.size, 0, none⟩) 2 2]) (by simp [results, Tryz.results8, go_sem, c0, c1, c2, c3, c4]) rfl ⟨x, [.slice p1 x.1.length q1, .int .i64 x.2.1, .slice p3 x.2.2.1.length q3, .slice p4 x.2.2.2.1.length q4, .slice p5 x.2.2.2.2.length q5], l, s, now, [1, 2], pc, ps, (some ⟨w7.heap.size, 0, none⟩), qc, qs, 2, rfl, RP, RC, RS, RU, HDD.out, HNOW.out, BEL⟩)
  have hAI : ((x.2.2.1.length : Int) == 0) = false := by rw [beq_eq_false_iff_ne]; omega
  have hAP : Hid (0 < x.2.2.1.length) := by show _ < _; omega
  clear hA
  have RC0 := RCS.out w7 CA.same
  have RS0 := RdL.own OS
  go_wp2_with fail
  refine (l12Fault_c l pc qc w7 RC0).mono ?_
  rintro e w8 ⟨rfl, hw⟩
  rw [hw]
  clear hw w8 RC0
  by_cases h1 : ctC l = 0
  case neg =>
    have d0 : (ctC l != 0) = true := by rw [bne_iff_ne]; exact h1
    clear h1 RS0 a0 a1 a2 a3 a4
    generalize ctC l = k0 at *
    have a0 := ((CXS.out w7 CA.same).cell 0).trans (show _ = some _ from rfl)
    have a1 := ((CXS.out w7 CA.same).cell 1).trans (show _ = some _ from rfl)
    have a2 := ((CXS.out w7 CA.same).cell 2).trans (show _ = some _ from rfl)
    have a3 := ((CXS.out w7 CA.same).cell 3).trans (show _ = some _ from rfl)
    have a4 := ((CXS.out w7 CA.same).cell 4).trans (show _ = some _ from rfl)
    have RU0 := rd_new w7 [.int .u8 1, .int .u8 2] [1, 2] 5 2 rfl rfl (by decide)
    have hb := alloc_below w7 (.cells #[.int .u8 1, .int .u8 2] 5)
    have HZ7 : Hid (w.heap.size < w7.heap.size) := CA.R.lt
    replace CA := CA.stay hb
    replace OS := OS.stay hb
    clear HS hb
    have RA := CA.R.row [.slice p1 x.1.length q1, .int .i64 x.2.1, .slice p3 x.2.2.1.length q3, .slice p4 x.2.2.2.1.length q4, .slice p5 x.2.2.2.2.length q5]
    have SAME : ∀ k, w.heap.size < k → ((w7.alloc (.cells #[.int .u8 1, .int .u8 2] 5)).setRow w.heap.size #[.slice p1 x.1.length q1, .int .i64 x.2.1, .slice p3 x.2.2.1.length q3, .slice p4 x.2.2.2.1.length q4, .slice p5 x.2.2.2.2.length q5]).heap[k]? = (w7.alloc (.cells #[.int .u8 1, .int .u8 2] 5)).heap[k]? := fun k hk => setRow_other (w7.alloc (.cells #[.int .u8 1, .int .u8 2] 5)) w.heap.size k #[.slice p1 x.1.length q1, .int .i64 x.2.1, .slice p3 x.2.2.1.length q3, .slice p4 x.2.2.2.1.length q4, .slice p5 x.2.2.2.2.length q5] (by omega)
    have SM : ∀ k, w1.heap.size ≤ k → k < w5.heap.size → ((w7.alloc (.cells #[.int .u8 1, .int .u8 2] 5)).setRow w.heap.size #[.slice p1 x.1.length q1, .int .i64 x.2.1, .slice p3 x.2.2.1.length q3, .slice p4 x.2.2.2.1.length q4, .slice p5 x.2.2.2.2.length q5]).heap[k]? = w5.heap[k]? := fun k h1 h2 => (SAME k (by have h := z1.out; omega)).trans (CA.same k h1 h2)
    have RP := CL _ SM
    have RC := RCS.out _ SM
    have RS := RdL.own (OS.fr (fun k hk => SAME k (by have h := (OS.ins k hk).1; have h1 := CA.low; have h2 := CA.mid; omega)))
    have RU := rd_fromT RU0 (fun y hy => SAME y.block (by cases hy; exact HZ7.out))
    have BEL := Below.row CA.bw (Nat.le_refl _) #[.slice p1 x.1.length q1, .int .i64 x.2.1, .slice p3 x.2.2.1.length q3, .slice p4 x.2.2.2.1.length q4, .slice p5 x.2.2.2.2.length q5]
    have c0 := (RA.cell 0).trans (show _ = some _ from rfl)
    have c1 := (RA.cell 1).trans (show _ = some _ from rfl)
    have c2 := (RA.cell 2).trans (show _ = some _ from rfl)
    have c3 := (RA.cell 3).trans (show _ = some _ from rfl)
    have c4 := (RA.cell 4).trans (show _ = some _ from rfl)
    have R := CA.R
    generalize e6 : (w7.alloc (.cells #[.int .u8 1, .int .u8 2] 5)).setRow w.heap.size #[.slice p1 x.1.length q1, .int .i64 x.2.1, .slice p3 x.2.2.1.length q3, .slice p4 x.2.2.2.1.length q4, .slice p5 x.2.2.2.2.length q5] = ZW at *
    clear RU0 SAME SM RDS RCS CXS CL OS CA HZ7 RA
    go_wp2_with (first | (refine wpList_store_row rfl 27 _ _ rfl w.heap.size #[.slice p1 x.1.length q1, .int .i64 x.2.1, .slice p3 x.2.2.1.length q3, .slice p4 x.2.2.2.1.length q4, .slice p5 x.2.2.2.2.length q5] rfl rfl 27 #[.slice none 0 0, .int .i64 0, .slice none 0 0, .slice none 0 0, .slice none 0 0] R hres.out rfl (by simp [Value.oneCell']) ?_; rw [e6]) | exact bodyPost_ret (v := .tuple #[.agg #[.slice p1 x.1.length q1, .int .i64 x.2.1, .slice p3 x.2.2.1.length q3, .slice p4 x.2.2.2.1.length q4, .slice p5 x.2.2.2.2.length q5], .slice pc l.length qc, .slice ps s.length qs, .int .i64 now, .slice (some ⟨w7.heap.size, 0, none⟩) 2 2]) (by simp [results, Tryz.results8, go_sem, c0, c1, c2, c3, c4]) rfl ⟨x, [.slice p1 x.1.length q1, .int .i64 x.2.1, .slice p3 x.2.2.1.length q3, .slice p4 x.2.2.2.1.length q4, .slice p5 x.2.2.2.2.length q5], l, s, now, [1, 2], pc, ps, (some ⟨w7.heap.size, 0, none⟩), qc, qs, 2, rfl, RP, RC, RS, RU, HDD.out, HNOW.out, BEL⟩)
  have HOK : Hid (∀ c ∈ l, okC c = true) := ctC_all h1
  rw [h1]
  clear h1
  go_wp2_with fail
  refine (l12Signs_c s ps qs w7 RS0).mono ?_
  rintro e w8 ⟨rfl, hw⟩
  rw [hw]
  clear hw w8 RS0
  by_cases h2 : sgC s = 0
  case neg =>
    have d0 : (sgC s != 0) = true := by rw [bne_iff_ne]; exact h2
    clear h2 a0 a1 a2 a3 a4
    generalize sgC s = k0 at *
    have a0 := ((CXS.out w7 CA.same).cell 0).trans (show _ = some _ from rfl)
    have a1 := ((CXS.out w7 CA.same).cell 1).trans (show _ = some _ from rfl)
    have a2 := ((CXS.out w7 CA.same).cell 2).trans (show _ = some _ from rfl)
    have a3 := ((CXS.out w7 CA.same).cell 3).trans (show _ = some _ from rfl)
    have a4 := ((CXS.out w7 CA.same).cell 4).trans (show _ = some _ from rfl)
    have RU0 := rd_new w7 [.int .u8 1, .int .u8 2] [1, 2] 5 2 rfl rfl (by decide)
    have hb := alloc_below w7 (.cells #[.int .u8 1, .int .u8 2] 5)
    have HZ7 : Hid (w.heap.size < w7.heap.size) := CA.R.lt
    replace CA := CA.stay hb
    replace OS := OS.stay hb
    clear HS hb
    have RA := CA.R.row [.slice p1 x.1.length q1, .int .i64 x.2.1, .slice p3 x.2.2.1.length q3, .slice p4 x.2.2.2.1.length q4, .slice p5 x.2.2.2.2.length q5]
    have SAME : ∀ k, w.heap.size < k → ((w7.alloc (.cells #[.int .u8 1, .int .u8 2] 5)).setRow w.heap.size #[.slice p1 x.1.length q1, .int .i64 x.2.1, .slice p3 x.2.2.1.length q3, .slice p4 x.2.2.2.1.length q4, .slice p5 x.2.2.2.2.length q5]).heap[k]? = (w7.alloc (.cells #[.int .u8 1, .int .u8 2] 5)).heap[k]? := fun k hk => setRow_other (w7.alloc (.cells #[.int .u8 1, .int .u8 2] 5)) w.heap.size k #[.slice p1 x.1.length q1, .int .i64 x.2.1, .slice p3 x.2.2.1.length q3, .slice p4 x.2.2.2.1.length q4, .slice p5 x.2.2.2.2.length q5] (by omega)
    have SM : ∀ k, w1.heap.size ≤ k → k < w5.heap.size → ((w7.alloc (.cells #[.int .u8 1, .int .u8 2] 5)).setRow w.heap.size #[.slice p1 x.1.length q1, .int .i64 x.2.1, .slice p3 x.2.2.1.length q3, .slice p4 x.2.2.2.1.length q4, .slice p5 x.2.2.2.2.length q5]).heap[k]? = w5.heap[k]? := fun k h1 h2 => (SAME k (by have h := z1.out; omega)).trans (CA.same k h1 h2)
    have RP := CL _ SM
    have RC := RCS.out _ SM
    have RS := RdL.own (OS.fr (fun k hk => SAME k (by have h := (OS.ins k hk).1; have h1 := CA.low; have h2 := CA.mid; omega)))
    have RU := rd_fromT RU0 (fun y hy => SAME y.block (by cases hy; exact HZ7.out))
    have BEL := Below.row CA.bw (Nat.le_refl _) #[.slice p1 x.1.length q1, .int .i64 x.2.1, .slice p3 x.2.2.1.length q3, .slice p4 x.2.2.2.1.length q4, .slice p5 x.2.2.2.2.length q5]
    have c0 := (RA.cell 0).trans (show _ = some _ from rfl)
    have c1 := (RA.cell 1).trans (show _ = some _ from rfl)
    have c2 := (RA.cell 2).trans (show _ = some _ from rfl)
    have c3 := (RA.cell 3).trans (show _ = some _ from rfl)
    have c4 := (RA.cell 4).trans (show _ = some _ from rfl)
    have R := CA.R
    generalize e6 : (w7.alloc (.cells #[.int .u8 1, .int .u8 2] 5)).setRow w.heap.size #[.slice p1 x.1.length q1, .int .i64 x.2.1, .slice p3 x.2.2.1.length q3, .slice p4 x.2.2.2.1.length q4, .slice p5 x.2.2.2.2.length q5] = ZW at *
    clear RU0 SAME SM RDS RCS CXS CL OS CA HZ7 RA
    go_wp2_with (first | (refine wpList_store_row rfl 27 _ _ rfl w.heap.size #[.slice p1 x.1.length q1, .int .i64 x.2.1, .slice p3 x.2.2.1.length q3, .slice p4 x.2.2.2.1.length q4, .slice p5 x.2.2.2.2.length q5] rfl rfl 27 #[.slice none 0 0, .int .i64 0, .slice none 0 0, .slice none 0 0, .slice none 0 0] R hres.out rfl (by simp [Value.oneCell']) ?_; rw [e6]) | exact bodyPost_ret (v := .tuple #[.agg #[.slice p1 x.1.length q1, .int .i64 x.2.1, .slice p3 x.2.2.1.length q3, .slice p4 x.2.2.2.1.length q4, .slice p5 x.2.2.2.2.length q5], .slice pc l.length qc, .slice ps s.length qs, .int .i64 now, .slice (some ⟨w7.heap.size, 0, none⟩) 2 2]) (by simp [results, Tryz.results8, go_sem, c0, c1, c2, c3, c4]) rfl ⟨x, [.slice p1 x.1.length q1, .int .i64 x.2.1, .slice p3 x.2.2.1.length q3, .slice p4 x.2.2.2.1.length q4, .slice p5 x.2.2.2.2.length q5], l, s, now, [1, 2], pc, ps, (some ⟨w7.heap.size, 0, none⟩), qc, qs, 2, rfl, RP, RC, RS, RU, HDD.out, HNOW.out, BEL⟩)
  have HS40 : Hid (s.length ≤ 40) := (sgC_all.1 h2).1
  rw [h2]
  clear h2 a0 a1 a2 a3 a4
  go_wp2_with fail
  refine (l1Next_c (w.heap.size + 1) p q cs t3 (l.length : Int) w7 HS (by have := hT.out; omega) (by have := hT.out; omega) (by have := HL.out; omega) (by have := HL.out; omega)).mono ?_
  rintro e w8 ⟨i, rfl, hi0, hi1, HS2, hg⟩
  replace CA := CA.draw hg
  replace OS := OS.drawC hg (by have := CA.low; have := CA.mid; omega)
  obtain ⟨i, rfl⟩ := Int.eq_ofNat_of_zero_le hi0
  obtain ⟨c, hc⟩ : ∃ c, l[i]? = some c := ⟨l[i], by simp⟩
  have hoc : Hid (okC c = true) := HOK.out c (List.mem_of_getElem? hc)
  have z8 : Hid (w6.heap.size ≤ w8.heap.size) := Nat.le_trans z7.out hg.size
  have RC8 := RCS.out w8 CA.same
  obtain ⟨b0, o0, e1, hcc⟩ := RC8.2.2.2 (by omega)
  subst e1
  obtain ⟨us, hrep, hcell⟩ := hcc i c hc
  obtain rfl := cert_rep hrep
  have c0 := hcell 0 _ rfl
  have c1 := hcell 1 _ rfl
  have c2 := hcell 2 _ rfl
  rw [show certC.n = 3 from rfl] at c0 c1 c2
  rw [Nat.add_zero] at c0
  have AC := Arr.new w8 [.int .i64 c.1, .int .i64 c.2.1, .int .i64 c.2.2] 62
  have hb := alloc_below w8 (.cells #[.int .i64 c.1, .int .i64 c.2.1, .int .i64 c.2.2] 62)
  replace CA := CA.stay hb
  replace OS := OS.stay hb
  have HS := HS2.keep hb
  have ZV : Hid (w8.heap.size < (w8.alloc (.cells #[.int .i64 c.1, .int .i64 c.2.1, .int .i64 c.2.2] 62)).heap.size) := AC.lt
  clear HS2 hb hg hcc hrep hcell hc HOK hi0 RC8
  go_wp2_with fail
  generalize hV : w8.alloc (.cells #[.int .i64 c.1, .int .i64 c.2.1, .int .i64 c.2.2] 62) = V8 at *
  clear hV c0 c1 c2
  generalize hgc : w8.heap.size = gc at *
  clear hgc
  have ZG : Hid (w6.heap.size ≤ gc) := z8.out
  have HRL : 1 ≤ x.2.1 ∧ x.2.1 ≤ 2 := by rcases SE.out.role with h | h <;> omega
  have HX32 : Hid (x.1.length = 32) := SE.out.len
  have hr3 := RDS.out V8 CA.same
  have hq31 : x.2.2.1.length ≤ q3 := hr3.2.1.1
  have hq32 : q3 ≤ 2 ^ 63 - 1 := hr3.2.1.2.1
  have hq41 : x.2.2.2.1.length ≤ q4 := hr3.2.2.1.1
  have hq42 : q4 ≤ 2 ^ 63 - 1 := hr3.2.2.1.2.1
  clear hr3 hAI
  have hnx : gx ∉ [w.heap.size + 1] := by have h1 := XGE.out.1; have h2 := z1.out; simp; omega
  have m2 := GenS.only_cell (fp := [w.heap.size + 1]) (((CXS.out V8 CA.same).cell 2).trans (show _ = some _ from rfl)) hnx
  have hne := GenS.only_some [w.heap.size + 1] V8
  clear hnx
  go_wp2_with fail
  refine GenS.wp_region_pick (GenS.only_pre [w.heap.size + 1]) [0, 1, 2, 3, 4, 5] 9 3 1 rfl rfl rfl (by kernel_rfl) (by kernel_rfl) (by kernel_rfl) (by kernel_rfl) ?_
  simp only [opsAt, List.getElem?_toArray, List.getElem?_cons_zero, List.getElem?_cons_succ]
  repeat (go_big_quiet_step (fail))
  refine wpQuiet_nil ?_
  clear m2 hne
  refine GenS.wpM_only (i := 6) (by kernel_rfl) ?_
  refine GenS.mOp_call rfl (by go_simp) 32 _ #[.pointer (some ⟨w.heap.size + 1, 0, none⟩), .int .i64 (x.2.2.1.length : Int)] (fun w => by go_simp) rfl ?_
  rintro _ ⟨n1, rfl⟩
  refine (l1Next_c (w.heap.size + 1) p q cs (t3 + 1) (x.2.2.1.length : Int) _ (HS.drewN n1) (by have := hT.out; omega) (by have := hT.out; omega) (by have := hAP.out; omega) (by have := SE.out.ln.1; omega)).mono ?_
  rintro e w9 ⟨k, rfl, hk0, hk1, HS9, hg9⟩
  refine ⟨_, rfl, ⟨⟨w9, Only.more (Only.grown hg9) (fun k hk => by simp at hk; simp [hk])⟩, rfl⟩, ?_⟩
  have hgw : V8.grownBy w9 (some (w.heap.size + 1)) := grownBy_trans (grownBy_drewN V8 n1 _) hg9
  have hb1 : w.heap.size + 1 < w5.heap.size := by have h1 := CA.low; have h2 := CA.mid; omega
  have HB1 : Hid (w.heap.size + 1 < w5.heap.size) := hb1
  have zgc : Hid (w5.heap.size ≤ gc) := by have h1 := (show w5.heap.size ≤ w6.heap.size from z6.out); have h2 := ZG.out; show _ ≤ _; omega
  replace CA := CA.draw hgw
  replace OS := OS.drawC hgw hb1
  replace AC := AC.other hgw (fun e => by have h := Option.some.inj e; have h1 := zgc.out; omega)
  have HS := HS9
  clear hgw hg9 HS9
  obtain ⟨k, rfl⟩ := Int.eq_ofNat_of_zero_le hk0
  have hkl : k < x.2.2.1.length := by omega
  obtain ⟨ctx, hctx⟩ : ∃ a, x.2.2.1[k]? = some a := ⟨x.2.2.1[k], by simp [hkl]⟩
  obtain ⟨b3, o3, pt, qt, rfl, hB3, hlt3, HE⟩ := cloE (W := w5) (fun V hV => (RDS.out V hV).2.1) hctx
  have HC20 : Hid (ctx.length ≤ 20) := ctx_20 (SE.out.cx ctx (List.mem_append_left _ (List.mem_of_getElem? hctx)))
  have gu := GenS.only_cell (fp := [w.heap.size + 1]) (HE w9 CA.same).1 (by have h := CA.low; simp; omega)
  have HCX : Hid (∀ (W : World), (∀ k, w1.heap.size ≤ k → k < w5.heap.size → W.heap[k]? = w5.heap[k]?) → Rd W pt qt ctx) := fun W h => (HE W h).2
  have hne := GenS.only_some [w.heap.size + 1] w9
  clear HE hctx hk0 hB3 hlt3
  refine GenS.wpM_more (GenS.only_pre [w.heap.size + 1]) [7, 8] 2 0 rfl (by kernel_rfl) (by kernel_rfl) (by kernel_rfl) (by kernel_rfl) ?_
  simp only [opsAt, List.getElem?_toArray, List.getElem?_cons_zero, List.getElem?_cons_succ]
  go_simp
  repeat (go_big_quiet_step (fail))
  refine wpQuiet_nil ?_
  clear hne gu hkl hk1
  refine GenS.wpM_end (by kernel_rfl) rfl (by kernel_rfl) (by decide) ?_
  rintro _ ⟨n3, rfl⟩
  have D3 : Below w9.heap.size w9 (w9.drewN n3) := ⟨rfl, rfl, rfl, Nat.le_refl _, fun _ _ => rfl⟩
  simp only [List.drop_succ_cons, List.drop_zero]
  replace CA := CA.stay D3
  replace OS := OS.stay D3
  replace AC := AC.stay D3
  replace HS := HS.keep D3
  clear D3
  generalize w9.drewN n3 = W9 at *
  have a0 := ((CXS.out W9 CA.same).cell 0).trans (show _ = some _ from rfl)
  have a1 := ((CXS.out W9 CA.same).cell 1).trans (show _ = some _ from rfl)
  have a2 := ((CXS.out W9 CA.same).cell 2).trans (show _ = some _ from rfl)
  have a3 := ((CXS.out W9 CA.same).cell 3).trans (show _ = some _ from rfl)
  have a4 := ((CXS.out W9 CA.same).cell 4).trans (show _ = some _ from rfl)
  by_cases hU : 0 < x.2.2.2.1.length
  case neg =>
    have hUI : ¬ (0 < (x.2.2.2.1.length : Int)) := by omega
    go_wp2_with fail
    clear a0 a1 a2 a3 a4
    refine (l1Chance_c (w.heap.size + 1) p q cs (t3 + 1 + 1) 8 W9 HS (by have := hT.out; omega) (by have := hT.out; omega) (by omega) (by omega)).mono ?_
    rintro e Wa ⟨rb, rfl, HS2, hg⟩
    replace CA := CA.draw hg
    replace OS := OS.drawC hg HB1.out
    replace AC := AC.other hg (fun e => by have h := Option.some.inj e; have h1 := zgc.out; have h2 := HB1.out; omega)
    have HS := HS2
    clear hg HS2
    cases rb
    case false =>
      go_wp2_with fail
      obtain ⟨i1, hi1, hy0, hy1, hy2⟩ := info_parts infoSign
      obtain ⟨F, HF⟩ : ∃ F, Hid ((Value.slice ps s.length qs).ownBlock.toList = F) := ⟨_, rfl⟩
      have HFl : Hid (∀ k, k ∈ F → w5.heap.size ≤ k ∧ k < gc) := fun k hk => by rw [← HF.out] at hk; have h := OSB.out k (List.mem_append_left _ hk); have h1 := ZG.out; exact ⟨h.1, by omega⟩
      have hnc : gc ∉ F := fun h => Nat.lt_irrefl _ (HFl.out gc h).2
      have hnx : gx ∉ F := fun h => by have h1 := (HFl.out gx h).1; have h2 := XGE.out.2; omega
      have m0 := GenS.only_cell (fp := F) ((AC.cell 0).trans (show _ = some _ from rfl)) hnc
      have m1 := GenS.only_cell (fp := F) ((AC.cell 1).trans (show _ = some _ from rfl)) hnc
      have mx := GenS.only_cell (fp := F) (((CXS.out Wa CA.same).cell 0).trans (show _ = some _ from rfl)) hnx
      have hne := GenS.only_some F Wa
      refine GenS.wp_region_pick (GenS.only_pre F) [0, 1, 2, 3, 4, 5, 6, 7, 8] 13 4 1 rfl rfl rfl (by kernel_rfl) (by kernel_rfl) (by kernel_rfl) (by kernel_rfl) ?_
      simp only [opsAt, List.getElem?_toArray, List.getElem?_cons_zero, List.getElem?_cons_succ]
      repeat (go_big_quiet_step (fail))
      refine wpQuiet_nil ?_
      clear m0 m1 mx hne
      refine GenS.wpM_only (i := 9) (by kernel_rfl) ?_
      refine GenS.mOp_call rfl (by go_simp) 33 _ #[.slice p1 x.1.length q1, .int .i64 (3 - x.2.1), .slice pt ctx.length qt, .pointer (some ⟨gc, 0, none⟩)] (fun w => by go_simp) rfl ?_
      rintro _ ⟨n1, rfl⟩
      have D1 : Below Wa.heap.size Wa (Wa.drewN n1) := ⟨rfl, rfl, rfl, Nat.le_refl _, fun _ _ => rfl⟩
      replace CA := CA.stay D1
      replace OS := OS.stay D1
      replace AC := AC.stay D1
      replace HS := HS.keep D1
      clear D1
      generalize Wa.drewN n1 = U1 at *
      refine (l13Digest_c p1 pt q1 qt gc 0 x.1 ctx (3 - x.2.1) c U1 (RDS.out U1 CA.same).1 (HCX.out U1 CA.same) ((AC.cell 0).trans rfl) ((AC.cell 1).trans rfl) ((AC.cell 2).trans rfl) (by have := HX32.out; omega) HC20.out hoc.out).mono ?_
      rintro e wd ⟨u, rfl, OD, hb⟩
      have H32 : Hid ((dgN x.1 (3 - x.2.1) ctx c).length = 32) := dgN_len _ _ _ _
      generalize dgN x.1 (3 - x.2.1) ctx c = dg at *
      obtain ⟨pu, qu, rfl, -⟩ := OD.rd
      have HDge : Hid (∀ k, (Value.slice pu dg.length qu).ownBlock = some k → gc < k) := fun k hk => Nat.lt_of_lt_of_le AC.lt (OD.ge k hk)
      refine ⟨_, rfl, ⟨⟨wd, Only.below hb⟩, rfl⟩, ?_⟩
      replace OD := OD.lower (show w5.heap.size ≤ U1.heap.size from CA.size)
      replace CA := CA.stay hb
      replace OS := OS.stay hb
      replace AC := AC.stay hb
      replace HS := HS.keep hb
      clear hb
      have hne := GenS.only_some F wd
      refine GenS.wpM_more (GenS.only_pre F) [10] 3 2 rfl (by kernel_rfl) (by kernel_rfl) (by kernel_rfl) (by kernel_rfl) ?_
      simp only [opsAt, List.getElem?_toArray, List.getElem?_cons_zero, List.getElem?_cons_succ]
      go_simp
      repeat (go_big_quiet_step (fail))
      refine wpQuiet_nil ?_
      clear hne
      refine GenS.wpM_only (i := 11) (by kernel_rfl) ?_
      refine GenS.mOp_make rfl (by go_simp) ?_
      rintro _ ⟨n4, rfl⟩
      refine ⟨.slice (some ⟨(wd.drewN n4).heap.size, 0, none⟩) 1 1, (wd.drewN n4).alloc (.cells #[.int .i64 c.1, .int .i64 c.2.1, .slice pu dg.length qu] 67), by go_simp, ⟨⟨_, Only.below (alloc_below _ _)⟩, rfl⟩, ?_⟩
      have D4 : Below wd.heap.size wd ((wd.drewN n4).alloc (.cells #[.int .i64 c.1, .int .i64 c.2.1, .slice pu dg.length qu] 67)) := Below.step (show Below wd.heap.size wd (wd.drewN n4) from ⟨rfl, rfl, rfl, Nat.le_refl _, fun _ _ => rfl⟩) (alloc_below _ _)
      have A4 := Arr.new (wd.drewN n4) [.int .i64 c.1, .int .i64 c.2.1, .slice pu dg.length qu] 67
      replace CA := CA.stay D4
      replace OS := OS.stay D4
      replace AC := AC.stay D4
      replace HS := HS.keep D4
      replace OD := OD.stay D4
      generalize (wd.drewN n4).alloc (.cells #[.int .i64 c.1, .int .i64 c.2.1, .slice pu dg.length qu] 67) = U4 at *
      generalize (wd.drewN n4).heap.size = g4 at *
      clear D4
      refine GenS.wpM_only (i := 12) (by kernel_rfl) ?_
      refine GenS.mOp_list rfl (by go_simp) (by kernel_rfl) ?_
      rintro _ ⟨n5, rfl⟩
      have D5 : Below U4.heap.size U4 (U4.drewN n5) := ⟨rfl, rfl, rfl, Nat.le_refl _, fun _ _ => rfl⟩
      replace A4 := A4.stay D5
      replace OD := OD.stay D5
      replace CA := CA.stay D5
      replace OS := OS.stay D5
      replace AC := AC.stay D5
      replace HS := HS.keep D5
      clear D5
      generalize U4.drewN n5 = U5 at *
      have hnew : ∀ j u, ([.int .i64 c.1, .int .i64 c.2.1, .slice pu dg.length qu] : List Value)[j]? = some u → U5.cell? ((⟨g4, 0, none⟩ : Addr).add j) = some u := fun j u hj => A4.cells j u hj
      have hB5 : w5.heap.size ≤ U5.heap.size := CA.size
      have HRO : Hid _ := OS.row
      have hs40 : s.length ≤ 10000 := by have := HS40.out; omega
      refine wpList_append_lies _ rfl (.tmp 88) (.tmp 99) 34 rfl w5.heap.size 67 i1 (.agg #[.int .i64 0, .int .i64 0, .slice none 0 0]) 3 40 Tryz.underlying34 hi1 hy0 hy1 hy2 rfl (by decide) (.slice ps s.length qs) s.length xs rfl HRO.out ⟨g4, 0, none⟩ 1 1 [.int .i64 c.1, .int .i64 c.2.1, .slice pu dg.length qu] rfl rfl hnew (by intro u hu; simp at hu; rcases hu with rfl | rfl | rfl <;> rfl) (by decide) (by unfold maxLen; omega) (by omega) hB5 _ rfl ?_
      intro g6 c6 w6x hown6 hgrow6 hat6 hlt6
      refine ⟨rfl, by rw [← HF.out]; exact Only.grown hgrow6, ?_⟩
      have ON := OS.push (a := ((c.1, c.2.1, dg) : SignD)) (sign_own_mk (a := ((c.1, c.2.1, dg) : SignD)) (OD : Own U5 w5.heap.size (.slice pu dg.length qu) dg)) (fun j hj hj2 => by
        have h1 := HDge.out j (mem_opt.1 hj)
        have h2 := (OSB.out j hj2).2
        have h3 := ZG.out
        omega) (k := s.length + 1) (v' := .slice (some ⟨g6, 0, none⟩) (s.length + 1) c6) (g := g6) hown6 (by simp) hgrow6 rfl hat6
      have hsb : ∀ k, (Value.slice ps s.length qs).ownBlock = some k → w5.heap.size ≤ k ∧ k < gc := fun k hk => HFl.out k (by rw [← HF.out]; exact mem_opt.2 hk)
      replace CA := CA.other hgrow6 (fun k hk => (hsb k hk).1)
      replace AC := AC.other hgrow6 (fun e => by have h1 := (hsb gc e).2; omega)
      replace HS := HS.other hgrow6 (fun k hk => by have h1 := (hsb k hk).1; have h2 := HB1.out; omega)
      clear hown6 hat6 hlt6 HRO hnew A4 OS OD hgrow6 hsb hnc hnx HF HFl hi1 hy0 hy1 hy2 hs40 hB5 H32
      refine GenS.wpM_end (by kernel_rfl) rfl (by kernel_rfl) (by decide) ?_
      rintro _ ⟨n6, rfl⟩
      have D6 : Below w6x.heap.size w6x (w6x.drewN n6) := ⟨rfl, rfl, rfl, Nat.le_refl _, fun _ _ => rfl⟩
      simp only [List.drop_succ_cons, List.drop_zero]
      have OS := ON
      clear ON
      replace CA := CA.stay D6
      replace OS := OS.stay D6
      replace AC := AC.stay D6
      replace HS := HS.keep D6
      clear D6
      generalize w6x.drewN n6 = Y at *
      have HYB : Hid (∀ k, k ∈ (Value.slice (some ⟨g6, 0, none⟩) (s.length + 1) c6).ownBlock.toList ++ (fp ++ (Value.slice pu dg.length qu).ownBlock.toList) → w5.heap.size ≤ k ∧ k < Y.heap.size) := fun k hk => OS.ins k hk
      have HLN : Hid ((s ++ [((c.1, c.2.1, dg) : SignD)]).length = s.length + 1) := by show _ = _; simp
      have hy5 : Hid (w5.heap.size ≤ Y.heap.size) := CA.size
      have a0 := ((CXS.out Y CA.same).cell 0).trans (show _ = some _ from rfl)
      go_wp2_with fail
      refine (l13Make_c p1 pt q1 qt gc 0 x.1 ctx (3 - x.2.1) c (s.length : Int) Y (RDS.out Y CA.same).1 (HCX.out Y CA.same) ((AC.cell 0).trans rfl) ((AC.cell 1).trans rfl) ((AC.cell 2).trans rfl) (by have := HX32.out; omega) HC20.out hoc.out (by omega) (by have := HS40.out; omega)).mono ?_
      rintro e w11 ⟨u, rfl, OM, hb⟩
      have hml := mkN_len x.1 (3 - x.2.1) ctx c (s.length : Int)
      generalize mkN x.1 (3 - x.2.1) ctx c (s.length : Int) = d at *
      obtain ⟨pd, qd, rfl, -⟩ := OM.rd
      have HDL : Hid (1 ≤ d.length ∧ d.length ≤ 100) := by have := HC20.out; rw [hml]; exact ⟨by omega, by omega⟩
      clear a0 hml
      replace CA := CA.stay hb
      replace OS := OS.stay hb
      replace AC := AC.stay hb
      replace HS := HS.keep hb
      clear hb
      go_wp2_with fail
      refine (l1Chance_c (w.heap.size + 1) p q cs ((t3 + 1 + 1) + 1) 8 w11 HS (by have := hT.out; omega) (by have := hT.out; omega) (by omega) (by omega)).mono ?_
      rintro e w12 ⟨rb, rfl, HS2, hg⟩
      replace OM := OM.draw hg (by have h1 := HB1.out; have h2 := hy5.out; omega)
      replace CA := CA.draw hg
      replace OS := OS.drawC hg HB1.out
      replace AC := AC.other hg (fun e => by have h := Option.some.inj e; have h1 := zgc.out; have h2 := HB1.out; omega)
      have HS := HS2
      clear hg HS2
      cases rb
      case false =>
        have a0 := ((CXS.out w12 CA.same).cell 0).trans (show _ = some _ from rfl)
        have a1 := ((CXS.out w12 CA.same).cell 1).trans (show _ = some _ from rfl)
        have a2 := ((CXS.out w12 CA.same).cell 2).trans (show _ = some _ from rfl)
        have a3 := ((CXS.out w12 CA.same).cell 3).trans (show _ = some _ from rfl)
        have a4 := ((CXS.out w12 CA.same).cell 4).trans (show _ = some _ from rfl)
        have RA := CA.R.row [.slice p1 x.1.length q1, .int .i64 x.2.1, .slice (some ⟨b3, o3, none⟩) x.2.2.1.length q3, .slice p4 x.2.2.2.1.length q4, .slice p5 x.2.2.2.2.length q5]
        have SAME : ∀ k, w.heap.size < k → (w12.setRow w.heap.size #[.slice p1 x.1.length q1, .int .i64 x.2.1, .slice (some ⟨b3, o3, none⟩) x.2.2.1.length q3, .slice p4 x.2.2.2.1.length q4, .slice p5 x.2.2.2.2.length q5]).heap[k]? = w12.heap[k]? := fun k hk => setRow_other w12 w.heap.size k #[.slice p1 x.1.length q1, .int .i64 x.2.1, .slice (some ⟨b3, o3, none⟩) x.2.2.1.length q3, .slice p4 x.2.2.2.1.length q4, .slice p5 x.2.2.2.2.length q5] (by omega)
        have SM : ∀ k, w1.heap.size ≤ k → k < w5.heap.size → (w12.setRow w.heap.size #[.slice p1 x.1.length q1, .int .i64 x.2.1, .slice (some ⟨b3, o3, none⟩) x.2.2.1.length q3, .slice p4 x.2.2.2.1.length q4, .slice p5 x.2.2.2.2.length q5]).heap[k]? = w5.heap[k]? := fun k h1 h2 => (SAME k (by have h := z1.out; omega)).trans (CA.same k h1 h2)
        have RP := CL _ SM
        have RC := RCS.out _ SM
        have RS := RdL.own (OS.fr (fun k hk => SAME k (by have h := (OS.ins k hk).1; have h1 := CA.low; have h2 := CA.mid; omega)))
        have RU := rd_fromT (Rd.own OM) (fun y hy => SAME y.block (by have h := OM.ge y.block (by subst hy; rfl); have h1 := HB1.out; have h2 := hy5.out; omega))
        have BEL := Below.row CA.bw (Nat.le_refl _) #[.slice p1 x.1.length q1, .int .i64 x.2.1, .slice (some ⟨b3, o3, none⟩) x.2.2.1.length q3, .slice p4 x.2.2.2.1.length q4, .slice p5 x.2.2.2.2.length q5]
        have c0 := (RA.cell 0).trans (show _ = some _ from rfl)
        have c1 := (RA.cell 1).trans (show _ = some _ from rfl)
        have c2 := (RA.cell 2).trans (show _ = some _ from rfl)
        have c3 := (RA.cell 3).trans (show _ = some _ from rfl)
        have c4 := (RA.cell 4).trans (show _ = some _ from rfl)
        have R := CA.R
        generalize e6 : w12.setRow w.heap.size #[.slice p1 x.1.length q1, .int .i64 x.2.1, .slice (some ⟨b3, o3, none⟩) x.2.2.1.length q3, .slice p4 x.2.2.2.1.length q4, .slice p5 x.2.2.2.2.length q5] = ZW at *
        clear SAME SM RDS RCS CXS CL OS CA RA OM AC HS HCX
        go_wp2_with (first | (refine wpList_store_row rfl 27 _ _ rfl w.heap.size #[.slice p1 x.1.length q1, .int .i64 x.2.1, .slice (some ⟨b3, o3, none⟩) x.2.2.1.length q3, .slice p4 x.2.2.2.1.length q4, .slice p5 x.2.2.2.2.length q5] rfl rfl 27 #[.slice none 0 0, .int .i64 0, .slice none 0 0, .slice none 0 0, .slice none 0 0] R hres.out rfl (by simp [Value.oneCell']) ?_; rw [e6]) | exact bodyPost_ret (v := .tuple #[.agg #[.slice p1 x.1.length q1, .int .i64 x.2.1, .slice (some ⟨b3, o3, none⟩) x.2.2.1.length q3, .slice p4 x.2.2.2.1.length q4, .slice p5 x.2.2.2.2.length q5], .slice (some ⟨b0, o0, none⟩) l.length qc, .slice (some ⟨g6, 0, none⟩) (s.length + 1) c6, .int .i64 now, .slice pd d.length qd]) (by simp [results, Tryz.results8, go_sem, c0, c1, c2, c3, c4]) rfl ⟨x, [.slice p1 x.1.length q1, .int .i64 x.2.1, .slice (some ⟨b3, o3, none⟩) x.2.2.1.length q3, .slice p4 x.2.2.2.1.length q4, .slice p5 x.2.2.2.2.length q5], l, (s ++ [((c.1, c.2.1, dg) : SignD)]), now, d, (some ⟨b0, o0, none⟩), (some ⟨g6, 0, none⟩), pd, qc, c6, qd, by rw [HLN.out], RP, RC, RS, RU, HDD.out, HNOW.out, BEL⟩)
      obtain ⟨gd, e4⟩ : ∃ gd, pd = some ⟨gd, 0, none⟩ := by
        rcases OM.2 with ⟨e, hz⟩ | ⟨gd, cap, cur, e, -⟩
        · have := HDL.out.1; omega
        · simp at e; exact ⟨gd, e.1⟩
      subst e4
      have hgd : Hid (Y.heap.size ≤ gd) := OM.ge gd rfl
      have hqd := (Rd.own OM).1
      have hqd2 : qd ≤ 2 ^ 63 - 1 := (Rd.own OM).2.1
      go_wp2_with fail
      refine (l1Next_c (w.heap.size + 1) p q cs (((t3 + 1 + 1) + 1) + 1) (d.length : Int) w12 HS (by have := hT.out; omega) (by have := hT.out; omega) (by have := HDL.out; omega) (by have := HDL.out; omega)).mono ?_
      rintro e w13 ⟨i2, rfl, hi0, hi1, HS2, hg⟩
      replace OM := OM.draw hg (by have h1 := HB1.out; have h2 := hy5.out; omega)
      replace CA := CA.draw hg
      replace OS := OS.drawC hg HB1.out
      replace AC := AC.other hg (fun e => by have h := Option.some.inj e; have h1 := zgc.out; have h2 := HB1.out; omega)
      have HS := HS2
      clear hg HS2
      obtain ⟨i2, rfl⟩ := Int.eq_ofNat_of_zero_le hi0
      have hil : i2 < d.length := by omega
      have k5 : w13.ownsRow Y.heap.size 5 1 (.slice (some ⟨gd, 0, none⟩) d.length qd) d.length (d.map u8v) := OM
      have cx := World.ownsRow.cellAt k5 i2 (by omega)
      rw [u8v_at hil] at cx
      have fx := World.ownsRow.frozenAt k5 i2
      have R2 := (World.ownsRow.stored k5 i2 (u8v (d.getD i2 0 ^^^ 1))).1
      have hR : Own (w13.setCell ⟨gd, i2, none⟩ (u8v (d.getD i2 0 ^^^ 1))) Y.heap.size (.slice (some ⟨gd, 0, none⟩) d.length qd) (d.set i2 (d.getD i2 0 ^^^ 1)) := by unfold Own; rw [List.length_set, List.map_set]; exact R2
      unfold at8 at cx
      generalize d.getD i2 0 = y at *
      have hset : u8v (y ^^^ 1) = .int .u8 ((y.toNat ^^^ 1 : Nat) : Int) := by unfold u8v; rw [UInt8.toNat_xor]; rfl
      have hxo : bits .xor .u8 (y.toNat : Int) 1 = ((y.toNat ^^^ 1 : Nat) : Int) := (u8_xor8 y 1).trans (by rw [UInt8.toNat_xor]; rfl)
      rw [hset] at hR
      have hgs := grownBy_set w13 gd i2 (.int .u8 ((y.toNat ^^^ 1 : Nat) : Int))
      replace CA := CA.other hgs (fun k hk => by have h := Option.some.inj hk; have h1 := hgd.out; have h2 := hy5.out; omega)
      replace OS := OS.other (Only.grown hgs) (fun k hk e => by have h1 := (HYB.out k hk).2; have h2 := hgd.out; have h3 := List.mem_singleton.1 e; omega)
      have HLS : Hid ((d.set i2 (y ^^^ 1)).length = d.length) := List.length_set ..
      generalize d.set i2 (y ^^^ 1) = d2 at *
      clear k5 R2 hset hgs OM AC HS HCX
      have RU1 := Rd.own hR
      have a0 := ((CXS.out (w13.setCell ⟨gd, i2, none⟩ (.int .u8 ((y.toNat ^^^ 1 : Nat) : Int))) CA.same).cell 0).trans (show _ = some _ from rfl)
      have a1 := ((CXS.out (w13.setCell ⟨gd, i2, none⟩ (.int .u8 ((y.toNat ^^^ 1 : Nat) : Int))) CA.same).cell 1).trans (show _ = some _ from rfl)
      have a2 := ((CXS.out (w13.setCell ⟨gd, i2, none⟩ (.int .u8 ((y.toNat ^^^ 1 : Nat) : Int))) CA.same).cell 2).trans (show _ = some _ from rfl)
      have a3 := ((CXS.out (w13.setCell ⟨gd, i2, none⟩ (.int .u8 ((y.toNat ^^^ 1 : Nat) : Int))) CA.same).cell 3).trans (show _ = some _ from rfl)
      have a4 := ((CXS.out (w13.setCell ⟨gd, i2, none⟩ (.int .u8 ((y.toNat ^^^ 1 : Nat) : Int))) CA.same).cell 4).trans (show _ = some _ from rfl)
      have RA := CA.R.row [.slice p1 x.1.length q1, .int .i64 x.2.1, .slice (some ⟨b3, o3, none⟩) x.2.2.1.length q3, .slice p4 x.2.2.2.1.length q4, .slice p5 x.2.2.2.2.length q5]
      have SAME : ∀ k, w.heap.size < k → ((w13.setCell ⟨gd, i2, none⟩ (.int .u8 ((y.toNat ^^^ 1 : Nat) : Int))).setRow w.heap.size #[.slice p1 x.1.length q1, .int .i64 x.2.1, .slice (some ⟨b3, o3, none⟩) x.2.2.1.length q3, .slice p4 x.2.2.2.1.length q4, .slice p5 x.2.2.2.2.length q5]).heap[k]? = (w13.setCell ⟨gd, i2, none⟩ (.int .u8 ((y.toNat ^^^ 1 : Nat) : Int))).heap[k]? := fun k hk => setRow_other (w13.setCell ⟨gd, i2, none⟩ (.int .u8 ((y.toNat ^^^ 1 : Nat) : Int))) w.heap.size k #[.slice p1 x.1.length q1, .int .i64 x.2.1, .slice (some ⟨b3, o3, none⟩) x.2.2.1.length q3, .slice p4 x.2.2.2.1.length q4, .slice p5 x.2.2.2.2.length q5] (by omega)
      have SM : ∀ k, w1.heap.size ≤ k → k < w5.heap.size → ((w13.setCell ⟨gd, i2, none⟩ (.int .u8 ((y.toNat ^^^ 1 : Nat) : Int))).setRow w.heap.size #[.slice p1 x.1.length q1, .int .i64 x.2.1, .slice (some ⟨b3, o3, none⟩) x.2.2.1.length q3, .slice p4 x.2.2.2.1.length q4, .slice p5 x.2.2.2.2.length q5]).heap[k]? = w5.heap[k]? := fun k h1 h2 => (SAME k (by have h := z1.out; omega)).trans (CA.same k h1 h2)
      have RP := CL _ SM
      have RC := RCS.out _ SM
      have RS := RdL.own (OS.fr (fun k hk => SAME k (by have h := (OS.ins k hk).1; have h1 := CA.low; have h2 := CA.mid; omega)))
      have RU := rd_fromT RU1 (fun y hy => SAME y.block (by have h := hR.ge y.block (by cases hy; rfl); have h1 := HB1.out; have h2 := hy5.out; omega))
      have BEL := Below.row CA.bw (Nat.le_refl _) #[.slice p1 x.1.length q1, .int .i64 x.2.1, .slice (some ⟨b3, o3, none⟩) x.2.2.1.length q3, .slice p4 x.2.2.2.1.length q4, .slice p5 x.2.2.2.2.length q5]
      have c0 := (RA.cell 0).trans (show _ = some _ from rfl)
      have c1 := (RA.cell 1).trans (show _ = some _ from rfl)
      have c2 := (RA.cell 2).trans (show _ = some _ from rfl)
      have c3 := (RA.cell 3).trans (show _ = some _ from rfl)
      have c4 := (RA.cell 4).trans (show _ = some _ from rfl)
      have R := CA.R
      generalize e6 : (w13.setCell ⟨gd, i2, none⟩ (.int .u8 ((y.toNat ^^^ 1 : Nat) : Int))).setRow w.heap.size #[.slice p1 x.1.length q1, .int .i64 x.2.1, .slice (some ⟨b3, o3, none⟩) x.2.2.1.length q3, .slice p4 x.2.2.2.1.length q4, .slice p5 x.2.2.2.2.length q5] = ZW at *
      clear SAME SM RDS RCS CXS CL OS CA RA hR RU1
      go_wp2_with (first | (refine wpList_store_row rfl 27 _ _ rfl w.heap.size #[.slice p1 x.1.length q1, .int .i64 x.2.1, .slice (some ⟨b3, o3, none⟩) x.2.2.1.length q3, .slice p4 x.2.2.2.1.length q4, .slice p5 x.2.2.2.2.length q5] rfl rfl 27 #[.slice none 0 0, .int .i64 0, .slice none 0 0, .slice none 0 0, .slice none 0 0] R hres.out rfl (by simp [Value.oneCell']) ?_; rw [e6]) | exact bodyPost_ret (v := .tuple #[.agg #[.slice p1 x.1.length q1, .int .i64 x.2.1, .slice (some ⟨b3, o3, none⟩) x.2.2.1.length q3, .slice p4 x.2.2.2.1.length q4, .slice p5 x.2.2.2.2.length q5], .slice (some ⟨b0, o0, none⟩) l.length qc, .slice (some ⟨g6, 0, none⟩) (s.length + 1) c6, .int .i64 now, .slice (some ⟨gd, 0, none⟩) d.length qd]) (by simp [results, Tryz.results8, go_sem, c0, c1, c2, c3, c4]) rfl ⟨x, [.slice p1 x.1.length q1, .int .i64 x.2.1, .slice (some ⟨b3, o3, none⟩) x.2.2.1.length q3, .slice p4 x.2.2.2.1.length q4, .slice p5 x.2.2.2.2.length q5], l, (s ++ [((c.1, c.2.1, dg) : SignD)]), now, d2, (some ⟨b0, o0, none⟩), (some ⟨g6, 0, none⟩), (some ⟨gd, 0, none⟩), qc, c6, qd, by rw [HLN.out, HLS.out], RP, RC, RS, RU, HDD.out, HNOW.out, BEL⟩)
    case true =>
      have a1 := ((CXS.out Wa CA.same).cell 1).trans (show _ = some _ from rfl)
      go_wp2_with fail
      obtain ⟨i1, hi1, hy0, hy1, hy2⟩ := info_parts infoSign
      obtain ⟨F, HF⟩ : ∃ F, Hid ((Value.slice ps s.length qs).ownBlock.toList = F) := ⟨_, rfl⟩
      have HFl : Hid (∀ k, k ∈ F → w5.heap.size ≤ k ∧ k < gc) := fun k hk => by rw [← HF.out] at hk; have h := OSB.out k (List.mem_append_left _ hk); have h1 := ZG.out; exact ⟨h.1, by omega⟩
      have hnc : gc ∉ F := fun h => Nat.lt_irrefl _ (HFl.out gc h).2
      have hnx : gx ∉ F := fun h => by have h1 := (HFl.out gx h).1; have h2 := XGE.out.2; omega
      have m0 := GenS.only_cell (fp := F) ((AC.cell 0).trans (show _ = some _ from rfl)) hnc
      have m1 := GenS.only_cell (fp := F) ((AC.cell 1).trans (show _ = some _ from rfl)) hnc
      have mx := GenS.only_cell (fp := F) (((CXS.out Wa CA.same).cell 0).trans (show _ = some _ from rfl)) hnx
      have hne := GenS.only_some F Wa
      refine GenS.wp_region_pick (GenS.only_pre F) [0, 1, 2, 3, 4, 5, 6, 7, 8] 13 4 1 rfl rfl rfl (by kernel_rfl) (by kernel_rfl) (by kernel_rfl) (by kernel_rfl) ?_
      simp only [opsAt, List.getElem?_toArray, List.getElem?_cons_zero, List.getElem?_cons_succ]
      repeat (go_big_quiet_step (fail))
      refine wpQuiet_nil ?_
      clear m0 m1 mx hne
      refine GenS.wpM_only (i := 9) (by kernel_rfl) ?_
      refine GenS.mOp_call rfl (by go_simp) 33 _ #[.slice p1 x.1.length q1, .int .i64 x.2.1, .slice pt ctx.length qt, .pointer (some ⟨gc, 0, none⟩)] (fun w => by go_simp) rfl ?_
      rintro _ ⟨n1, rfl⟩
      have D1 : Below Wa.heap.size Wa (Wa.drewN n1) := ⟨rfl, rfl, rfl, Nat.le_refl _, fun _ _ => rfl⟩
      replace CA := CA.stay D1
      replace OS := OS.stay D1
      replace AC := AC.stay D1
      replace HS := HS.keep D1
      clear D1
      generalize Wa.drewN n1 = U1 at *
      refine (l13Digest_c p1 pt q1 qt gc 0 x.1 ctx x.2.1 c U1 (RDS.out U1 CA.same).1 (HCX.out U1 CA.same) ((AC.cell 0).trans rfl) ((AC.cell 1).trans rfl) ((AC.cell 2).trans rfl) (by have := HX32.out; omega) HC20.out hoc.out).mono ?_
      rintro e wd ⟨u, rfl, OD, hb⟩
      have H32 : Hid ((dgN x.1 x.2.1 ctx c).length = 32) := dgN_len _ _ _ _
      generalize dgN x.1 x.2.1 ctx c = dg at *
      obtain ⟨pu, qu, rfl, -⟩ := OD.rd
      have HDge : Hid (∀ k, (Value.slice pu dg.length qu).ownBlock = some k → gc < k) := fun k hk => Nat.lt_of_lt_of_le AC.lt (OD.ge k hk)
      refine ⟨_, rfl, ⟨⟨wd, Only.below hb⟩, rfl⟩, ?_⟩
      replace OD := OD.lower (show w5.heap.size ≤ U1.heap.size from CA.size)
      replace CA := CA.stay hb
      replace OS := OS.stay hb
      replace AC := AC.stay hb
      replace HS := HS.keep hb
      clear hb
      have hne := GenS.only_some F wd
      refine GenS.wpM_more (GenS.only_pre F) [10] 3 2 rfl (by kernel_rfl) (by kernel_rfl) (by kernel_rfl) (by kernel_rfl) ?_
      simp only [opsAt, List.getElem?_toArray, List.getElem?_cons_zero, List.getElem?_cons_succ]
      go_simp
      repeat (go_big_quiet_step (fail))
      refine wpQuiet_nil ?_
      clear hne
      refine GenS.wpM_only (i := 11) (by kernel_rfl) ?_
      refine GenS.mOp_make rfl (by go_simp) ?_
      rintro _ ⟨n4, rfl⟩
      refine ⟨.slice (some ⟨(wd.drewN n4).heap.size, 0, none⟩) 1 1, (wd.drewN n4).alloc (.cells #[.int .i64 c.1, .int .i64 c.2.1, .slice pu dg.length qu] 67), by go_simp, ⟨⟨_, Only.below (alloc_below _ _)⟩, rfl⟩, ?_⟩
      have D4 : Below wd.heap.size wd ((wd.drewN n4).alloc (.cells #[.int .i64 c.1, .int .i64 c.2.1, .slice pu dg.length qu] 67)) := Below.step (show Below wd.heap.size wd (wd.drewN n4) from ⟨rfl, rfl, rfl, Nat.le_refl _, fun _ _ => rfl⟩) (alloc_below _ _)
      have A4 := Arr.new (wd.drewN n4) [.int .i64 c.1, .int .i64 c.2.1, .slice pu dg.length qu] 67
      replace CA := CA.stay D4
      replace OS := OS.stay D4
      replace AC := AC.stay D4
      replace HS := HS.keep D4
      replace OD := OD.stay D4
      generalize (wd.drewN n4).alloc (.cells #[.int .i64 c.1, .int .i64 c.2.1, .slice pu dg.length qu] 67) = U4 at *
      generalize (wd.drewN n4).heap.size = g4 at *
      clear D4
      refine GenS.wpM_only (i := 12) (by kernel_rfl) ?_
      refine GenS.mOp_list rfl (by go_simp) (by kernel_rfl) ?_
      rintro _ ⟨n5, rfl⟩
      have D5 : Below U4.heap.size U4 (U4.drewN n5) := ⟨rfl, rfl, rfl, Nat.le_refl _, fun _ _ => rfl⟩
      replace A4 := A4.stay D5
      replace OD := OD.stay D5
      replace CA := CA.stay D5
      replace OS := OS.stay D5
      replace AC := AC.stay D5
      replace HS := HS.keep D5
      clear D5
      generalize U4.drewN n5 = U5 at *
      have hnew : ∀ j u, ([.int .i64 c.1, .int .i64 c.2.1, .slice pu dg.length qu] : List Value)[j]? = some u → U5.cell? ((⟨g4, 0, none⟩ : Addr).add j) = some u := fun j u hj => A4.cells j u hj
      have hB5 : w5.heap.size ≤ U5.heap.size := CA.size
      have HRO : Hid _ := OS.row
      have hs40 : s.length ≤ 10000 := by have := HS40.out; omega
      refine wpList_append_lies _ rfl (.tmp 88) (.tmp 99) 34 rfl w5.heap.size 67 i1 (.agg #[.int .i64 0, .int .i64 0, .slice none 0 0]) 3 40 Tryz.underlying34 hi1 hy0 hy1 hy2 rfl (by decide) (.slice ps s.length qs) s.length xs rfl HRO.out ⟨g4, 0, none⟩ 1 1 [.int .i64 c.1, .int .i64 c.2.1, .slice pu dg.length qu] rfl rfl hnew (by intro u hu; simp at hu; rcases hu with rfl | rfl | rfl <;> rfl) (by decide) (by unfold maxLen; omega) (by omega) hB5 _ rfl ?_
      intro g6 c6 w6x hown6 hgrow6 hat6 hlt6
      refine ⟨rfl, by rw [← HF.out]; exact Only.grown hgrow6, ?_⟩
      have ON := OS.push (a := ((c.1, c.2.1, dg) : SignD)) (sign_own_mk (a := ((c.1, c.2.1, dg) : SignD)) (OD : Own U5 w5.heap.size (.slice pu dg.length qu) dg)) (fun j hj hj2 => by
        have h1 := HDge.out j (mem_opt.1 hj)
        have h2 := (OSB.out j hj2).2
        have h3 := ZG.out
        omega) (k := s.length + 1) (v' := .slice (some ⟨g6, 0, none⟩) (s.length + 1) c6) (g := g6) hown6 (by simp) hgrow6 rfl hat6
      have hsb : ∀ k, (Value.slice ps s.length qs).ownBlock = some k → w5.heap.size ≤ k ∧ k < gc := fun k hk => HFl.out k (by rw [← HF.out]; exact mem_opt.2 hk)
      replace CA := CA.other hgrow6 (fun k hk => (hsb k hk).1)
      replace AC := AC.other hgrow6 (fun e => by have h1 := (hsb gc e).2; omega)
      replace HS := HS.other hgrow6 (fun k hk => by have h1 := (hsb k hk).1; have h2 := HB1.out; omega)
      clear hown6 hat6 hlt6 HRO hnew A4 OS OD hgrow6 hsb hnc hnx HF HFl hi1 hy0 hy1 hy2 hs40 hB5 H32
      refine GenS.wpM_end (by kernel_rfl) rfl (by kernel_rfl) (by decide) ?_
      rintro _ ⟨n6, rfl⟩
      have D6 : Below w6x.heap.size w6x (w6x.drewN n6) := ⟨rfl, rfl, rfl, Nat.le_refl _, fun _ _ => rfl⟩
      simp only [List.drop_succ_cons, List.drop_zero]
      have OS := ON
      clear ON
      replace CA := CA.stay D6
      replace OS := OS.stay D6
      replace AC := AC.stay D6
      replace HS := HS.keep D6
      clear D6
      generalize w6x.drewN n6 = Y at *
      have HYB : Hid (∀ k, k ∈ (Value.slice (some ⟨g6, 0, none⟩) (s.length + 1) c6).ownBlock.toList ++ (fp ++ (Value.slice pu dg.length qu).ownBlock.toList) → w5.heap.size ≤ k ∧ k < Y.heap.size) := fun k hk => OS.ins k hk
      have HLN : Hid ((s ++ [((c.1, c.2.1, dg) : SignD)]).length = s.length + 1) := by show _ = _; simp
      have hy5 : Hid (w5.heap.size ≤ Y.heap.size) := CA.size
      have a0 := ((CXS.out Y CA.same).cell 0).trans (show _ = some _ from rfl)
      go_wp2_with fail
      refine (l13Make_c p1 pt q1 qt gc 0 x.1 ctx x.2.1 c (s.length : Int) Y (RDS.out Y CA.same).1 (HCX.out Y CA.same) ((AC.cell 0).trans rfl) ((AC.cell 1).trans rfl) ((AC.cell 2).trans rfl) (by have := HX32.out; omega) HC20.out hoc.out (by omega) (by have := HS40.out; omega)).mono ?_
      rintro e w11 ⟨u, rfl, OM, hb⟩
      have hml := mkN_len x.1 x.2.1 ctx c (s.length : Int)
      generalize mkN x.1 x.2.1 ctx c (s.length : Int) = d at *
      obtain ⟨pd, qd, rfl, -⟩ := OM.rd
      have HDL : Hid (1 ≤ d.length ∧ d.length ≤ 100) := by have := HC20.out; rw [hml]; exact ⟨by omega, by omega⟩
      clear a0 hml
      replace CA := CA.stay hb
      replace OS := OS.stay hb
      replace AC := AC.stay hb
      replace HS := HS.keep hb
      clear hb
      go_wp2_with fail
      refine (l1Chance_c (w.heap.size + 1) p q cs ((t3 + 1 + 1) + 1) 8 w11 HS (by have := hT.out; omega) (by have := hT.out; omega) (by omega) (by omega)).mono ?_
      rintro e w12 ⟨rb, rfl, HS2, hg⟩
      replace OM := OM.draw hg (by have h1 := HB1.out; have h2 := hy5.out; omega)
      replace CA := CA.draw hg
      replace OS := OS.drawC hg HB1.out
      replace AC := AC.other hg (fun e => by have h := Option.some.inj e; have h1 := zgc.out; have h2 := HB1.out; omega)
      have HS := HS2
      clear hg HS2
      cases rb
      case false =>
        have a0 := ((CXS.out w12 CA.same).cell 0).trans (show _ = some _ from rfl)
        have a1 := ((CXS.out w12 CA.same).cell 1).trans (show _ = some _ from rfl)
        have a2 := ((CXS.out w12 CA.same).cell 2).trans (show _ = some _ from rfl)
        have a3 := ((CXS.out w12 CA.same).cell 3).trans (show _ = some _ from rfl)
        have a4 := ((CXS.out w12 CA.same).cell 4).trans (show _ = some _ from rfl)
        have RA := CA.R.row [.slice p1 x.1.length q1, .int .i64 x.2.1, .slice (some ⟨b3, o3, none⟩) x.2.2.1.length q3, .slice p4 x.2.2.2.1.length q4, .slice p5 x.2.2.2.2.length q5]
        have SAME : ∀ k, w.heap.size < k → (w12.setRow w.heap.size #[.slice p1 x.1.length q1, .int .i64 x.2.1, .slice (some ⟨b3, o3, none⟩) x.2.2.1.length q3, .slice p4 x.2.2.2.1.length q4, .slice p5 x.2.2.2.2.length q5]).heap[k]? = w12.heap[k]? := fun k hk => setRow_other w12 w.heap.size k #[.slice p1 x.1.length q1, .int .i64 x.2.1, .slice (some ⟨b3, o3, none⟩) x.2.2.1.length q3, .slice p4 x.2.2.2.1.length q4, .slice p5 x.2.2.2.2.length q5] (by omega)
        have SM : ∀ k, w1.heap.size ≤ k → k < w5.heap.size → (w12.setRow w.heap.size #[.slice p1 x.1.length q1, .int .i64 x.2.1, .slice (some ⟨b3, o3, none⟩) x.2.2.1.length q3, .slice p4 x.2.2.2.1.length q4, .slice p5 x.2.2.2.2.length q5]).heap[k]? = w5.heap[k]? := fun k h1 h2 => (SAME k (by have h := z1.out; omega)).trans (CA.same k h1 h2)
        have RP := CL _ SM
        have RC := RCS.out _ SM
        have RS := RdL.own (OS.fr (fun k hk => SAME k (by have h := (OS.ins k hk).1; have h1 := CA.low; have h2 := CA.mid; omega)))
        have RU := rd_fromT (Rd.own OM) (fun y hy => SAME y.block (by have h := OM.ge y.block (by subst hy; rfl); have h1 := HB1.out; have h2 := hy5.out; omega))
        have BEL := Below.row CA.bw (Nat.le_refl _) #[.slice p1 x.1.length q1, .int .i64 x.2.1, .slice (some ⟨b3, o3, none⟩) x.2.2.1.length q3, .slice p4 x.2.2.2.1.length q4, .slice p5 x.2.2.2.2.length q5]
        have c0 := (RA.cell 0).trans (show _ = some _ from rfl)
        have c1 := (RA.cell 1).trans (show _ = some _ from rfl)
        have c2 := (RA.cell 2).trans (show _ = some _ from rfl)
        have c3 := (RA.cell 3).trans (show _ = some _ from rfl)
        have c4 := (RA.cell 4).trans (show _ = some _ from rfl)
        have R := CA.R
        generalize e6 : w12.setRow w.heap.size #[.slice p1 x.1.length q1, .int .i64 x.2.1, .slice (some ⟨b3, o3, none⟩) x.2.2.1.length q3, .slice p4 x.2.2.2.1.length q4, .slice p5 x.2.2.2.2.length q5] = ZW at *
        clear SAME SM RDS RCS CXS CL OS CA RA OM AC HS HCX
        go_wp2_with (first | (refine wpList_store_row rfl 27 _ _ rfl w.heap.size #[.slice p1 x.1.length q1, .int .i64 x.2.1, .slice (some ⟨b3, o3, none⟩) x.2.2.1.length q3, .slice p4 x.2.2.2.1.length q4, .slice p5 x.2.2.2.2.length q5] rfl rfl 27 #[.slice none 0 0, .int .i64 0, .slice none 0 0, .slice none 0 0, .slice none 0 0] R hres.out rfl (by simp [Value.oneCell']) ?_; rw [e6]) | exact bodyPost_ret (v := .tuple #[.agg #[.slice p1 x.1.length q1, .int .i64 x.2.1, .slice (some ⟨b3, o3, none⟩) x.2.2.1.length q3, .slice p4 x.2.2.2.1.length q4, .slice p5 x.2.2.2.2.length q5], .slice (some ⟨b0, o0, none⟩) l.length qc, .slice (some ⟨g6, 0, none⟩) (s.length + 1) c6, .int .i64 now, .slice pd d.length qd]) (by simp [results, Tryz.results8, go_sem, c0, c1, c2, c3, c4]) rfl ⟨x, [.slice p1 x.1.length q1, .int .i64 x.2.1, .slice (some ⟨b3, o3, none⟩) x.2.2.1.length q3, .slice p4 x.2.2.2.1.length q4, .slice p5 x.2.2.2.2.length q5], l, (s ++ [((c.1, c.2.1, dg) : SignD)]), now, d, (some ⟨b0, o0, none⟩), (some ⟨g6, 0, none⟩), pd, qc, c6, qd, by rw [HLN.out], RP, RC, RS, RU, HDD.out, HNOW.out, BEL⟩)
      obtain ⟨gd, e4⟩ : ∃ gd, pd = some ⟨gd, 0, none⟩ := by
        rcases OM.2 with ⟨e, hz⟩ | ⟨gd, cap, cur, e, -⟩
        · have := HDL.out.1; omega
        · simp at e; exact ⟨gd, e.1⟩
      subst e4
      have hgd : Hid (Y.heap.size ≤ gd) := OM.ge gd rfl
      have hqd := (Rd.own OM).1
      have hqd2 : qd ≤ 2 ^ 63 - 1 := (Rd.own OM).2.1
      go_wp2_with fail
      refine (l1Next_c (w.heap.size + 1) p q cs (((t3 + 1 + 1) + 1) + 1) (d.length : Int) w12 HS (by have := hT.out; omega) (by have := hT.out; omega) (by have := HDL.out; omega) (by have := HDL.out; omega)).mono ?_
      rintro e w13 ⟨i2, rfl, hi0, hi1, HS2, hg⟩
      replace OM := OM.draw hg (by have h1 := HB1.out; have h2 := hy5.out; omega)
      replace CA := CA.draw hg
      replace OS := OS.drawC hg HB1.out
      replace AC := AC.other hg (fun e => by have h := Option.some.inj e; have h1 := zgc.out; have h2 := HB1.out; omega)
      have HS := HS2
      clear hg HS2
      obtain ⟨i2, rfl⟩ := Int.eq_ofNat_of_zero_le hi0
      have hil : i2 < d.length := by omega
      have k5 : w13.ownsRow Y.heap.size 5 1 (.slice (some ⟨gd, 0, none⟩) d.length qd) d.length (d.map u8v) := OM
      have cx := World.ownsRow.cellAt k5 i2 (by omega)
      rw [u8v_at hil] at cx
      have fx := World.ownsRow.frozenAt k5 i2
      have R2 := (World.ownsRow.stored k5 i2 (u8v (d.getD i2 0 ^^^ 1))).1
      have hR : Own (w13.setCell ⟨gd, i2, none⟩ (u8v (d.getD i2 0 ^^^ 1))) Y.heap.size (.slice (some ⟨gd, 0, none⟩) d.length qd) (d.set i2 (d.getD i2 0 ^^^ 1)) := by unfold Own; rw [List.length_set, List.map_set]; exact R2
      unfold at8 at cx
      generalize d.getD i2 0 = y at *
      have hset : u8v (y ^^^ 1) = .int .u8 ((y.toNat ^^^ 1 : Nat) : Int) := by unfold u8v; rw [UInt8.toNat_xor]; rfl
      have hxo : bits .xor .u8 (y.toNat : Int) 1 = ((y.toNat ^^^ 1 : Nat) : Int) := (u8_xor8 y 1).trans (by rw [UInt8.toNat_xor]; rfl)
      rw [hset] at hR
      have hgs := grownBy_set w13 gd i2 (.int .u8 ((y.toNat ^^^ 1 : Nat) : Int))
      replace CA := CA.other hgs (fun k hk => by have h := Option.some.inj hk; have h1 := hgd.out; have h2 := hy5.out; omega)
      replace OS := OS.other (Only.grown hgs) (fun k hk e => by have h1 := (HYB.out k hk).2; have h2 := hgd.out; have h3 := List.mem_singleton.1 e; omega)
      have HLS : Hid ((d.set i2 (y ^^^ 1)).length = d.length) := List.length_set ..
      generalize d.set i2 (y ^^^ 1) = d2 at *
      clear k5 R2 hset hgs OM AC HS HCX
      have RU1 := Rd.own hR
      have a0 := ((CXS.out (w13.setCell ⟨gd, i2, none⟩ (.int .u8 ((y.toNat ^^^ 1 : Nat) : Int))) CA.same).cell 0).trans (show _ = some _ from rfl)
      have a1 := ((CXS.out (w13.setCell ⟨gd, i2, none⟩ (.int .u8 ((y.toNat ^^^ 1 : Nat) : Int))) CA.same).cell 1).trans (show _ = some _ from rfl)
      have a2 := ((CXS.out (w13.setCell ⟨gd, i2, none⟩ (.int .u8 ((y.toNat ^^^ 1 : Nat) : Int))) CA.same).cell 2).trans (show _ = some _ from rfl)
      have a3 := ((CXS.out (w13.setCell ⟨gd, i2, none⟩ (.int .u8 ((y.toNat ^^^ 1 : Nat) : Int))) CA.same).cell 3).trans (show _ = some _ from rfl)
      have a4 := ((CXS.out (w13.setCell ⟨gd, i2, none⟩ (.int .u8 ((y.toNat ^^^ 1 : Nat) : Int))) CA.same).cell 4).trans (show _ = some _ from rfl)
      have RA := CA.R.row [.slice p1 x.1.length q1, .int .i64 x.2.1, .slice (some ⟨b3, o3, none⟩) x.2.2.1.length q3, .slice p4 x.2.2.2.1.length q4, .slice p5 x.2.2.2.2.length q5]
      have SAME : ∀ k, w.heap.size < k → ((w13.setCell ⟨gd, i2, none⟩ (.int .u8 ((y.toNat ^^^ 1 : Nat) : Int))).setRow w.heap.size #[.slice p1 x.1.length q1, .int .i64 x.2.1, .slice (some ⟨b3, o3, none⟩) x.2.2.1.length q3, .slice p4 x.2.2.2.1.length q4, .slice p5 x.2.2.2.2.length q5]).heap[k]? = (w13.setCell ⟨gd, i2, none⟩ (.int .u8 ((y.toNat ^^^ 1 : Nat) : Int))).heap[k]? := fun k hk => setRow_other (w13.setCell ⟨gd, i2, none⟩ (.int .u8 ((y.toNat ^^^ 1 : Nat) : Int))) w.heap.size k #[.slice p1 x.1.length q1, .int .i64 x.2.1, .slice (some ⟨b3, o3, none⟩) x.2.2.1.length q3, .slice p4 x.2.2.2.1.length q4, .slice p5 x.2.2.2.2.length q5] (by omega)
      have SM : ∀ k, w1.heap.size ≤ k → k < w5.heap.size → ((w13.setCell ⟨gd, i2, none⟩ (.int .u8 ((y.toNat ^^^ 1 : Nat) : Int))).setRow w.heap.size #[.slice p1 x.1.length q1, .int .i64 x.2.1, .slice (some ⟨b3, o3, none⟩) x.2.2.1.length q3, .slice p4 x.2.2.2.1.length q4, .slice p5 x.2.2.2.2.length q5]).heap[k]? = w5.heap[k]? := fun k h1 h2 => (SAME k (by have h := z1.out; omega)).trans (CA.same k h1 h2)
      have RP := CL _ SM
      have RC := RCS.out _ SM
      have RS := RdL.own (OS.fr (fun k hk => SAME k (by have h := (OS.ins k hk).1; have h1 := CA.low; have h2 := CA.mid; omega)))
      have RU := rd_fromT RU1 (fun y hy => SAME y.block (by have h := hR.ge y.block (by cases hy; rfl); have h1 := HB1.out; have h2 := hy5.out; omega))
      have BEL := Below.row CA.bw (Nat.le_refl _) #[.slice p1 x.1.length q1, .int .i64 x.2.1, .slice (some ⟨b3, o3, none⟩) x.2.2.1.length q3, .slice p4 x.2.2.2.1.length q4, .slice p5 x.2.2.2.2.length q5]
      have c0 := (RA.cell 0).trans (show _ = some _ from rfl)
      have c1 := (RA.cell 1).trans (show _ = some _ from rfl)
      have c2 := (RA.cell 2).trans (show _ = some _ from rfl)
      have c3 := (RA.cell 3).trans (show _ = some _ from rfl)
      have c4 := (RA.cell 4).trans (show _ = some _ from rfl)
      have R := CA.R
      generalize e6 : (w13.setCell ⟨gd, i2, none⟩ (.int .u8 ((y.toNat ^^^ 1 : Nat) : Int))).setRow w.heap.size #[.slice p1 x.1.length q1, .int .i64 x.2.1, .slice (some ⟨b3, o3, none⟩) x.2.2.1.length q3, .slice p4 x.2.2.2.1.length q4, .slice p5 x.2.2.2.2.length q5] = ZW at *
      clear SAME SM RDS RCS CXS CL OS CA RA hR RU1
      go_wp2_with (first | (refine wpList_store_row rfl 27 _ _ rfl w.heap.size #[.slice p1 x.1.length q1, .int .i64 x.2.1, .slice (some ⟨b3, o3, none⟩) x.2.2.1.length q3, .slice p4 x.2.2.2.1.length q4, .slice p5 x.2.2.2.2.length q5] rfl rfl 27 #[.slice none 0 0, .int .i64 0, .slice none 0 0, .slice none 0 0, .slice none 0 0] R hres.out rfl (by simp [Value.oneCell']) ?_; rw [e6]) | exact bodyPost_ret (v := .tuple #[.agg #[.slice p1 x.1.length q1, .int .i64 x.2.1, .slice (some ⟨b3, o3, none⟩) x.2.2.1.length q3, .slice p4 x.2.2.2.1.length q4, .slice p5 x.2.2.2.2.length q5], .slice (some ⟨b0, o0, none⟩) l.length qc, .slice (some ⟨g6, 0, none⟩) (s.length + 1) c6, .int .i64 now, .slice (some ⟨gd, 0, none⟩) d.length qd]) (by simp [results, Tryz.results8, go_sem, c0, c1, c2, c3, c4]) rfl ⟨x, [.slice p1 x.1.length q1, .int .i64 x.2.1, .slice (some ⟨b3, o3, none⟩) x.2.2.1.length q3, .slice p4 x.2.2.2.1.length q4, .slice p5 x.2.2.2.2.length q5], l, (s ++ [((c.1, c.2.1, dg) : SignD)]), now, d2, (some ⟨b0, o0, none⟩), (some ⟨g6, 0, none⟩), (some ⟨gd, 0, none⟩), qc, c6, qd, by rw [HLN.out, HLS.out], RP, RC, RS, RU, HDD.out, HNOW.out, BEL⟩)
  have hUI : 0 < (x.2.2.2.1.length : Int) := by omega
  go_wp2_with fail
  clear a0 a1 a2 a3 a4
  refine (l1Chance_c (w.heap.size + 1) p q cs (t3 + 1 + 1) 6 W9 HS (by have := hT.out; omega) (by have := hT.out; omega) (by omega) (by omega)).mono ?_
  rintro e Wb ⟨rb, rfl, HS2, hg⟩
  replace CA := CA.draw hg
  replace OS := OS.drawC hg HB1.out
  replace AC := AC.other hg (fun e => by have h := Option.some.inj e; have h1 := zgc.out; have h2 := HB1.out; omega)
  have HS := HS2
  clear hg HS2
  cases rb
  case false =>
    have a0 := ((CXS.out Wb CA.same).cell 0).trans (show _ = some _ from rfl)
    have a1 := ((CXS.out Wb CA.same).cell 1).trans (show _ = some _ from rfl)
    have a2 := ((CXS.out Wb CA.same).cell 2).trans (show _ = some _ from rfl)
    have a3 := ((CXS.out Wb CA.same).cell 3).trans (show _ = some _ from rfl)
    have a4 := ((CXS.out Wb CA.same).cell 4).trans (show _ = some _ from rfl)
    go_wp2_with fail
    clear a0 a1 a2 a3 a4
    refine (l1Chance_c (w.heap.size + 1) p q cs (t3 + 1 + 1 + 1) 8 Wb HS (by have := hT.out; omega) (by have := hT.out; omega) (by omega) (by omega)).mono ?_
    rintro e Wa ⟨rb, rfl, HS2, hg⟩
    replace CA := CA.draw hg
    replace OS := OS.drawC hg HB1.out
    replace AC := AC.other hg (fun e => by have h := Option.some.inj e; have h1 := zgc.out; have h2 := HB1.out; omega)
    have HS := HS2
    clear hg HS2
    cases rb
    case false =>
      go_wp2_with fail
      obtain ⟨i1, hi1, hy0, hy1, hy2⟩ := info_parts infoSign
      obtain ⟨F, HF⟩ : ∃ F, Hid ((Value.slice ps s.length qs).ownBlock.toList = F) := ⟨_, rfl⟩
      have HFl : Hid (∀ k, k ∈ F → w5.heap.size ≤ k ∧ k < gc) := fun k hk => by rw [← HF.out] at hk; have h := OSB.out k (List.mem_append_left _ hk); have h1 := ZG.out; exact ⟨h.1, by omega⟩
      have hnc : gc ∉ F := fun h => Nat.lt_irrefl _ (HFl.out gc h).2
      have hnx : gx ∉ F := fun h => by have h1 := (HFl.out gx h).1; have h2 := XGE.out.2; omega
      have m0 := GenS.only_cell (fp := F) ((AC.cell 0).trans (show _ = some _ from rfl)) hnc
      have m1 := GenS.only_cell (fp := F) ((AC.cell 1).trans (show _ = some _ from rfl)) hnc
      have mx := GenS.only_cell (fp := F) (((CXS.out Wa CA.same).cell 0).trans (show _ = some _ from rfl)) hnx
      have hne := GenS.only_some F Wa
      refine GenS.wp_region_pick (GenS.only_pre F) [0, 1, 2, 3, 4, 5, 6, 7, 8] 13 4 1 rfl rfl rfl (by kernel_rfl) (by kernel_rfl) (by kernel_rfl) (by kernel_rfl) ?_
      simp only [opsAt, List.getElem?_toArray, List.getElem?_cons_zero, List.getElem?_cons_succ]
      repeat (go_big_quiet_step (fail))
      refine wpQuiet_nil ?_
      clear m0 m1 mx hne
      refine GenS.wpM_only (i := 9) (by kernel_rfl) ?_
      refine GenS.mOp_call rfl (by go_simp) 33 _ #[.slice p1 x.1.length q1, .int .i64 (3 - x.2.1), .slice pt ctx.length qt, .pointer (some ⟨gc, 0, none⟩)] (fun w => by go_simp) rfl ?_
      rintro _ ⟨n1, rfl⟩
      have D1 : Below Wa.heap.size Wa (Wa.drewN n1) := ⟨rfl, rfl, rfl, Nat.le_refl _, fun _ _ => rfl⟩
      replace CA := CA.stay D1
      replace OS := OS.stay D1
      replace AC := AC.stay D1
      replace HS := HS.keep D1
      clear D1
      generalize Wa.drewN n1 = U1 at *
      refine (l13Digest_c p1 pt q1 qt gc 0 x.1 ctx (3 - x.2.1) c U1 (RDS.out U1 CA.same).1 (HCX.out U1 CA.same) ((AC.cell 0).trans rfl) ((AC.cell 1).trans rfl) ((AC.cell 2).trans rfl) (by have := HX32.out; omega) HC20.out hoc.out).mono ?_
      rintro e wd ⟨u, rfl, OD, hb⟩
      have H32 : Hid ((dgN x.1 (3 - x.2.1) ctx c).length = 32) := dgN_len _ _ _ _
      generalize dgN x.1 (3 - x.2.1) ctx c = dg at *
      obtain ⟨pu, qu, rfl, -⟩ := OD.rd
      have HDge : Hid (∀ k, (Value.slice pu dg.length qu).ownBlock = some k → gc < k) := fun k hk => Nat.lt_of_lt_of_le AC.lt (OD.ge k hk)
      refine ⟨_, rfl, ⟨⟨wd, Only.below hb⟩, rfl⟩, ?_⟩
      replace OD := OD.lower (show w5.heap.size ≤ U1.heap.size from CA.size)
      replace CA := CA.stay hb
      replace OS := OS.stay hb
      replace AC := AC.stay hb
      replace HS := HS.keep hb
      clear hb
      have hne := GenS.only_some F wd
      refine GenS.wpM_more (GenS.only_pre F) [10] 3 2 rfl (by kernel_rfl) (by kernel_rfl) (by kernel_rfl) (by kernel_rfl) ?_
      simp only [opsAt, List.getElem?_toArray, List.getElem?_cons_zero, List.getElem?_cons_succ]
      go_simp
      repeat (go_big_quiet_step (fail))
      refine wpQuiet_nil ?_
      clear hne
      refine GenS.wpM_only (i := 11) (by kernel_rfl) ?_
      refine GenS.mOp_make rfl (by go_simp) ?_
      rintro _ ⟨n4, rfl⟩
      refine ⟨.slice (some ⟨(wd.drewN n4).heap.size, 0, none⟩) 1 1, (wd.drewN n4).alloc (.cells #[.int .i64 c.1, .int .i64 c.2.1, .slice pu dg.length qu] 67), by go_simp, ⟨⟨_, Only.below (alloc_below _ _)⟩, rfl⟩, ?_⟩
      have D4 : Below wd.heap.size wd ((wd.drewN n4).alloc (.cells #[.int .i64 c.1, .int .i64 c.2.1, .slice pu dg.length qu] 67)) := Below.step (show Below wd.heap.size wd (wd.drewN n4) from ⟨rfl, rfl, rfl, Nat.le_refl _, fun _ _ => rfl⟩) (alloc_below _ _)
      have A4 := Arr.new (wd.drewN n4) [.int .i64 c.1, .int .i64 c.2.1, .slice pu dg.length qu] 67
      replace CA := CA.stay D4
      replace OS := OS.stay D4
      replace AC := AC.stay D4
      replace HS := HS.keep D4
      replace OD := OD.stay D4
      generalize (wd.drewN n4).alloc (.cells #[.int .i64 c.1, .int .i64 c.2.1, .slice pu dg.length qu] 67) = U4 at *
      generalize (wd.drewN n4).heap.size = g4 at *
      clear D4
      refine GenS.wpM_only (i := 12) (by kernel_rfl) ?_
      refine GenS.mOp_list rfl (by go_simp) (by kernel_rfl) ?_
      rintro _ ⟨n5, rfl⟩
      have D5 : Below U4.heap.size U4 (U4.drewN n5) := ⟨rfl, rfl, rfl, Nat.le_refl _, fun _ _ => rfl⟩
      replace A4 := A4.stay D5
      replace OD := OD.stay D5
      replace CA := CA.stay D5
      replace OS := OS.stay D5
      replace AC := AC.stay D5
      replace HS := HS.keep D5
      clear D5
      generalize U4.drewN n5 = U5 at *
      have hnew : ∀ j u, ([.int .i64 c.1, .int .i64 c.2.1, .slice pu dg.length qu] : List Value)[j]? = some u → U5.cell? ((⟨g4, 0, none⟩ : Addr).add j) = some u := fun j u hj => A4.cells j u hj
      have hB5 : w5.heap.size ≤ U5.heap.size := CA.size
      have HRO : Hid _ := OS.row
      have hs40 : s.length ≤ 10000 := by have := HS40.out; omega
      refine wpList_append_lies _ rfl (.tmp 88) (.tmp 99) 34 rfl w5.heap.size 67 i1 (.agg #[.int .i64 0, .int .i64 0, .slice none 0 0]) 3 40 Tryz.underlying34 hi1 hy0 hy1 hy2 rfl (by decide) (.slice ps s.length qs) s.length xs rfl HRO.out ⟨g4, 0, none⟩ 1 1 [.int .i64 c.1, .int .i64 c.2.1, .slice pu dg.length qu] rfl rfl hnew (by intro u hu; simp at hu; rcases hu with rfl | rfl | rfl <;> rfl) (by decide) (by unfold maxLen; omega) (by omega) hB5 _ rfl ?_
      intro g6 c6 w6x hown6 hgrow6 hat6 hlt6
      refine ⟨rfl, by rw [← HF.out]; exact Only.grown hgrow6, ?_⟩
      have ON := OS.push (a := ((c.1, c.2.1, dg) : SignD)) (sign_own_mk (a := ((c.1, c.2.1, dg) : SignD)) (OD : Own U5 w5.heap.size (.slice pu dg.length qu) dg)) (fun j hj hj2 => by
        have h1 := HDge.out j (mem_opt.1 hj)
        have h2 := (OSB.out j hj2).2
        have h3 := ZG.out
        omega) (k := s.length + 1) (v' := .slice (some ⟨g6, 0, none⟩) (s.length + 1) c6) (g := g6) hown6 (by simp) hgrow6 rfl hat6
      have hsb : ∀ k, (Value.slice ps s.length qs).ownBlock = some k → w5.heap.size ≤ k ∧ k < gc := fun k hk => HFl.out k (by rw [← HF.out]; exact mem_opt.2 hk)
      replace CA := CA.other hgrow6 (fun k hk => (hsb k hk).1)
      replace AC := AC.other hgrow6 (fun e => by have h1 := (hsb gc e).2; omega)
      replace HS := HS.other hgrow6 (fun k hk => by have h1 := (hsb k hk).1; have h2 := HB1.out; omega)
      clear hown6 hat6 hlt6 HRO hnew A4 OS OD hgrow6 hsb hnc hnx HF HFl hi1 hy0 hy1 hy2 hs40 hB5 H32
      refine GenS.wpM_end (by kernel_rfl) rfl (by kernel_rfl) (by decide) ?_
      rintro _ ⟨n6, rfl⟩
      have D6 : Below w6x.heap.size w6x (w6x.drewN n6) := ⟨rfl, rfl, rfl, Nat.le_refl _, fun _ _ => rfl⟩
      simp only [List.drop_succ_cons, List.drop_zero]
      have OS := ON
      clear ON
      replace CA := CA.stay D6
      replace OS := OS.stay D6
      replace AC := AC.stay D6
      replace HS := HS.keep D6
      clear D6
      generalize w6x.drewN n6 = Y at *
      have HYB : Hid (∀ k, k ∈ (Value.slice (some ⟨g6, 0, none⟩) (s.length + 1) c6).ownBlock.toList ++ (fp ++ (Value.slice pu dg.length qu).ownBlock.toList) → w5.heap.size ≤ k ∧ k < Y.heap.size) := fun k hk => OS.ins k hk
      have HLN : Hid ((s ++ [((c.1, c.2.1, dg) : SignD)]).length = s.length + 1) := by show _ = _; simp
      have hy5 : Hid (w5.heap.size ≤ Y.heap.size) := CA.size
      have a0 := ((CXS.out Y CA.same).cell 0).trans (show _ = some _ from rfl)
      go_wp2_with fail
      refine (l13Make_c p1 pt q1 qt gc 0 x.1 ctx (3 - x.2.1) c (s.length : Int) Y (RDS.out Y CA.same).1 (HCX.out Y CA.same) ((AC.cell 0).trans rfl) ((AC.cell 1).trans rfl) ((AC.cell 2).trans rfl) (by have := HX32.out; omega) HC20.out hoc.out (by omega) (by have := HS40.out; omega)).mono ?_
      rintro e w11 ⟨u, rfl, OM, hb⟩
      have hml := mkN_len x.1 (3 - x.2.1) ctx c (s.length : Int)
      generalize mkN x.1 (3 - x.2.1) ctx c (s.length : Int) = d at *
      obtain ⟨pd, qd, rfl, -⟩ := OM.rd
      have HDL : Hid (1 ≤ d.length ∧ d.length ≤ 100) := by have := HC20.out; rw [hml]; exact ⟨by omega, by omega⟩
      clear a0 hml
      replace CA := CA.stay hb
      replace OS := OS.stay hb
      replace AC := AC.stay hb
      replace HS := HS.keep hb
      clear hb
      go_wp2_with fail
      refine (l1Chance_c (w.heap.size + 1) p q cs ((t3 + 1 + 1 + 1) + 1) 8 w11 HS (by have := hT.out; omega) (by have := hT.out; omega) (by omega) (by omega)).mono ?_
      rintro e w12 ⟨rb, rfl, HS2, hg⟩
      replace OM := OM.draw hg (by have h1 := HB1.out; have h2 := hy5.out; omega)
      replace CA := CA.draw hg
      replace OS := OS.drawC hg HB1.out
      replace AC := AC.other hg (fun e => by have h := Option.some.inj e; have h1 := zgc.out; have h2 := HB1.out; omega)
      have HS := HS2
      clear hg HS2
      cases rb
      case false =>
        have a0 := ((CXS.out w12 CA.same).cell 0).trans (show _ = some _ from rfl)
        have a1 := ((CXS.out w12 CA.same).cell 1).trans (show _ = some _ from rfl)
        have a2 := ((CXS.out w12 CA.same).cell 2).trans (show _ = some _ from rfl)
        have a3 := ((CXS.out w12 CA.same).cell 3).trans (show _ = some _ from rfl)
        have a4 := ((CXS.out w12 CA.same).cell 4).trans (show _ = some _ from rfl)
        have RA := CA.R.row [.slice p1 x.1.length q1, .int .i64 x.2.1, .slice (some ⟨b3, o3, none⟩) x.2.2.1.length q3, .slice p4 x.2.2.2.1.length q4, .slice p5 x.2.2.2.2.length q5]
        have SAME : ∀ k, w.heap.size < k → (w12.setRow w.heap.size #[.slice p1 x.1.length q1, .int .i64 x.2.1, .slice (some ⟨b3, o3, none⟩) x.2.2.1.length q3, .slice p4 x.2.2.2.1.length q4, .slice p5 x.2.2.2.2.length q5]).heap[k]? = w12.heap[k]? := fun k hk => setRow_other w12 w.heap.size k #[.slice p1 x.1.length q1, .int .i64 x.2.1, .slice (some ⟨b3, o3, none⟩) x.2.2.1.length q3, .slice p4 x.2.2.2.1.length q4, .slice p5 x.2.2.2.2.length q5] (by omega)
        have SM : ∀ k, w1.heap.size ≤ k → k < w5.heap.size → (w12.setRow w.heap.size #[.slice p1 x.1.length q1, .int .i64 x.2.1, .slice (some ⟨b3, o3, none⟩) x.2.2.1.length q3, .slice p4 x.2.2.2.1.length q4, .slice p5 x.2.2.2.2.length q5]).heap[k]? = w5.heap[k]? := fun k h1 h2 => (SAME k (by have h := z1.out; omega)).trans (CA.same k h1 h2)
        have RP := CL _ SM
        have RC := RCS.out _ SM
        have RS := RdL.own (OS.fr (fun k hk => SAME k (by have h := (OS.ins k hk).1; have h1 := CA.low; have h2 := CA.mid; omega)))
        have RU := rd_fromT (Rd.own OM) (fun y hy => SAME y.block (by have h := OM.ge y.block (by subst hy; rfl); have h1 := HB1.out; have h2 := hy5.out; omega))
        have BEL := Below.row CA.bw (Nat.le_refl _) #[.slice p1 x.1.length q1, .int .i64 x.2.1, .slice (some ⟨b3, o3, none⟩) x.2.2.1.length q3, .slice p4 x.2.2.2.1.length q4, .slice p5 x.2.2.2.2.length q5]
        have c0 := (RA.cell 0).trans (show _ = some _ from rfl)
        have c1 := (RA.cell 1).trans (show _ = some _ from rfl)
        have c2 := (RA.cell 2).trans (show _ = some _ from rfl)
        have c3 := (RA.cell 3).trans (show _ = some _ from rfl)
        have c4 := (RA.cell 4).trans (show _ = some _ from rfl)
        have R := CA.R
        generalize e6 : w12.setRow w.heap.size #[.slice p1 x.1.length q1, .int .i64 x.2.1, .slice (some ⟨b3, o3, none⟩) x.2.2.1.length q3, .slice p4 x.2.2.2.1.length q4, .slice p5 x.2.2.2.2.length q5] = ZW at *
        clear SAME SM RDS RCS CXS CL OS CA RA OM AC HS HCX
        go_wp2_with (first | (refine wpList_store_row rfl 27 _ _ rfl w.heap.size #[.slice p1 x.1.length q1, .int .i64 x.2.1, .slice (some ⟨b3, o3, none⟩) x.2.2.1.length q3, .slice p4 x.2.2.2.1.length q4, .slice p5 x.2.2.2.2.length q5] rfl rfl 27 #[.slice none 0 0, .int .i64 0, .slice none 0 0, .slice none 0 0, .slice none 0 0] R hres.out rfl (by simp [Value.oneCell']) ?_; rw [e6]) | exact bodyPost_ret (v := .tuple #[.agg #[.slice p1 x.1.length q1, .int .i64 x.2.1, .slice (some ⟨b3, o3, none⟩) x.2.2.1.length q3, .slice p4 x.2.2.2.1.length q4, .slice p5 x.2.2.2.2.length q5], .slice (some ⟨b0, o0, none⟩) l.length qc, .slice (some ⟨g6, 0, none⟩) (s.length + 1) c6, .int .i64 now, .slice pd d.length qd]) (by simp [results, Tryz.results8, go_sem, c0, c1, c2, c3, c4]) rfl ⟨x, [.slice p1 x.1.length q1, .int .i64 x.2.1, .slice (some ⟨b3, o3, none⟩) x.2.2.1.length q3, .slice p4 x.2.2.2.1.length q4, .slice p5 x.2.2.2.2.length q5], l, (s ++ [((c.1, c.2.1, dg) : SignD)]), now, d, (some ⟨b0, o0, none⟩), (some ⟨g6, 0, none⟩), pd, qc, c6, qd, by rw [HLN.out], RP, RC, RS, RU, HDD.out, HNOW.out, BEL⟩)
      obtain ⟨gd, e4⟩ : ∃ gd, pd = some ⟨gd, 0, none⟩ := by
        rcases OM.2 with ⟨e, hz⟩ | ⟨gd, cap, cur, e, -⟩
        · have := HDL.out.1; omega
        · simp at e; exact ⟨gd, e.1⟩
      subst e4
      have hgd : Hid (Y.heap.size ≤ gd) := OM.ge gd rfl
      have hqd := (Rd.own OM).1
      have hqd2 : qd ≤ 2 ^ 63 - 1 := (Rd.own OM).2.1
      go_wp2_with fail
      refine (l1Next_c (w.heap.size + 1) p q cs (((t3 + 1 + 1 + 1) + 1) + 1) (d.length : Int) w12 HS (by have := hT.out; omega) (by have := hT.out; omega) (by have := HDL.out; omega) (by have := HDL.out; omega)).mono ?_
      rintro e w13 ⟨i2, rfl, hi0, hi1, HS2, hg⟩
      replace OM := OM.draw hg (by have h1 := HB1.out; have h2 := hy5.out; omega)
      replace CA := CA.draw hg
      replace OS := OS.drawC hg HB1.out
      replace AC := AC.other hg (fun e => by have h := Option.some.inj e; have h1 := zgc.out; have h2 := HB1.out; omega)
      have HS := HS2
      clear hg HS2
      obtain ⟨i2, rfl⟩ := Int.eq_ofNat_of_zero_le hi0
      have hil : i2 < d.length := by omega
      have k5 : w13.ownsRow Y.heap.size 5 1 (.slice (some ⟨gd, 0, none⟩) d.length qd) d.length (d.map u8v) := OM
      have cx := World.ownsRow.cellAt k5 i2 (by omega)
      rw [u8v_at hil] at cx
      have fx := World.ownsRow.frozenAt k5 i2
      have R2 := (World.ownsRow.stored k5 i2 (u8v (d.getD i2 0 ^^^ 1))).1
      have hR : Own (w13.setCell ⟨gd, i2, none⟩ (u8v (d.getD i2 0 ^^^ 1))) Y.heap.size (.slice (some ⟨gd, 0, none⟩) d.length qd) (d.set i2 (d.getD i2 0 ^^^ 1)) := by unfold Own; rw [List.length_set, List.map_set]; exact R2
      unfold at8 at cx
      generalize d.getD i2 0 = y at *
      have hset : u8v (y ^^^ 1) = .int .u8 ((y.toNat ^^^ 1 : Nat) : Int) := by unfold u8v; rw [UInt8.toNat_xor]; rfl
      have hxo : bits .xor .u8 (y.toNat : Int) 1 = ((y.toNat ^^^ 1 : Nat) : Int) := (u8_xor8 y 1).trans (by rw [UInt8.toNat_xor]; rfl)
      rw [hset] at hR
      have hgs := grownBy_set w13 gd i2 (.int .u8 ((y.toNat ^^^ 1 : Nat) : Int))
      replace CA := CA.other hgs (fun k hk => by have h := Option.some.inj hk; have h1 := hgd.out; have h2 := hy5.out; omega)
      replace OS := OS.other (Only.grown hgs) (fun k hk e => by have h1 := (HYB.out k hk).2; have h2 := hgd.out; have h3 := List.mem_singleton.1 e; omega)
      have HLS : Hid ((d.set i2 (y ^^^ 1)).length = d.length) := List.length_set ..
      generalize d.set i2 (y ^^^ 1) = d2 at *
      clear k5 R2 hset hgs OM AC HS HCX
      have RU1 := Rd.own hR
      have a0 := ((CXS.out (w13.setCell ⟨gd, i2, none⟩ (.int .u8 ((y.toNat ^^^ 1 : Nat) : Int))) CA.same).cell 0).trans (show _ = some _ from rfl)
      have a1 := ((CXS.out (w13.setCell ⟨gd, i2, none⟩ (.int .u8 ((y.toNat ^^^ 1 : Nat) : Int))) CA.same).cell 1).trans (show _ = some _ from rfl)
      have a2 := ((CXS.out (w13.setCell ⟨gd, i2, none⟩ (.int .u8 ((y.toNat ^^^ 1 : Nat) : Int))) CA.same).cell 2).trans (show _ = some _ from rfl)
      have a3 := ((CXS.out (w13.setCell ⟨gd, i2, none⟩ (.int .u8 ((y.toNat ^^^ 1 : Nat) : Int))) CA.same).cell 3).trans (show _ = some _ from rfl)
      have a4 := ((CXS.out (w13.setCell ⟨gd, i2, none⟩ (.int .u8 ((y.toNat ^^^ 1 : Nat) : Int))) CA.same).cell 4).trans (show _ = some _ from rfl)
      have RA := CA.R.row [.slice p1 x.1.length q1, .int .i64 x.2.1, .slice (some ⟨b3, o3, none⟩) x.2.2.1.length q3, .slice p4 x.2.2.2.1.length q4, .slice p5 x.2.2.2.2.length q5]
      have SAME : ∀ k, w.heap.size < k → ((w13.setCell ⟨gd, i2, none⟩ (.int .u8 ((y.toNat ^^^ 1 : Nat) : Int))).setRow w.heap.size #[.slice p1 x.1.length q1, .int .i64 x.2.1, .slice (some ⟨b3, o3, none⟩) x.2.2.1.length q3, .slice p4 x.2.2.2.1.length q4, .slice p5 x.2.2.2.2.length q5]).heap[k]? = (w13.setCell ⟨gd, i2, none⟩ (.int .u8 ((y.toNat ^^^ 1 : Nat) : Int))).heap[k]? := fun k hk => setRow_other (w13.setCell ⟨gd, i2, none⟩ (.int .u8 ((y.toNat ^^^ 1 : Nat) : Int))) w.heap.size k #[.slice p1 x.1.length q1, .int .i64 x.2.1, .slice (some ⟨b3, o3, none⟩) x.2.2.1.length q3, .slice p4 x.2.2.2.1.length q4, .slice p5 x.2.2.2.2.length q5] (by omega)
      have SM : ∀ k, w1.heap.size ≤ k → k < w5.heap.size → ((w13.setCell ⟨gd, i2, none⟩ (.int .u8 ((y.toNat ^^^ 1 : Nat) : Int))).setRow w.heap.size #[.slice p1 x.1.length q1, .int .i64 x.2.1, .slice (some ⟨b3, o3, none⟩) x.2.2.1.length q3, .slice p4 x.2.2.2.1.length q4, .slice p5 x.2.2.2.2.length q5]).heap[k]? = w5.heap[k]? := fun k h1 h2 => (SAME k (by have h := z1.out; omega)).trans (CA.same k h1 h2)
      have RP := CL _ SM
      have RC := RCS.out _ SM
      have RS := RdL.own (OS.fr (fun k hk => SAME k (by have h := (OS.ins k hk).1; have h1 := CA.low; have h2 := CA.mid; omega)))
      have RU := rd_fromT RU1 (fun y hy => SAME y.block (by have h := hR.ge y.block (by cases hy; rfl); have h1 := HB1.out; have h2 := hy5.out; omega))
      have BEL := Below.row CA.bw (Nat.le_refl _) #[.slice p1 x.1.length q1, .int .i64 x.2.1, .slice (some ⟨b3, o3, none⟩) x.2.2.1.length q3, .slice p4 x.2.2.2.1.length q4, .slice p5 x.2.2.2.2.length q5]
      have c0 := (RA.cell 0).trans (show _ = some _ from rfl)
      have c1 := (RA.cell 1).trans (show _ = some _ from rfl)
      have c2 := (RA.cell 2).trans (show _ = some _ from rfl)
      have c3 := (RA.cell 3).trans (show _ = some _ from rfl)
      have c4 := (RA.cell 4).trans (show _ = some _ from rfl)
      have R := CA.R
      generalize e6 : (w13.setCell ⟨gd, i2, none⟩ (.int .u8 ((y.toNat ^^^ 1 : Nat) : Int))).setRow w.heap.size #[.slice p1 x.1.length q1, .int .i64 x.2.1, .slice (some ⟨b3, o3, none⟩) x.2.2.1.length q3, .slice p4 x.2.2.2.1.length q4, .slice p5 x.2.2.2.2.length q5] = ZW at *
      clear SAME SM RDS RCS CXS CL OS CA RA hR RU1
      go_wp2_with (first | (refine wpList_store_row rfl 27 _ _ rfl w.heap.size #[.slice p1 x.1.length q1, .int .i64 x.2.1, .slice (some ⟨b3, o3, none⟩) x.2.2.1.length q3, .slice p4 x.2.2.2.1.length q4, .slice p5 x.2.2.2.2.length q5] rfl rfl 27 #[.slice none 0 0, .int .i64 0, .slice none 0 0, .slice none 0 0, .slice none 0 0] R hres.out rfl (by simp [Value.oneCell']) ?_; rw [e6]) | exact bodyPost_ret (v := .tuple #[.agg #[.slice p1 x.1.length q1, .int .i64 x.2.1, .slice (some ⟨b3, o3, none⟩) x.2.2.1.length q3, .slice p4 x.2.2.2.1.length q4, .slice p5 x.2.2.2.2.length q5], .slice (some ⟨b0, o0, none⟩) l.length qc, .slice (some ⟨g6, 0, none⟩) (s.length + 1) c6, .int .i64 now, .slice (some ⟨gd, 0, none⟩) d.length qd]) (by simp [results, Tryz.results8, go_sem, c0, c1, c2, c3, c4]) rfl ⟨x, [.slice p1 x.1.length q1, .int .i64 x.2.1, .slice (some ⟨b3, o3, none⟩) x.2.2.1.length q3, .slice p4 x.2.2.2.1.length q4, .slice p5 x.2.2.2.2.length q5], l, (s ++ [((c.1, c.2.1, dg) : SignD)]), now, d2, (some ⟨b0, o0, none⟩), (some ⟨g6, 0, none⟩), (some ⟨gd, 0, none⟩), qc, c6, qd, by rw [HLN.out, HLS.out], RP, RC, RS, RU, HDD.out, HNOW.out, BEL⟩)
    case true =>
      have a1 := ((CXS.out Wa CA.same).cell 1).trans (show _ = some _ from rfl)
      go_wp2_with fail
      obtain ⟨i1, hi1, hy0, hy1, hy2⟩ := info_parts infoSign
      obtain ⟨F, HF⟩ : ∃ F, Hid ((Value.slice ps s.length qs).ownBlock.toList = F) := ⟨_, rfl⟩
      have HFl : Hid (∀ k, k ∈ F → w5.heap.size ≤ k ∧ k < gc) := fun k hk => by rw [← HF.out] at hk; have h := OSB.out k (List.mem_append_left _ hk); have h1 := ZG.out; exact ⟨h.1, by omega⟩
      have hnc : gc ∉ F := fun h => Nat.lt_irrefl _ (HFl.out gc h).2
      have hnx : gx ∉ F := fun h => by have h1 := (HFl.out gx h).1; have h2 := XGE.out.2; omega
      have m0 := GenS.only_cell (fp := F) ((AC.cell 0).trans (show _ = some _ from rfl)) hnc
      have m1 := GenS.only_cell (fp := F) ((AC.cell 1).trans (show _ = some _ from rfl)) hnc
      have mx := GenS.only_cell (fp := F) (((CXS.out Wa CA.same).cell 0).trans (show _ = some _ from rfl)) hnx
      have hne := GenS.only_some F Wa
      refine GenS.wp_region_pick (GenS.only_pre F) [0, 1, 2, 3, 4, 5, 6, 7, 8] 13 4 1 rfl rfl rfl (by kernel_rfl) (by kernel_rfl) (by kernel_rfl) (by kernel_rfl) ?_
      simp only [opsAt, List.getElem?_toArray, List.getElem?_cons_zero, List.getElem?_cons_succ]
      repeat (go_big_quiet_step (fail))
      refine wpQuiet_nil ?_
      clear m0 m1 mx hne
      refine GenS.wpM_only (i := 9) (by kernel_rfl) ?_
      refine GenS.mOp_call rfl (by go_simp) 33 _ #[.slice p1 x.1.length q1, .int .i64 x.2.1, .slice pt ctx.length qt, .pointer (some ⟨gc, 0, none⟩)] (fun w => by go_simp) rfl ?_
      rintro _ ⟨n1, rfl⟩
      have D1 : Below Wa.heap.size Wa (Wa.drewN n1) := ⟨rfl, rfl, rfl, Nat.le_refl _, fun _ _ => rfl⟩
      replace CA := CA.stay D1
      replace OS := OS.stay D1
      replace AC := AC.stay D1
      replace HS := HS.keep D1
      clear D1
      generalize Wa.drewN n1 = U1 at *
      refine (l13Digest_c p1 pt q1 qt gc 0 x.1 ctx x.2.1 c U1 (RDS.out U1 CA.same).1 (HCX.out U1 CA.same) ((AC.cell 0).trans rfl) ((AC.cell 1).trans rfl) ((AC.cell 2).trans rfl) (by have := HX32.out; omega) HC20.out hoc.out).mono ?_
      rintro e wd ⟨u, rfl, OD, hb⟩
      have H32 : Hid ((dgN x.1 x.2.1 ctx c).length = 32) := dgN_len _ _ _ _
      generalize dgN x.1 x.2.1 ctx c = dg at *
      obtain ⟨pu, qu, rfl, -⟩ := OD.rd
      have HDge : Hid (∀ k, (Value.slice pu dg.length qu).ownBlock = some k → gc < k) := fun k hk => Nat.lt_of_lt_of_le AC.lt (OD.ge k hk)
      refine ⟨_, rfl, ⟨⟨wd, Only.below hb⟩, rfl⟩, ?_⟩
      replace OD := OD.lower (show w5.heap.size ≤ U1.heap.size from CA.size)
      replace CA := CA.stay hb
      replace OS := OS.stay hb
      replace AC := AC.stay hb
      replace HS := HS.keep hb
      clear hb
      have hne := GenS.only_some F wd
      refine GenS.wpM_more (GenS.only_pre F) [10] 3 2 rfl (by kernel_rfl) (by kernel_rfl) (by kernel_rfl) (by kernel_rfl) ?_
      simp only [opsAt, List.getElem?_toArray, List.getElem?_cons_zero, List.getElem?_cons_succ]
      go_simp
      repeat (go_big_quiet_step (fail))
      refine wpQuiet_nil ?_
      clear hne
      refine GenS.wpM_only (i := 11) (by kernel_rfl) ?_
      refine GenS.mOp_make rfl (by go_simp) ?_
      rintro _ ⟨n4, rfl⟩
      refine ⟨.slice (some ⟨(wd.drewN n4).heap.size, 0, none⟩) 1 1, (wd.drewN n4).alloc (.cells #[.int .i64 c.1, .int .i64 c.2.1, .slice pu dg.length qu] 67), by go_simp, ⟨⟨_, Only.below (alloc_below _ _)⟩, rfl⟩, ?_⟩
      have D4 : Below wd.heap.size wd ((wd.drewN n4).alloc (.cells #[.int .i64 c.1, .int .i64 c.2.1, .slice pu dg.length qu] 67)) := Below.step (show Below wd.heap.size wd (wd.drewN n4) from ⟨rfl, rfl, rfl, Nat.le_refl _, fun _ _ => rfl⟩) (alloc_below _ _)
      have A4 := Arr.new (wd.drewN n4) [.int .i64 c.1, .int .i64 c.2.1, .slice pu dg.length qu] 67
      replace CA := CA.stay D4
      replace OS := OS.stay D4
      replace AC := AC.stay D4
      replace HS := HS.keep D4
      replace OD := OD.stay D4
      generalize (wd.drewN n4).alloc (.cells #[.int .i64 c.1, .int .i64 c.2.1, .slice pu dg.length qu] 67) = U4 at *
      generalize (wd.drewN n4).heap.size = g4 at *
      clear D4
      refine GenS.wpM_only (i := 12) (by kernel_rfl) ?_
      refine GenS.mOp_list rfl (by go_simp) (by kernel_rfl) ?_
      rintro _ ⟨n5, rfl⟩
      have D5 : Below U4.heap.size U4 (U4.drewN n5) := ⟨rfl, rfl, rfl, Nat.le_refl _, fun _ _ => rfl⟩
      replace A4 := A4.stay D5
      replace OD := OD.stay D5
      replace CA := CA.stay D5
      replace OS := OS.stay D5
      replace AC := AC.stay D5
      replace HS := HS.keep D5
      clear D5
      generalize U4.drewN n5 = U5 at *
      have hnew : ∀ j u, ([.int .i64 c.1, .int .i64 c.2.1, .slice pu dg.length qu] : List Value)[j]? = some u → U5.cell? ((⟨g4, 0, none⟩ : Addr).add j) = some u := fun j u hj => A4.cells j u hj
      have hB5 : w5.heap.size ≤ U5.heap.size := CA.size
      have HRO : Hid _ := OS.row
      have hs40 : s.length ≤ 10000 := by have := HS40.out; omega
      refine wpList_append_lies _ rfl (.tmp 88) (.tmp 99) 34 rfl w5.heap.size 67 i1 (.agg #[.int .i64 0, .int .i64 0, .slice none 0 0]) 3 40 Tryz.underlying34 hi1 hy0 hy1 hy2 rfl (by decide) (.slice ps s.length qs) s.length xs rfl HRO.out ⟨g4, 0, none⟩ 1 1 [.int .i64 c.1, .int .i64 c.2.1, .slice pu dg.length qu] rfl rfl hnew (by intro u hu; simp at hu; rcases hu with rfl | rfl | rfl <;> rfl) (by decide) (by unfold maxLen; omega) (by omega) hB5 _ rfl ?_
      intro g6 c6 w6x hown6 hgrow6 hat6 hlt6
      refine ⟨rfl, by rw [← HF.out]; exact Only.grown hgrow6, ?_⟩
      have ON := OS.push (a := ((c.1, c.2.1, dg) : SignD)) (sign_own_mk (a := ((c.1, c.2.1, dg) : SignD)) (OD : Own U5 w5.heap.size (.slice pu dg.length qu) dg)) (fun j hj hj2 => by
        have h1 := HDge.out j (mem_opt.1 hj)
        have h2 := (OSB.out j hj2).2
        have h3 := ZG.out
        omega) (k := s.length + 1) (v' := .slice (some ⟨g6, 0, none⟩) (s.length + 1) c6) (g := g6) hown6 (by simp) hgrow6 rfl hat6
      have hsb : ∀ k, (Value.slice ps s.length qs).ownBlock = some k → w5.heap.size ≤ k ∧ k < gc := fun k hk => HFl.out k (by rw [← HF.out]; exact mem_opt.2 hk)
      replace CA := CA.other hgrow6 (fun k hk => (hsb k hk).1)
      replace AC := AC.other hgrow6 (fun e => by have h1 := (hsb gc e).2; omega)
      replace HS := HS.other hgrow6 (fun k hk => by have h1 := (hsb k hk).1; have h2 := HB1.out; omega)
      clear hown6 hat6 hlt6 HRO hnew A4 OS OD hgrow6 hsb hnc hnx HF HFl hi1 hy0 hy1 hy2 hs40 hB5 H32
      refine GenS.wpM_end (by kernel_rfl) rfl (by kernel_rfl) (by decide) ?_
      rintro _ ⟨n6, rfl⟩
      have D6 : Below w6x.heap.size w6x (w6x.drewN n6) := ⟨rfl, rfl, rfl, Nat.le_refl _, fun _ _ => rfl⟩
      simp only [List.drop_succ_cons, List.drop_zero]
      have OS := ON
      clear ON
      replace CA := CA.stay D6
      replace OS := OS.stay D6
      replace AC := AC.stay D6
      replace HS := HS.keep D6
      clear D6
      generalize w6x.drewN n6 = Y at *
      have HYB : Hid (∀ k, k ∈ (Value.slice (some ⟨g6, 0, none⟩) (s.length + 1) c6).ownBlock.toList ++ (fp ++ (Value.slice pu dg.length qu).ownBlock.toList) → w5.heap.size ≤ k ∧ k < Y.heap.size) := fun k hk => OS.ins k hk
      have HLN : Hid ((s ++ [((c.1, c.2.1, dg) : SignD)]).length = s.length + 1) := by show _ = _; simp
      have hy5 : Hid (w5.heap.size ≤ Y.heap.size) := CA.size
      have a0 := ((CXS.out Y CA.same).cell 0).trans (show _ = some _ from rfl)
      go_wp2_with fail
      refine (l13Make_c p1 pt q1 qt gc 0 x.1 ctx x.2.1 c (s.length : Int) Y (RDS.out Y CA.same).1 (HCX.out Y CA.same) ((AC.cell 0).trans rfl) ((AC.cell 1).trans rfl) ((AC.cell 2).trans rfl) (by have := HX32.out; omega) HC20.out hoc.out (by omega) (by have := HS40.out; omega)).mono ?_
      rintro e w11 ⟨u, rfl, OM, hb⟩
      have hml := mkN_len x.1 x.2.1 ctx c (s.length : Int)
      generalize mkN x.1 x.2.1 ctx c (s.length : Int) = d at *
      obtain ⟨pd, qd, rfl, -⟩ := OM.rd
      have HDL : Hid (1 ≤ d.length ∧ d.length ≤ 100) := by have := HC20.out; rw [hml]; exact ⟨by omega, by omega⟩
      clear a0 hml
      replace CA := CA.stay hb
      replace OS := OS.stay hb
      replace AC := AC.stay hb
      replace HS := HS.keep hb
      clear hb
      go_wp2_with fail
      refine (l1Chance_c (w.heap.size + 1) p q cs ((t3 + 1 + 1 + 1) + 1) 8 w11 HS (by have := hT.out; omega) (by have := hT.out; omega) (by omega) (by omega)).mono ?_
      rintro e w12 ⟨rb, rfl, HS2, hg⟩
      replace OM := OM.draw hg (by have h1 := HB1.out; have h2 := hy5.out; omega)
      replace CA := CA.draw hg
      replace OS := OS.drawC hg HB1.out
      replace AC := AC.other hg (fun e => by have h := Option.some.inj e; have h1 := zgc.out; have h2 := HB1.out; omega)
      have HS := HS2
      clear hg HS2
      cases rb
      case false =>
        have a0 := ((CXS.out w12 CA.same).cell 0).trans (show _ = some _ from rfl)
        have a1 := ((CXS.out w12 CA.same).cell 1).trans (show _ = some _ from rfl)
        have a2 := ((CXS.out w12 CA.same).cell 2).trans (show _ = some _ from rfl)
        have a3 := ((CXS.out w12 CA.same).cell 3).trans (show _ = some _ from rfl)
        have a4 := ((CXS.out w12 CA.same).cell 4).trans (show _ = some _ from rfl)
        have RA := CA.R.row [.slice p1 x.1.length q1, .int .i64 x.2.1, .slice (some ⟨b3, o3, none⟩) x.2.2.1.length q3, .slice p4 x.2.2.2.1.length q4, .slice p5 x.2.2.2.2.length q5]
        have SAME : ∀ k, w.heap.size < k → (w12.setRow w.heap.size #[.slice p1 x.1.length q1, .int .i64 x.2.1, .slice (some ⟨b3, o3, none⟩) x.2.2.1.length q3, .slice p4 x.2.2.2.1.length q4, .slice p5 x.2.2.2.2.length q5]).heap[k]? = w12.heap[k]? := fun k hk => setRow_other w12 w.heap.size k #[.slice p1 x.1.length q1, .int .i64 x.2.1, .slice (some ⟨b3, o3, none⟩) x.2.2.1.length q3, .slice p4 x.2.2.2.1.length q4, .slice p5 x.2.2.2.2.length q5] (by omega)
        have SM : ∀ k, w1.heap.size ≤ k → k < w5.heap.size → (w12.setRow w.heap.size #[.slice p1 x.1.length q1, .int .i64 x.2.1, .slice (some ⟨b3, o3, none⟩) x.2.2.1.length q3, .slice p4 x.2.2.2.1.length q4, .slice p5 x.2.2.2.2.length q5]).heap[k]? = w5.heap[k]? := fun k h1 h2 => (SAME k (by have h := z1.out; omega)).trans (CA.same k h1 h2)
        have RP := CL _ SM
        have RC := RCS.out _ SM
        have RS := RdL.own (OS.fr (fun k hk => SAME k (by have h := (OS.ins k hk).1; have h1 := CA.low; have h2 := CA.mid; omega)))
        have RU := rd_fromT (Rd.own OM) (fun y hy => SAME y.block (by have h := OM.ge y.block (by subst hy; rfl); have h1 := HB1.out; have h2 := hy5.out; omega))
        have BEL := Below.row CA.bw (Nat.le_refl _) #[.slice p1 x.1.length q1, .int .i64 x.2.1, .slice (some ⟨b3, o3, none⟩) x.2.2.1.length q3, .slice p4 x.2.2.2.1.length q4, .slice p5 x.2.2.2.2.length q5]
        have c0 := (RA.cell 0).trans (show _ = some _ from rfl)
        have c1 := (RA.cell 1).trans (show _ = some _ from rfl)
        have c2 := (RA.cell 2).trans (show _ = some _ from rfl)
        have c3 := (RA.cell 3).trans (show _ = some _ from rfl)
        have c4 := (RA.cell 4).trans (show _ = some _ from rfl)
        have R := CA.R
        generalize e6 : w12.setRow w.heap.size #[.slice p1 x.1.length q1, .int .i64 x.2.1, .slice (some ⟨b3, o3, none⟩) x.2.2.1.length q3, .slice p4 x.2.2.2.1.length q4, .slice p5 x.2.2.2.2.length q5] = ZW at *
        clear SAME SM RDS RCS CXS CL OS CA RA OM AC HS HCX
        go_wp2_with (first | (refine wpList_store_row rfl 27 _ _ rfl w.heap.size #[.slice p1 x.1.length q1, .int .i64 x.2.1, .slice (some ⟨b3, o3, none⟩) x.2.2.1.length q3, .slice p4 x.2.2.2.1.length q4, .slice p5 x.2.2.2.2.length q5] rfl rfl 27 #[.slice none 0 0, .int .i64 0, .slice none 0 0, .slice none 0 0, .slice none 0 0] R hres.out rfl (by simp [Value.oneCell']) ?_; rw [e6]) | exact bodyPost_ret (v := .tuple #[.agg #[.slice p1 x.1.length q1, .int .i64 x.2.1, .slice (some ⟨b3, o3, none⟩) x.2.2.1.length q3, .slice p4 x.2.2.2.1.length q4, .slice p5 x.2.2.2.2.length q5], .slice (some ⟨b0, o0, none⟩) l.length qc, .slice (some ⟨g6, 0, none⟩) (s.length + 1) c6, .int .i64 now, .slice pd d.length qd]) (by simp [results, Tryz.results8, go_sem, c0, c1, c2, c3, c4]) rfl ⟨x, [.slice p1 x.1.length q1, .int .i64 x.2.1, .slice (some ⟨b3, o3, none⟩) x.2.2.1.length q3, .slice p4 x.2.2.2.1.length q4, .slice p5 x.2.2.2.2.length q5], l, (s ++ [((c.1, c.2.1, dg) : SignD)]), now, d, (some ⟨b0, o0, none⟩), (some ⟨g6, 0, none⟩), pd, qc, c6, qd, by rw [HLN.out], RP, RC, RS, RU, HDD.out, HNOW.out, BEL⟩)
      obtain ⟨gd, e4⟩ : ∃ gd, pd = some ⟨gd, 0, none⟩ := by
        rcases OM.2 with ⟨e, hz⟩ | ⟨gd, cap, cur, e, -⟩
        · have := HDL.out.1; omega
        · simp at e; exact ⟨gd, e.1⟩
      subst e4
      have hgd : Hid (Y.heap.size ≤ gd) := OM.ge gd rfl
      have hqd := (Rd.own OM).1
      have hqd2 : qd ≤ 2 ^ 63 - 1 := (Rd.own OM).2.1
      go_wp2_with fail
      refine (l1Next_c (w.heap.size + 1) p q cs (((t3 + 1 + 1 + 1) + 1) + 1) (d.length : Int) w12 HS (by have := hT.out; omega) (by have := hT.out; omega) (by have := HDL.out; omega) (by have := HDL.out; omega)).mono ?_
      rintro e w13 ⟨i2, rfl, hi0, hi1, HS2, hg⟩
      replace OM := OM.draw hg (by have h1 := HB1.out; have h2 := hy5.out; omega)
      replace CA := CA.draw hg
      replace OS := OS.drawC hg HB1.out
      replace AC := AC.other hg (fun e => by have h := Option.some.inj e; have h1 := zgc.out; have h2 := HB1.out; omega)
      have HS := HS2
      clear hg HS2
      obtain ⟨i2, rfl⟩ := Int.eq_ofNat_of_zero_le hi0
      have hil : i2 < d.length := by omega
      have k5 : w13.ownsRow Y.heap.size 5 1 (.slice (some ⟨gd, 0, none⟩) d.length qd) d.length (d.map u8v) := OM
      have cx := World.ownsRow.cellAt k5 i2 (by omega)
      rw [u8v_at hil] at cx
      have fx := World.ownsRow.frozenAt k5 i2
      have R2 := (World.ownsRow.stored k5 i2 (u8v (d.getD i2 0 ^^^ 1))).1
      have hR : Own (w13.setCell ⟨gd, i2, none⟩ (u8v (d.getD i2 0 ^^^ 1))) Y.heap.size (.slice (some ⟨gd, 0, none⟩) d.length qd) (d.set i2 (d.getD i2 0 ^^^ 1)) := by unfold Own; rw [List.length_set, List.map_set]; exact R2
      unfold at8 at cx
      generalize d.getD i2 0 = y at *
      have hset : u8v (y ^^^ 1) = .int .u8 ((y.toNat ^^^ 1 : Nat) : Int) := by unfold u8v; rw [UInt8.toNat_xor]; rfl
      have hxo : bits .xor .u8 (y.toNat : Int) 1 = ((y.toNat ^^^ 1 : Nat) : Int) := (u8_xor8 y 1).trans (by rw [UInt8.toNat_xor]; rfl)
      rw [hset] at hR
      have hgs := grownBy_set w13 gd i2 (.int .u8 ((y.toNat ^^^ 1 : Nat) : Int))
      replace CA := CA.other hgs (fun k hk => by have h := Option.some.inj hk; have h1 := hgd.out; have h2 := hy5.out; omega)
      replace OS := OS.other (Only.grown hgs) (fun k hk e => by have h1 := (HYB.out k hk).2; have h2 := hgd.out; have h3 := List.mem_singleton.1 e; omega)
      have HLS : Hid ((d.set i2 (y ^^^ 1)).length = d.length) := List.length_set ..
      generalize d.set i2 (y ^^^ 1) = d2 at *
      clear k5 R2 hset hgs OM AC HS HCX
      have RU1 := Rd.own hR
      have a0 := ((CXS.out (w13.setCell ⟨gd, i2, none⟩ (.int .u8 ((y.toNat ^^^ 1 : Nat) : Int))) CA.same).cell 0).trans (show _ = some _ from rfl)
      have a1 := ((CXS.out (w13.setCell ⟨gd, i2, none⟩ (.int .u8 ((y.toNat ^^^ 1 : Nat) : Int))) CA.same).cell 1).trans (show _ = some _ from rfl)
      have a2 := ((CXS.out (w13.setCell ⟨gd, i2, none⟩ (.int .u8 ((y.toNat ^^^ 1 : Nat) : Int))) CA.same).cell 2).trans (show _ = some _ from rfl)
      have a3 := ((CXS.out (w13.setCell ⟨gd, i2, none⟩ (.int .u8 ((y.toNat ^^^ 1 : Nat) : Int))) CA.same).cell 3).trans (show _ = some _ from rfl)
      have a4 := ((CXS.out (w13.setCell ⟨gd, i2, none⟩ (.int .u8 ((y.toNat ^^^ 1 : Nat) : Int))) CA.same).cell 4).trans (show _ = some _ from rfl)
      have RA := CA.R.row [.slice p1 x.1.length q1, .int .i64 x.2.1, .slice (some ⟨b3, o3, none⟩) x.2.2.1.length q3, .slice p4 x.2.2.2.1.length q4, .slice p5 x.2.2.2.2.length q5]
      have SAME : ∀ k, w.heap.size < k → ((w13.setCell ⟨gd, i2, none⟩ (.int .u8 ((y.toNat ^^^ 1 : Nat) : Int))).setRow w.heap.size #[.slice p1 x.1.length q1, .int .i64 x.2.1, .slice (some ⟨b3, o3, none⟩) x.2.2.1.length q3, .slice p4 x.2.2.2.1.length q4, .slice p5 x.2.2.2.2.length q5]).heap[k]? = (w13.setCell ⟨gd, i2, none⟩ (.int .u8 ((y.toNat ^^^ 1 : Nat) : Int))).heap[k]? := fun k hk => setRow_other (w13.setCell ⟨gd, i2, none⟩ (.int .u8 ((y.toNat ^^^ 1 : Nat) : Int))) w.heap.size k #[.slice p1 x.1.length q1, .int .i64 x.2.1, .slice (some ⟨b3, o3, none⟩) x.2.2.1.length q3, .slice p4 x.2.2.2.1.length q4, .slice p5 x.2.2.2.2.length q5] (by omega)
      have SM : ∀ k, w1.heap.size ≤ k → k < w5.heap.size → ((w13.setCell ⟨gd, i2, none⟩ (.int .u8 ((y.toNat ^^^ 1 : Nat) : Int))).setRow w.heap.size #[.slice p1 x.1.length q1, .int .i64 x.2.1, .slice (some ⟨b3, o3, none⟩) x.2.2.1.length q3, .slice p4 x.2.2.2.1.length q4, .slice p5 x.2.2.2.2.length q5]).heap[k]? = w5.heap[k]? := fun k h1 h2 => (SAME k (by have h := z1.out; omega)).trans (CA.same k h1 h2)
      have RP := CL _ SM
      have RC := RCS.out _ SM
      have RS := RdL.own (OS.fr (fun k hk => SAME k (by have h := (OS.ins k hk).1; have h1 := CA.low; have h2 := CA.mid; omega)))
      have RU := rd_fromT RU1 (fun y hy => SAME y.block (by have h := hR.ge y.block (by cases hy; rfl); have h1 := HB1.out; have h2 := hy5.out; omega))
      have BEL := Below.row CA.bw (Nat.le_refl _) #[.slice p1 x.1.length q1, .int .i64 x.2.1, .slice (some ⟨b3, o3, none⟩) x.2.2.1.length q3, .slice p4 x.2.2.2.1.length q4, .slice p5 x.2.2.2.2.length q5]
      have c0 := (RA.cell 0).trans (show _ = some _ from rfl)
      have c1 := (RA.cell 1).trans (show _ = some _ from rfl)
      have c2 := (RA.cell 2).trans (show _ = some _ from rfl)
      have c3 := (RA.cell 3).trans (show _ = some _ from rfl)
      have c4 := (RA.cell 4).trans (show _ = some _ from rfl)
      have R := CA.R
      generalize e6 : (w13.setCell ⟨gd, i2, none⟩ (.int .u8 ((y.toNat ^^^ 1 : Nat) : Int))).setRow w.heap.size #[.slice p1 x.1.length q1, .int .i64 x.2.1, .slice (some ⟨b3, o3, none⟩) x.2.2.1.length q3, .slice p4 x.2.2.2.1.length q4, .slice p5 x.2.2.2.2.length q5] = ZW at *
      clear SAME SM RDS RCS CXS CL OS CA RA hR RU1
      go_wp2_with (first | (refine wpList_store_row rfl 27 _ _ rfl w.heap.size #[.slice p1 x.1.length q1, .int .i64 x.2.1, .slice (some ⟨b3, o3, none⟩) x.2.2.1.length q3, .slice p4 x.2.2.2.1.length q4, .slice p5 x.2.2.2.2.length q5] rfl rfl 27 #[.slice none 0 0, .int .i64 0, .slice none 0 0, .slice none 0 0, .slice none 0 0] R hres.out rfl (by simp [Value.oneCell']) ?_; rw [e6]) | exact bodyPost_ret (v := .tuple #[.agg #[.slice p1 x.1.length q1, .int .i64 x.2.1, .slice (some ⟨b3, o3, none⟩) x.2.2.1.length q3, .slice p4 x.2.2.2.1.length q4, .slice p5 x.2.2.2.2.length q5], .slice (some ⟨b0, o0, none⟩) l.length qc, .slice (some ⟨g6, 0, none⟩) (s.length + 1) c6, .int .i64 now, .slice (some ⟨gd, 0, none⟩) d.length qd]) (by simp [results, Tryz.results8, go_sem, c0, c1, c2, c3, c4]) rfl ⟨x, [.slice p1 x.1.length q1, .int .i64 x.2.1, .slice (some ⟨b3, o3, none⟩) x.2.2.1.length q3, .slice p4 x.2.2.2.1.length q4, .slice p5 x.2.2.2.2.length q5], l, (s ++ [((c.1, c.2.1, dg) : SignD)]), now, d2, (some ⟨b0, o0, none⟩), (some ⟨g6, 0, none⟩), (some ⟨gd, 0, none⟩), qc, c6, qd, by rw [HLN.out, HLS.out], RP, RC, RS, RU, HDD.out, HNOW.out, BEL⟩)
  obtain ⟨ctx, hctx⟩ : ∃ a, x.2.2.2.1[0]? = some a := ⟨x.2.2.2.1[0], by simp [hU]⟩
  clear HCX HC20
  obtain ⟨b4, o4, pt, qt, rfl, -, -, HE⟩ := cloE (W := w5) (fun V hV => (RDS.out V hV).2.2.1) hctx
  have HC20 : Hid (ctx.length ≤ 20) := by have h := HUB.out ctx (List.mem_of_getElem? hctx); show _ ≤ _; omega
  have gu := (HE Wb CA.same).1
  rw [Nat.add_zero] at gu
  have HCX : Hid (∀ (W : World), (∀ k, w1.heap.size ≤ k → k < w5.heap.size → W.heap[k]? = w5.heap[k]?) → Rd W pt qt ctx) := fun W h => (HE W h).2
  clear HE hctx
  have a0 := ((CXS.out Wb CA.same).cell 0).trans (show _ = some _ from rfl)
  have a1 := ((CXS.out Wb CA.same).cell 1).trans (show _ = some _ from rfl)
  have a2 := ((CXS.out Wb CA.same).cell 2).trans (show _ = some _ from rfl)
  have a3 := ((CXS.out Wb CA.same).cell 3).trans (show _ = some _ from rfl)
  have a4 := ((CXS.out Wb CA.same).cell 4).trans (show _ = some _ from rfl)
  go_wp2_with fail
  clear a0 a1 a2 a3 a4 gu
  refine (l1Chance_c (w.heap.size + 1) p q cs (t3 + 1 + 1 + 1) 8 Wb HS (by have := hT.out; omega) (by have := hT.out; omega) (by omega) (by omega)).mono ?_
  rintro e Wa ⟨rb, rfl, HS2, hg⟩
  replace CA := CA.draw hg
  replace OS := OS.drawC hg HB1.out
  replace AC := AC.other hg (fun e => by have h := Option.some.inj e; have h1 := zgc.out; have h2 := HB1.out; omega)
  have HS := HS2
  clear hg HS2
  cases rb
  case false =>
    go_wp2_with fail
    obtain ⟨i1, hi1, hy0, hy1, hy2⟩ := info_parts infoSign
    obtain ⟨F, HF⟩ : ∃ F, Hid ((Value.slice ps s.length qs).ownBlock.toList = F) := ⟨_, rfl⟩
    have HFl : Hid (∀ k, k ∈ F → w5.heap.size ≤ k ∧ k < gc) := fun k hk => by rw [← HF.out] at hk; have h := OSB.out k (List.mem_append_left _ hk); have h1 := ZG.out; exact ⟨h.1, by omega⟩
    have hnc : gc ∉ F := fun h => Nat.lt_irrefl _ (HFl.out gc h).2
    have hnx : gx ∉ F := fun h => by have h1 := (HFl.out gx h).1; have h2 := XGE.out.2; omega
    have m0 := GenS.only_cell (fp := F) ((AC.cell 0).trans (show _ = some _ from rfl)) hnc
    have m1 := GenS.only_cell (fp := F) ((AC.cell 1).trans (show _ = some _ from rfl)) hnc
    have mx := GenS.only_cell (fp := F) (((CXS.out Wa CA.same).cell 0).trans (show _ = some _ from rfl)) hnx
    have hne := GenS.only_some F Wa
    refine GenS.wp_region_pick (GenS.only_pre F) [0, 1, 2, 3, 4, 5, 6, 7, 8] 13 4 1 rfl rfl rfl (by kernel_rfl) (by kernel_rfl) (by kernel_rfl) (by kernel_rfl) ?_
    simp only [opsAt, List.getElem?_toArray, List.getElem?_cons_zero, List.getElem?_cons_succ]
    repeat (go_big_quiet_step (fail))
    refine wpQuiet_nil ?_
    clear m0 m1 mx hne
    refine GenS.wpM_only (i := 9) (by kernel_rfl) ?_
    refine GenS.mOp_call rfl (by go_simp) 33 _ #[.slice p1 x.1.length q1, .int .i64 (3 - x.2.1), .slice pt ctx.length qt, .pointer (some ⟨gc, 0, none⟩)] (fun w => by go_simp) rfl ?_
    rintro _ ⟨n1, rfl⟩
    have D1 : Below Wa.heap.size Wa (Wa.drewN n1) := ⟨rfl, rfl, rfl, Nat.le_refl _, fun _ _ => rfl⟩
    replace CA := CA.stay D1
    replace OS := OS.stay D1
    replace AC := AC.stay D1
    replace HS := HS.keep D1
    clear D1
    generalize Wa.drewN n1 = U1 at *
    refine (l13Digest_c p1 pt q1 qt gc 0 x.1 ctx (3 - x.2.1) c U1 (RDS.out U1 CA.same).1 (HCX.out U1 CA.same) ((AC.cell 0).trans rfl) ((AC.cell 1).trans rfl) ((AC.cell 2).trans rfl) (by have := HX32.out; omega) HC20.out hoc.out).mono ?_
    rintro e wd ⟨u, rfl, OD, hb⟩
    have H32 : Hid ((dgN x.1 (3 - x.2.1) ctx c).length = 32) := dgN_len _ _ _ _
    generalize dgN x.1 (3 - x.2.1) ctx c = dg at *
    obtain ⟨pu, qu, rfl, -⟩ := OD.rd
    have HDge : Hid (∀ k, (Value.slice pu dg.length qu).ownBlock = some k → gc < k) := fun k hk => Nat.lt_of_lt_of_le AC.lt (OD.ge k hk)
    refine ⟨_, rfl, ⟨⟨wd, Only.below hb⟩, rfl⟩, ?_⟩
    replace OD := OD.lower (show w5.heap.size ≤ U1.heap.size from CA.size)
    replace CA := CA.stay hb
    replace OS := OS.stay hb
    replace AC := AC.stay hb
    replace HS := HS.keep hb
    clear hb
    have hne := GenS.only_some F wd
    refine GenS.wpM_more (GenS.only_pre F) [10] 3 2 rfl (by kernel_rfl) (by kernel_rfl) (by kernel_rfl) (by kernel_rfl) ?_
    simp only [opsAt, List.getElem?_toArray, List.getElem?_cons_zero, List.getElem?_cons_succ]
    go_simp
    repeat (go_big_quiet_step (fail))
    refine wpQuiet_nil ?_
    clear hne
    refine GenS.wpM_only (i := 11) (by kernel_rfl) ?_
    refine GenS.mOp_make rfl (by go_simp) ?_
    rintro _ ⟨n4, rfl⟩
    refine ⟨.slice (some ⟨(wd.drewN n4).heap.size, 0, none⟩) 1 1, (wd.drewN n4).alloc (.cells #[.int .i64 c.1, .int .i64 c.2.1, .slice pu dg.length qu] 67), by go_simp, ⟨⟨_, Only.below (alloc_below _ _)⟩, rfl⟩, ?_⟩
    have D4 : Below wd.heap.size wd ((wd.drewN n4).alloc (.cells #[.int .i64 c.1, .int .i64 c.2.1, .slice pu dg.length qu] 67)) := Below.step (show Below wd.heap.size wd (wd.drewN n4) from ⟨rfl, rfl, rfl, Nat.le_refl _, fun _ _ => rfl⟩) (alloc_below _ _)
    have A4 := Arr.new (wd.drewN n4) [.int .i64 c.1, .int .i64 c.2.1, .slice pu dg.length qu] 67
    replace CA := CA.stay D4
    replace OS := OS.stay D4
    replace AC := AC.stay D4
    replace HS := HS.keep D4
    replace OD := OD.stay D4
    generalize (wd.drewN n4).alloc (.cells #[.int .i64 c.1, .int .i64 c.2.1, .slice pu dg.length qu] 67) = U4 at *
    generalize (wd.drewN n4).heap.size = g4 at *
    clear D4
    refine GenS.wpM_only (i := 12) (by kernel_rfl) ?_
    refine GenS.mOp_list rfl (by go_simp) (by kernel_rfl) ?_
    rintro _ ⟨n5, rfl⟩
    have D5 : Below U4.heap.size U4 (U4.drewN n5) := ⟨rfl, rfl, rfl, Nat.le_refl _, fun _ _ => rfl⟩
    replace A4 := A4.stay D5
    replace OD := OD.stay D5
    replace CA := CA.stay D5
    replace OS := OS.stay D5
    replace AC := AC.stay D5
    replace HS := HS.keep D5
    clear D5
    generalize U4.drewN n5 = U5 at *
    have hnew : ∀ j u, ([.int .i64 c.1, .int .i64 c.2.1, .slice pu dg.length qu] : List Value)[j]? = some u → U5.cell? ((⟨g4, 0, none⟩ : Addr).add j) = some u := fun j u hj => A4.cells j u hj
    have hB5 : w5.heap.size ≤ U5.heap.size := CA.size
    have HRO : Hid _ := OS.row
    have hs40 : s.length ≤ 10000 := by have := HS40.out; omega
    refine wpList_append_lies _ rfl (.tmp 88) (.tmp 99) 34 rfl w5.heap.size 67 i1 (.agg #[.int .i64 0, .int .i64 0, .slice none 0 0]) 3 40 Tryz.underlying34 hi1 hy0 hy1 hy2 rfl (by decide) (.slice ps s.length qs) s.length xs rfl HRO.out ⟨g4, 0, none⟩ 1 1 [.int .i64 c.1, .int .i64 c.2.1, .slice pu dg.length qu] rfl rfl hnew (by intro u hu; simp at hu; rcases hu with rfl | rfl | rfl <;> rfl) (by decide) (by unfold maxLen; omega) (by omega) hB5 _ rfl ?_
    intro g6 c6 w6x hown6 hgrow6 hat6 hlt6
    refine ⟨rfl, by rw [← HF.out]; exact Only.grown hgrow6, ?_⟩
    have ON := OS.push (a := ((c.1, c.2.1, dg) : SignD)) (sign_own_mk (a := ((c.1, c.2.1, dg) : SignD)) (OD : Own U5 w5.heap.size (.slice pu dg.length qu) dg)) (fun j hj hj2 => by
      have h1 := HDge.out j (mem_opt.1 hj)
      have h2 := (OSB.out j hj2).2
      have h3 := ZG.out
      omega) (k := s.length + 1) (v' := .slice (some ⟨g6, 0, none⟩) (s.length + 1) c6) (g := g6) hown6 (by simp) hgrow6 rfl hat6
    have hsb : ∀ k, (Value.slice ps s.length qs).ownBlock = some k → w5.heap.size ≤ k ∧ k < gc := fun k hk => HFl.out k (by rw [← HF.out]; exact mem_opt.2 hk)
    replace CA := CA.other hgrow6 (fun k hk => (hsb k hk).1)
    replace AC := AC.other hgrow6 (fun e => by have h1 := (hsb gc e).2; omega)
    replace HS := HS.other hgrow6 (fun k hk => by have h1 := (hsb k hk).1; have h2 := HB1.out; omega)
    clear hown6 hat6 hlt6 HRO hnew A4 OS OD hgrow6 hsb hnc hnx HF HFl hi1 hy0 hy1 hy2 hs40 hB5 H32
    refine GenS.wpM_end (by kernel_rfl) rfl (by kernel_rfl) (by decide) ?_
    rintro _ ⟨n6, rfl⟩
    have D6 : Below w6x.heap.size w6x (w6x.drewN n6) := ⟨rfl, rfl, rfl, Nat.le_refl _, fun _ _ => rfl⟩
    simp only [List.drop_succ_cons, List.drop_zero]
    have OS := ON
    clear ON
    replace CA := CA.stay D6
    replace OS := OS.stay D6
    replace AC := AC.stay D6
    replace HS := HS.keep D6
    clear D6
    generalize w6x.drewN n6 = Y at *
    have HYB : Hid (∀ k, k ∈ (Value.slice (some ⟨g6, 0, none⟩) (s.length + 1) c6).ownBlock.toList ++ (fp ++ (Value.slice pu dg.length qu).ownBlock.toList) → w5.heap.size ≤ k ∧ k < Y.heap.size) := fun k hk => OS.ins k hk
    have HLN : Hid ((s ++ [((c.1, c.2.1, dg) : SignD)]).length = s.length + 1) := by show _ = _; simp
    have hy5 : Hid (w5.heap.size ≤ Y.heap.size) := CA.size
    have a0 := ((CXS.out Y CA.same).cell 0).trans (show _ = some _ from rfl)
    go_wp2_with fail
    refine (l13Make_c p1 pt q1 qt gc 0 x.1 ctx (3 - x.2.1) c (s.length : Int) Y (RDS.out Y CA.same).1 (HCX.out Y CA.same) ((AC.cell 0).trans rfl) ((AC.cell 1).trans rfl) ((AC.cell 2).trans rfl) (by have := HX32.out; omega) HC20.out hoc.out (by omega) (by have := HS40.out; omega)).mono ?_
    rintro e w11 ⟨u, rfl, OM, hb⟩
    have hml := mkN_len x.1 (3 - x.2.1) ctx c (s.length : Int)
    generalize mkN x.1 (3 - x.2.1) ctx c (s.length : Int) = d at *
    obtain ⟨pd, qd, rfl, -⟩ := OM.rd
    have HDL : Hid (1 ≤ d.length ∧ d.length ≤ 100) := by have := HC20.out; rw [hml]; exact ⟨by omega, by omega⟩
    clear a0 hml
    replace CA := CA.stay hb
    replace OS := OS.stay hb
    replace AC := AC.stay hb
    replace HS := HS.keep hb
    clear hb
    go_wp2_with fail
    refine (l1Chance_c (w.heap.size + 1) p q cs ((t3 + 1 + 1 + 1) + 1) 8 w11 HS (by have := hT.out; omega) (by have := hT.out; omega) (by omega) (by omega)).mono ?_
    rintro e w12 ⟨rb, rfl, HS2, hg⟩
    replace OM := OM.draw hg (by have h1 := HB1.out; have h2 := hy5.out; omega)
    replace CA := CA.draw hg
    replace OS := OS.drawC hg HB1.out
    replace AC := AC.other hg (fun e => by have h := Option.some.inj e; have h1 := zgc.out; have h2 := HB1.out; omega)
    have HS := HS2
    clear hg HS2
    cases rb
    case false =>
      have a0 := ((CXS.out w12 CA.same).cell 0).trans (show _ = some _ from rfl)
      have a1 := ((CXS.out w12 CA.same).cell 1).trans (show _ = some _ from rfl)
      have a2 := ((CXS.out w12 CA.same).cell 2).trans (show _ = some _ from rfl)
      have a3 := ((CXS.out w12 CA.same).cell 3).trans (show _ = some _ from rfl)
      have a4 := ((CXS.out w12 CA.same).cell 4).trans (show _ = some _ from rfl)
      have RA := CA.R.row [.slice p1 x.1.length q1, .int .i64 x.2.1, .slice (some ⟨b3, o3, none⟩) x.2.2.1.length q3, .slice (some ⟨b4, o4, none⟩) x.2.2.2.1.length q4, .slice p5 x.2.2.2.2.length q5]
      have SAME : ∀ k, w.heap.size < k → (w12.setRow w.heap.size #[.slice p1 x.1.length q1, .int .i64 x.2.1, .slice (some ⟨b3, o3, none⟩) x.2.2.1.length q3, .slice (some ⟨b4, o4, none⟩) x.2.2.2.1.length q4, .slice p5 x.2.2.2.2.length q5]).heap[k]? = w12.heap[k]? := fun k hk => setRow_other w12 w.heap.size k #[.slice p1 x.1.length q1, .int .i64 x.2.1, .slice (some ⟨b3, o3, none⟩) x.2.2.1.length q3, .slice (some ⟨b4, o4, none⟩) x.2.2.2.1.length q4, .slice p5 x.2.2.2.2.length q5] (by omega)
      have SM : ∀ k, w1.heap.size ≤ k → k < w5.heap.size → (w12.setRow w.heap.size #[.slice p1 x.1.length q1, .int .i64 x.2.1, .slice (some ⟨b3, o3, none⟩) x.2.2.1.length q3, .slice (some ⟨b4, o4, none⟩) x.2.2.2.1.length q4, .slice p5 x.2.2.2.2.length q5]).heap[k]? = w5.heap[k]? := fun k h1 h2 => (SAME k (by have h := z1.out; omega)).trans (CA.same k h1 h2)
      have RP := CL _ SM
      have RC := RCS.out _ SM
      have RS := RdL.own (OS.fr (fun k hk => SAME k (by have h := (OS.ins k hk).1; have h1 := CA.low; have h2 := CA.mid; omega)))
      have RU := rd_fromT (Rd.own OM) (fun y hy => SAME y.block (by have h := OM.ge y.block (by subst hy; rfl); have h1 := HB1.out; have h2 := hy5.out; omega))
      have BEL := Below.row CA.bw (Nat.le_refl _) #[.slice p1 x.1.length q1, .int .i64 x.2.1, .slice (some ⟨b3, o3, none⟩) x.2.2.1.length q3, .slice (some ⟨b4, o4, none⟩) x.2.2.2.1.length q4, .slice p5 x.2.2.2.2.length q5]
      have c0 := (RA.cell 0).trans (show _ = some _ from rfl)
      have c1 := (RA.cell 1).trans (show _ = some _ from rfl)
      have c2 := (RA.cell 2).trans (show _ = some _ from rfl)
      have c3 := (RA.cell 3).trans (show _ = some _ from rfl)
      have c4 := (RA.cell 4).trans (show _ = some _ from rfl)
      have R := CA.R
      generalize e6 : w12.setRow w.heap.size #[.slice p1 x.1.length q1, .int .i64 x.2.1, .slice (some ⟨b3, o3, none⟩) x.2.2.1.length q3, .slice (some ⟨b4, o4, none⟩) x.2.2.2.1.length q4, .slice p5 x.2.2.2.2.length q5] = ZW at *
      clear SAME SM RDS RCS CXS CL OS CA RA OM AC HS HCX
      go_wp2_with (first | (refine wpList_store_row rfl 27 _ _ rfl w.heap.size #[.slice p1 x.1.length q1, .int .i64 x.2.1, .slice (some ⟨b3, o3, none⟩) x.2.2.1.length q3, .slice (some ⟨b4, o4, none⟩) x.2.2.2.1.length q4, .slice p5 x.2.2.2.2.length q5] rfl rfl 27 #[.slice none 0 0, .int .i64 0, .slice none 0 0, .slice none 0 0, .slice none 0 0] R hres.out rfl (by simp [Value.oneCell']) ?_; rw [e6]) | exact bodyPost_ret (v := .tuple #[.agg #[.slice p1 x.1.length q1, .int .i64 x.2.1, .slice (some ⟨b3, o3, none⟩) x.2.2.1.length q3, .slice (some ⟨b4, o4, none⟩) x.2.2.2.1.length q4, .slice p5 x.2.2.2.2.length q5], .slice (some ⟨b0, o0, none⟩) l.length qc, .slice (some ⟨g6, 0, none⟩) (s.length + 1) c6, .int .i64 now, .slice pd d.length qd]) (by simp [results, Tryz.results8, go_sem, c0, c1, c2, c3, c4]) rfl ⟨x, [.slice p1 x.1.length q1, .int .i64 x.2.1, .slice (some ⟨b3, o3, none⟩) x.2.2.1.length q3, .slice (some ⟨b4, o4, none⟩) x.2.2.2.1.length q4, .slice p5 x.2.2.2.2.length q5], l, (s ++ [((c.1, c.2.1, dg) : SignD)]), now, d, (some ⟨b0, o0, none⟩), (some ⟨g6, 0, none⟩), pd, qc, c6, qd, by rw [HLN.out], RP, RC, RS, RU, HDD.out, HNOW.out, BEL⟩)
    obtain ⟨gd, e4⟩ : ∃ gd, pd = some ⟨gd, 0, none⟩ := by
      rcases OM.2 with ⟨e, hz⟩ | ⟨gd, cap, cur, e, -⟩
      · have := HDL.out.1; omega
      · simp at e; exact ⟨gd, e.1⟩
    subst e4
    have hgd : Hid (Y.heap.size ≤ gd) := OM.ge gd rfl
    have hqd := (Rd.own OM).1
    have hqd2 : qd ≤ 2 ^ 63 - 1 := (Rd.own OM).2.1
    go_wp2_with fail
    refine (l1Next_c (w.heap.size + 1) p q cs (((t3 + 1 + 1 + 1) + 1) + 1) (d.length : Int) w12 HS (by have := hT.out; omega) (by have := hT.out; omega) (by have := HDL.out; omega) (by have := HDL.out; omega)).mono ?_
    rintro e w13 ⟨i2, rfl, hi0, hi1, HS2, hg⟩
    replace OM := OM.draw hg (by have h1 := HB1.out; have h2 := hy5.out; omega)
    replace CA := CA.draw hg
    replace OS := OS.drawC hg HB1.out
    replace AC := AC.other hg (fun e => by have h := Option.some.inj e; have h1 := zgc.out; have h2 := HB1.out; omega)
    have HS := HS2
    clear hg HS2
    obtain ⟨i2, rfl⟩ := Int.eq_ofNat_of_zero_le hi0
    have hil : i2 < d.length := by omega
    have k5 : w13.ownsRow Y.heap.size 5 1 (.slice (some ⟨gd, 0, none⟩) d.length qd) d.length (d.map u8v) := OM
    have cx := World.ownsRow.cellAt k5 i2 (by omega)
    rw [u8v_at hil] at cx
    have fx := World.ownsRow.frozenAt k5 i2
    have R2 := (World.ownsRow.stored k5 i2 (u8v (d.getD i2 0 ^^^ 1))).1
    have hR : Own (w13.setCell ⟨gd, i2, none⟩ (u8v (d.getD i2 0 ^^^ 1))) Y.heap.size (.slice (some ⟨gd, 0, none⟩) d.length qd) (d.set i2 (d.getD i2 0 ^^^ 1)) := by unfold Own; rw [List.length_set, List.map_set]; exact R2
    unfold at8 at cx
    generalize d.getD i2 0 = y at *
    have hset : u8v (y ^^^ 1) = .int .u8 ((y.toNat ^^^ 1 : Nat) : Int) := by unfold u8v; rw [UInt8.toNat_xor]; rfl
    have hxo : bits .xor .u8 (y.toNat : Int) 1 = ((y.toNat ^^^ 1 : Nat) : Int) := (u8_xor8 y 1).trans (by rw [UInt8.toNat_xor]; rfl)
    rw [hset] at hR
    have hgs := grownBy_set w13 gd i2 (.int .u8 ((y.toNat ^^^ 1 : Nat) : Int))
    replace CA := CA.other hgs (fun k hk => by have h := Option.some.inj hk; have h1 := hgd.out; have h2 := hy5.out; omega)
    replace OS := OS.other (Only.grown hgs) (fun k hk e => by have h1 := (HYB.out k hk).2; have h2 := hgd.out; have h3 := List.mem_singleton.1 e; omega)
    have HLS : Hid ((d.set i2 (y ^^^ 1)).length = d.length) := List.length_set ..
    generalize d.set i2 (y ^^^ 1) = d2 at *
    clear k5 R2 hset hgs OM AC HS HCX
    have RU1 := Rd.own hR
    have a0 := ((CXS.out (w13.setCell ⟨gd, i2, none⟩ (.int .u8 ((y.toNat ^^^ 1 : Nat) : Int))) CA.same).cell 0).trans (show _ = some _ from rfl)
    have a1 := ((CXS.out (w13.setCell ⟨gd, i2, none⟩ (.int .u8 ((y.toNat ^^^ 1 : Nat) : Int))) CA.same).cell 1).trans (show _ = some _ from rfl)
    have a2 := ((CXS.out (w13.setCell ⟨gd, i2, none⟩ (.int .u8 ((y.toNat ^^^ 1 : Nat) : Int))) CA.same).cell 2).trans (show _ = some _ from rfl)
    have a3 := ((CXS.out (w13.setCell ⟨gd, i2, none⟩ (.int .u8 ((y.toNat ^^^ 1 : Nat) : Int))) CA.same).cell 3).trans (show _ = some _ from rfl)
    have a4 := ((CXS.out (w13.setCell ⟨gd, i2, none⟩ (.int .u8 ((y.toNat ^^^ 1 : Nat) : Int))) CA.same).cell 4).trans (show _ = some _ from rfl)
    have RA := CA.R.row [.slice p1 x.1.length q1, .int .i64 x.2.1, .slice (some ⟨b3, o3, none⟩) x.2.2.1.length q3, .slice (some ⟨b4, o4, none⟩) x.2.2.2.1.length q4, .slice p5 x.2.2.2.2.length q5]
    have SAME : ∀ k, w.heap.size < k → ((w13.setCell ⟨gd, i2, none⟩ (.int .u8 ((y.toNat ^^^ 1 : Nat) : Int))).setRow w.heap.size #[.slice p1 x.1.length q1, .int .i64 x.2.1, .slice (some ⟨b3, o3, none⟩) x.2.2.1.length q3, .slice (some ⟨b4, o4, none⟩) x.2.2.2.1.length q4, .slice p5 x.2.2.2.2.length q5]).heap[k]? = (w13.setCell ⟨gd, i2, none⟩ (.int .u8 ((y.toNat ^^^ 1 : Nat) : Int))).heap[k]? := fun k hk => setRow_other (w13.setCell ⟨gd, i2, none⟩ (.int .u8 ((y.toNat ^^^ 1 : Nat) : Int))) w.heap.size k #[.slice p1 x.1.length q1, .int .i64 x.2.1, .slice (some ⟨b3, o3, none⟩) x.2.2.1.length q3, .slice (some ⟨b4, o4, none⟩) x.2.2.2.1.length q4, .slice p5 x.2.2.2.2.length q5] (by omega)
    have SM : ∀ k, w1.heap.size ≤ k → k < w5.heap.size → ((w13.setCell ⟨gd, i2, none⟩ (.int .u8 ((y.toNat ^^^ 1 : Nat) : Int))).setRow w.heap.size #[.slice p1 x.1.length q1, .int .i64 x.2.1, .slice (some ⟨b3, o3, none⟩) x.2.2.1.length q3, .slice (some ⟨b4, o4, none⟩) x.2.2.2.1.length q4, .slice p5 x.2.2.2.2.length q5]).heap[k]? = w5.heap[k]? := fun k h1 h2 => (SAME k (by have h := z1.out; omega)).trans (CA.same k h1 h2)
    have RP := CL _ SM
    have RC := RCS.out _ SM
    have RS := RdL.own (OS.fr (fun k hk => SAME k (by have h := (OS.ins k hk).1; have h1 := CA.low; have h2 := CA.mid; omega)))
    have RU := rd_fromT RU1 (fun y hy => SAME y.block (by have h := hR.ge y.block (by cases hy; rfl); have h1 := HB1.out; have h2 := hy5.out; omega))
    have BEL := Below.row CA.bw (Nat.le_refl _) #[.slice p1 x.1.length q1, .int .i64 x.2.1, .slice (some ⟨b3, o3, none⟩) x.2.2.1.length q3, .slice (some ⟨b4, o4, none⟩) x.2.2.2.1.length q4, .slice p5 x.2.2.2.2.length q5]
    have c0 := (RA.cell 0).trans (show _ = some _ from rfl)
    have c1 := (RA.cell 1).trans (show _ = some _ from rfl)
    have c2 := (RA.cell 2).trans (show _ = some _ from rfl)
    have c3 := (RA.cell 3).trans (show _ = some _ from rfl)
    have c4 := (RA.cell 4).trans (show _ = some _ from rfl)
    have R := CA.R
    generalize e6 : (w13.setCell ⟨gd, i2, none⟩ (.int .u8 ((y.toNat ^^^ 1 : Nat) : Int))).setRow w.heap.size #[.slice p1 x.1.length q1, .int .i64 x.2.1, .slice (some ⟨b3, o3, none⟩) x.2.2.1.length q3, .slice (some ⟨b4, o4, none⟩) x.2.2.2.1.length q4, .slice p5 x.2.2.2.2.length q5] = ZW at *
    clear SAME SM RDS RCS CXS CL OS CA RA hR RU1
    go_wp2_with (first | (refine wpList_store_row rfl 27 _ _ rfl w.heap.size #[.slice p1 x.1.length q1, .int .i64 x.2.1, .slice (some ⟨b3, o3, none⟩) x.2.2.1.length q3, .slice (some ⟨b4, o4, none⟩) x.2.2.2.1.length q4, .slice p5 x.2.2.2.2.length q5] rfl rfl 27 #[.slice none 0 0, .int .i64 0, .slice none 0 0, .slice none 0 0, .slice none 0 0] R hres.out rfl (by simp [Value.oneCell']) ?_; rw [e6]) | exact bodyPost_ret (v := .tuple #[.agg #[.slice p1 x.1.length q1, .int .i64 x.2.1, .slice (some ⟨b3, o3, none⟩) x.2.2.1.length q3, .slice (some ⟨b4, o4, none⟩) x.2.2.2.1.length q4, .slice p5 x.2.2.2.2.length q5], .slice (some ⟨b0, o0, none⟩) l.length qc, .slice (some ⟨g6, 0, none⟩) (s.length + 1) c6, .int .i64 now, .slice (some ⟨gd, 0, none⟩) d.length qd]) (by simp [results, Tryz.results8, go_sem, c0, c1, c2, c3, c4]) rfl ⟨x, [.slice p1 x.1.length q1, .int .i64 x.2.1, .slice (some ⟨b3, o3, none⟩) x.2.2.1.length q3, .slice (some ⟨b4, o4, none⟩) x.2.2.2.1.length q4, .slice p5 x.2.2.2.2.length q5], l, (s ++ [((c.1, c.2.1, dg) : SignD)]), now, d2, (some ⟨b0, o0, none⟩), (some ⟨g6, 0, none⟩), (some ⟨gd, 0, none⟩), qc, c6, qd, by rw [HLN.out, HLS.out], RP, RC, RS, RU, HDD.out, HNOW.out, BEL⟩)
  case true =>
    have a1 := ((CXS.out Wa CA.same).cell 1).trans (show _ = some _ from rfl)
    go_wp2_with fail
    obtain ⟨i1, hi1, hy0, hy1, hy2⟩ := info_parts infoSign
    obtain ⟨F, HF⟩ : ∃ F, Hid ((Value.slice ps s.length qs).ownBlock.toList = F) := ⟨_, rfl⟩
    have HFl : Hid (∀ k, k ∈ F → w5.heap.size ≤ k ∧ k < gc) := fun k hk => by rw [← HF.out] at hk; have h := OSB.out k (List.mem_append_left _ hk); have h1 := ZG.out; exact ⟨h.1, by omega⟩
    have hnc : gc ∉ F := fun h => Nat.lt_irrefl _ (HFl.out gc h).2
    have hnx : gx ∉ F := fun h => by have h1 := (HFl.out gx h).1; have h2 := XGE.out.2; omega
    have m0 := GenS.only_cell (fp := F) ((AC.cell 0).trans (show _ = some _ from rfl)) hnc
    have m1 := GenS.only_cell (fp := F) ((AC.cell 1).trans (show _ = some _ from rfl)) hnc
    have mx := GenS.only_cell (fp := F) (((CXS.out Wa CA.same).cell 0).trans (show _ = some _ from rfl)) hnx
    have hne := GenS.only_some F Wa
    refine GenS.wp_region_pick (GenS.only_pre F) [0, 1, 2, 3, 4, 5, 6, 7, 8] 13 4 1 rfl rfl rfl (by kernel_rfl) (by kernel_rfl) (by kernel_rfl) (by kernel_rfl) ?_
    simp only [opsAt, List.getElem?_toArray, List.getElem?_cons_zero, List.getElem?_cons_succ]
    repeat (go_big_quiet_step (fail))
    refine wpQuiet_nil ?_
    clear m0 m1 mx hne
    refine GenS.wpM_only (i := 9) (by kernel_rfl) ?_
    refine GenS.mOp_call rfl (by go_simp) 33 _ #[.slice p1 x.1.length q1, .int .i64 x.2.1, .slice pt ctx.length qt, .pointer (some ⟨gc, 0, none⟩)] (fun w => by go_simp) rfl ?_
    rintro _ ⟨n1, rfl⟩
    have D1 : Below Wa.heap.size Wa (Wa.drewN n1) := ⟨rfl, rfl, rfl, Nat.le_refl _, fun _ _ => rfl⟩
    replace CA := CA.stay D1
    replace OS := OS.stay D1
    replace AC := AC.stay D1
    replace HS := HS.keep D1
    clear D1
    generalize Wa.drewN n1 = U1 at *
    refine (l13Digest_c p1 pt q1 qt gc 0 x.1 ctx x.2.1 c U1 (RDS.out U1 CA.same).1 (HCX.out U1 CA.same) ((AC.cell 0).trans rfl) ((AC.cell 1).trans rfl) ((AC.cell 2).trans rfl) (by have := HX32.out; omega) HC20.out hoc.out).mono ?_
    rintro e wd ⟨u, rfl, OD, hb⟩
    have H32 : Hid ((dgN x.1 x.2.1 ctx c).length = 32) := dgN_len _ _ _ _
    generalize dgN x.1 x.2.1 ctx c = dg at *
    obtain ⟨pu, qu, rfl, -⟩ := OD.rd
    have HDge : Hid (∀ k, (Value.slice pu dg.length qu).ownBlock = some k → gc < k) := fun k hk => Nat.lt_of_lt_of_le AC.lt (OD.ge k hk)
    refine ⟨_, rfl, ⟨⟨wd, Only.below hb⟩, rfl⟩, ?_⟩
    replace OD := OD.lower (show w5.heap.size ≤ U1.heap.size from CA.size)
    replace CA := CA.stay hb
    replace OS := OS.stay hb
    replace AC := AC.stay hb
    replace HS := HS.keep hb
    clear hb
    have hne := GenS.only_some F wd
    refine GenS.wpM_more (GenS.only_pre F) [10] 3 2 rfl (by kernel_rfl) (by kernel_rfl) (by kernel_rfl) (by kernel_rfl) ?_
    simp only [opsAt, List.getElem?_toArray, List.getElem?_cons_zero, List.getElem?_cons_succ]
    go_simp
    repeat (go_big_quiet_step (fail))
    refine wpQuiet_nil ?_
    clear hne
    refine GenS.wpM_only (i := 11) (by kernel_rfl) ?_
    refine GenS.mOp_make rfl (by go_simp) ?_
    rintro _ ⟨n4, rfl⟩
    refine ⟨.slice (some ⟨(wd.drewN n4).heap.size, 0, none⟩) 1 1, (wd.drewN n4).alloc (.cells #[.int .i64 c.1, .int .i64 c.2.1, .slice pu dg.length qu] 67), by go_simp, ⟨⟨_, Only.below (alloc_below _ _)⟩, rfl⟩, ?_⟩
    have D4 : Below wd.heap.size wd ((wd.drewN n4).alloc (.cells #[.int .i64 c.1, .int .i64 c.2.1, .slice pu dg.length qu] 67)) := Below.step (show Below wd.heap.size wd (wd.drewN n4) from ⟨rfl, rfl, rfl, Nat.le_refl _, fun _ _ => rfl⟩) (alloc_below _ _)
    have A4 := Arr.new (wd.drewN n4) [.int .i64 c.1, .int .i64 c.2.1, .slice pu dg.length qu] 67
    replace CA := CA.stay D4
    replace OS := OS.stay D4
    replace AC := AC.stay D4
    replace HS := HS.keep D4
    replace OD := OD.stay D4
    generalize (wd.drewN n4).alloc (.cells #[.int .i64 c.1, .int .i64 c.2.1, .slice pu dg.length qu] 67) = U4 at *
    generalize (wd.drewN n4).heap.size = g4 at *
    clear D4
    refine GenS.wpM_only (i := 12) (by kernel_rfl) ?_
    refine GenS.mOp_list rfl (by go_simp) (by kernel_rfl) ?_
    rintro _ ⟨n5, rfl⟩
    have D5 : Below U4.heap.size U4 (U4.drewN n5) := ⟨rfl, rfl, rfl, Nat.le_refl _, fun _ _ => rfl⟩
    replace A4 := A4.stay D5
    replace OD := OD.stay D5
    replace CA := CA.stay D5
    replace OS := OS.stay D5
    replace AC := AC.stay D5
    replace HS := HS.keep D5
    clear D5
    generalize U4.drewN n5 = U5 at *
    have hnew : ∀ j u, ([.int .i64 c.1, .int .i64 c.2.1, .slice pu dg.length qu] : List Value)[j]? = some u → U5.cell? ((⟨g4, 0, none⟩ : Addr).add j) = some u := fun j u hj => A4.cells j u hj
    have hB5 : w5.heap.size ≤ U5.heap.size := CA.size
    have HRO : Hid _ := OS.row
    have hs40 : s.length ≤ 10000 := by have := HS40.out; omega
    refine wpList_append_lies _ rfl (.tmp 88) (.tmp 99) 34 rfl w5.heap.size 67 i1 (.agg #[.int .i64 0, .int .i64 0, .slice none 0 0]) 3 40 Tryz.underlying34 hi1 hy0 hy1 hy2 rfl (by decide) (.slice ps s.length qs) s.length xs rfl HRO.out ⟨g4, 0, none⟩ 1 1 [.int .i64 c.1, .int .i64 c.2.1, .slice pu dg.length qu] rfl rfl hnew (by intro u hu; simp at hu; rcases hu with rfl | rfl | rfl <;> rfl) (by decide) (by unfold maxLen; omega) (by omega) hB5 _ rfl ?_
    intro g6 c6 w6x hown6 hgrow6 hat6 hlt6
    refine ⟨rfl, by rw [← HF.out]; exact Only.grown hgrow6, ?_⟩
    have ON := OS.push (a := ((c.1, c.2.1, dg) : SignD)) (sign_own_mk (a := ((c.1, c.2.1, dg) : SignD)) (OD : Own U5 w5.heap.size (.slice pu dg.length qu) dg)) (fun j hj hj2 => by
      have h1 := HDge.out j (mem_opt.1 hj)
      have h2 := (OSB.out j hj2).2
      have h3 := ZG.out
      omega) (k := s.length + 1) (v' := .slice (some ⟨g6, 0, none⟩) (s.length + 1) c6) (g := g6) hown6 (by simp) hgrow6 rfl hat6
    have hsb : ∀ k, (Value.slice ps s.length qs).ownBlock = some k → w5.heap.size ≤ k ∧ k < gc := fun k hk => HFl.out k (by rw [← HF.out]; exact mem_opt.2 hk)
    replace CA := CA.other hgrow6 (fun k hk => (hsb k hk).1)
    replace AC := AC.other hgrow6 (fun e => by have h1 := (hsb gc e).2; omega)
    replace HS := HS.other hgrow6 (fun k hk => by have h1 := (hsb k hk).1; have h2 := HB1.out; omega)
    clear hown6 hat6 hlt6 HRO hnew A4 OS OD hgrow6 hsb hnc hnx HF HFl hi1 hy0 hy1 hy2 hs40 hB5 H32
    refine GenS.wpM_end (by kernel_rfl) rfl (by kernel_rfl) (by decide) ?_
    rintro _ ⟨n6, rfl⟩
    have D6 : Below w6x.heap.size w6x (w6x.drewN n6) := ⟨rfl, rfl, rfl, Nat.le_refl _, fun _ _ => rfl⟩
    simp only [List.drop_succ_cons, List.drop_zero]
    have OS := ON
    clear ON
    replace CA := CA.stay D6
    replace OS := OS.stay D6
    replace AC := AC.stay D6
    replace HS := HS.keep D6
    clear D6
    generalize w6x.drewN n6 = Y at *
    have HYB : Hid (∀ k, k ∈ (Value.slice (some ⟨g6, 0, none⟩) (s.length + 1) c6).ownBlock.toList ++ (fp ++ (Value.slice pu dg.length qu).ownBlock.toList) → w5.heap.size ≤ k ∧ k < Y.heap.size) := fun k hk => OS.ins k hk
    have HLN : Hid ((s ++ [((c.1, c.2.1, dg) : SignD)]).length = s.length + 1) := by show _ = _; simp
    have hy5 : Hid (w5.heap.size ≤ Y.heap.size) := CA.size
    have a0 := ((CXS.out Y CA.same).cell 0).trans (show _ = some _ from rfl)
    go_wp2_with fail
    refine (l13Make_c p1 pt q1 qt gc 0 x.1 ctx x.2.1 c (s.length : Int) Y (RDS.out Y CA.same).1 (HCX.out Y CA.same) ((AC.cell 0).trans rfl) ((AC.cell 1).trans rfl) ((AC.cell 2).trans rfl) (by have := HX32.out; omega) HC20.out hoc.out (by omega) (by have := HS40.out; omega)).mono ?_
    rintro e w11 ⟨u, rfl, OM, hb⟩
    have hml := mkN_len x.1 x.2.1 ctx c (s.length : Int)
    generalize mkN x.1 x.2.1 ctx c (s.length : Int) = d at *
    obtain ⟨pd, qd, rfl, -⟩ := OM.rd
    have HDL : Hid (1 ≤ d.length ∧ d.length ≤ 100) := by have := HC20.out; rw [hml]; exact ⟨by omega, by omega⟩
    clear a0 hml
    replace CA := CA.stay hb
    replace OS := OS.stay hb
    replace AC := AC.stay hb
    replace HS := HS.keep hb
    clear hb
    go_wp2_with fail
    refine (l1Chance_c (w.heap.size + 1) p q cs ((t3 + 1 + 1 + 1) + 1) 8 w11 HS (by have := hT.out; omega) (by have := hT.out; omega) (by omega) (by omega)).mono ?_
    rintro e w12 ⟨rb, rfl, HS2, hg⟩
    replace OM := OM.draw hg (by have h1 := HB1.out; have h2 := hy5.out; omega)
    replace CA := CA.draw hg
    replace OS := OS.drawC hg HB1.out
    replace AC := AC.other hg (fun e => by have h := Option.some.inj e; have h1 := zgc.out; have h2 := HB1.out; omega)
    have HS := HS2
    clear hg HS2
    cases rb
    case false =>
      have a0 := ((CXS.out w12 CA.same).cell 0).trans (show _ = some _ from rfl)
      have a1 := ((CXS.out w12 CA.same).cell 1).trans (show _ = some _ from rfl)
      have a2 := ((CXS.out w12 CA.same).cell 2).trans (show _ = some _ from rfl)
      have a3 := ((CXS.out w12 CA.same).cell 3).trans (show _ = some _ from rfl)
      have a4 := ((CXS.out w12 CA.same).cell 4).trans (show _ = some _ from rfl)
      have RA := CA.R.row [.slice p1 x.1.length q1, .int .i64 x.2.1, .slice (some ⟨b3, o3, none⟩) x.2.2.1.length q3, .slice (some ⟨b4, o4, none⟩) x.2.2.2.1.length q4, .slice p5 x.2.2.2.2.length q5]
      have SAME : ∀ k, w.heap.size < k → (w12.setRow w.heap.size #[.slice p1 x.1.length q1, .int .i64 x.2.1, .slice (some ⟨b3, o3, none⟩) x.2.2.1.length q3, .slice (some ⟨b4, o4, none⟩) x.2.2.2.1.length q4, .slice p5 x.2.2.2.2.length q5]).heap[k]? = w12.heap[k]? := fun k hk => setRow_other w12 w.heap.size k #[.slice p1 x.1.length q1, .int .i64 x.2.1, .slice (some ⟨b3, o3, none⟩) x.2.2.1.length q3, .slice (some ⟨b4, o4, none⟩) x.2.2.2.1.length q4, .slice p5 x.2.2.2.2.length q5] (by omega)
      have SM : ∀ k, w1.heap.size ≤ k → k < w5.heap.size → (w12.setRow w.heap.size #[.slice p1 x.1.length q1, .int .i64 x.2.1, .slice (some ⟨b3, o3, none⟩) x.2.2.1.length q3, .slice (some ⟨b4, o4, none⟩) x.2.2.2.1.length q4, .slice p5 x.2.2.2.2.length q5]).heap[k]? = w5.heap[k]? := fun k h1 h2 => (SAME k (by have h := z1.out; omega)).trans (CA.same k h1 h2)
      have RP := CL _ SM
      have RC := RCS.out _ SM
      have RS := RdL.own (OS.fr (fun k hk => SAME k (by have h := (OS.ins k hk).1; have h1 := CA.low; have h2 := CA.mid; omega)))
      have RU := rd_fromT (Rd.own OM) (fun y hy => SAME y.block (by have h := OM.ge y.block (by subst hy; rfl); have h1 := HB1.out; have h2 := hy5.out; omega))
      have BEL := Below.row CA.bw (Nat.le_refl _) #[.slice p1 x.1.length q1, .int .i64 x.2.1, .slice (some ⟨b3, o3, none⟩) x.2.2.1.length q3, .slice (some ⟨b4, o4, none⟩) x.2.2.2.1.length q4, .slice p5 x.2.2.2.2.length q5]
      have c0 := (RA.cell 0).trans (show _ = some _ from rfl)
      have c1 := (RA.cell 1).trans (show _ = some _ from rfl)
      have c2 := (RA.cell 2).trans (show _ = some _ from rfl)
      have c3 := (RA.cell 3).trans (show _ = some _ from rfl)
      have c4 := (RA.cell 4).trans (show _ = some _ from rfl)
      have R := CA.R
      generalize e6 : w12.setRow w.heap.size #[.slice p1 x.1.length q1, .int .i64 x.2.1, .slice (some ⟨b3, o3, none⟩) x.2.2.1.length q3, .slice (some ⟨b4, o4, none⟩) x.2.2.2.1.length q4, .slice p5 x.2.2.2.2.length q5] = ZW at *
      clear SAME SM RDS RCS CXS CL OS CA RA OM AC HS HCX
      go_wp2_with (first | (refine wpList_store_row rfl 27 _ _ rfl w.heap.size #[.slice p1 x.1.length q1, .int .i64 x.2.1, .slice (some ⟨b3, o3, none⟩) x.2.2.1.length q3, .slice (some ⟨b4, o4, none⟩) x.2.2.2.1.length q4, .slice p5 x.2.2.2.2.length q5] rfl rfl 27 #[.slice none 0 0, .int .i64 0, .slice none 0 0, .slice none 0 0, .slice none 0 0] R hres.out rfl (by simp [Value.oneCell']) ?_; rw [e6]) | exact bodyPost_ret (v := .tuple #[.agg #[.slice p1 x.1.length q1, .int .i64 x.2.1, .slice (some ⟨b3, o3, none⟩) x.2.2.1.length q3, .slice (some ⟨b4, o4, none⟩) x.2.2.2.1.length q4, .slice p5 x.2.2.2.2.length q5], .slice (some ⟨b0, o0, none⟩) l.length qc, .slice (some ⟨g6, 0, none⟩) (s.length + 1) c6, .int .i64 now, .slice pd d.length qd]) (by simp [results, Tryz.results8, go_sem, c0, c1, c2, c3, c4]) rfl ⟨x, [.slice p1 x.1.length q1, .int .i64 x.2.1, .slice (some ⟨b3, o3, none⟩) x.2.2.1.length q3, .slice (some ⟨b4, o4, none⟩) x.2.2.2.1.length q4, .slice p5 x.2.2.2.2.length q5], l, (s ++ [((c.1, c.2.1, dg) : SignD)]), now, d, (some ⟨b0, o0, none⟩), (some ⟨g6, 0, none⟩), pd, qc, c6, qd, by rw [HLN.out], RP, RC, RS, RU, HDD.out, HNOW.out, BEL⟩)
    obtain ⟨gd, e4⟩ : ∃ gd, pd = some ⟨gd, 0, none⟩ := by
      rcases OM.2 with ⟨e, hz⟩ | ⟨gd, cap, cur, e, -⟩
      · have := HDL.out.1; omega
      · simp at e; exact ⟨gd, e.1⟩
    subst e4
    have hgd : Hid (Y.heap.size ≤ gd) := OM.ge gd rfl
    have hqd := (Rd.own OM).1
    have hqd2 : qd ≤ 2 ^ 63 - 1 := (Rd.own OM).2.1
    go_wp2_with fail
    refine (l1Next_c (w.heap.size + 1) p q cs (((t3 + 1 + 1 + 1) + 1) + 1) (d.length : Int) w12 HS (by have := hT.out; omega) (by have := hT.out; omega) (by have := HDL.out; omega) (by have := HDL.out; omega)).mono ?_
    rintro e w13 ⟨i2, rfl, hi0, hi1, HS2, hg⟩
    replace OM := OM.draw hg (by have h1 := HB1.out; have h2 := hy5.out; omega)
    replace CA := CA.draw hg
    replace OS := OS.drawC hg HB1.out
    replace AC := AC.other hg (fun e => by have h := Option.some.inj e; have h1 := zgc.out; have h2 := HB1.out; omega)
    have HS := HS2
    clear hg HS2
    obtain ⟨i2, rfl⟩ := Int.eq_ofNat_of_zero_le hi0
    have hil : i2 < d.length := by omega
    have k5 : w13.ownsRow Y.heap.size 5 1 (.slice (some ⟨gd, 0, none⟩) d.length qd) d.length (d.map u8v) := OM
    have cx := World.ownsRow.cellAt k5 i2 (by omega)
    rw [u8v_at hil] at cx
    have fx := World.ownsRow.frozenAt k5 i2
    have R2 := (World.ownsRow.stored k5 i2 (u8v (d.getD i2 0 ^^^ 1))).1
    have hR : Own (w13.setCell ⟨gd, i2, none⟩ (u8v (d.getD i2 0 ^^^ 1))) Y.heap.size (.slice (some ⟨gd, 0, none⟩) d.length qd) (d.set i2 (d.getD i2 0 ^^^ 1)) := by unfold Own; rw [List.length_set, List.map_set]; exact R2
    unfold at8 at cx
    generalize d.getD i2 0 = y at *
    have hset : u8v (y ^^^ 1) = .int .u8 ((y.toNat ^^^ 1 : Nat) : Int) := by unfold u8v; rw [UInt8.toNat_xor]; rfl
    have hxo : bits .xor .u8 (y.toNat : Int) 1 = ((y.toNat ^^^ 1 : Nat) : Int) := (u8_xor8 y 1).trans (by rw [UInt8.toNat_xor]; rfl)
    rw [hset] at hR
    have hgs := grownBy_set w13 gd i2 (.int .u8 ((y.toNat ^^^ 1 : Nat) : Int))
    replace CA := CA.other hgs (fun k hk => by have h := Option.some.inj hk; have h1 := hgd.out; have h2 := hy5.out; omega)
    replace OS := OS.other (Only.grown hgs) (fun k hk e => by have h1 := (HYB.out k hk).2; have h2 := hgd.out; have h3 := List.mem_singleton.1 e; omega)
    have HLS : Hid ((d.set i2 (y ^^^ 1)).length = d.length) := List.length_set ..
    generalize d.set i2 (y ^^^ 1) = d2 at *
    clear k5 R2 hset hgs OM AC HS HCX
    have RU1 := Rd.own hR
    have a0 := ((CXS.out (w13.setCell ⟨gd, i2, none⟩ (.int .u8 ((y.toNat ^^^ 1 : Nat) : Int))) CA.same).cell 0).trans (show _ = some _ from rfl)
    have a1 := ((CXS.out (w13.setCell ⟨gd, i2, none⟩ (.int .u8 ((y.toNat ^^^ 1 : Nat) : Int))) CA.same).cell 1).trans (show _ = some _ from rfl)
    have a2 := ((CXS.out (w13.setCell ⟨gd, i2, none⟩ (.int .u8 ((y.toNat ^^^ 1 : Nat) : Int))) CA.same).cell 2).trans (show _ = some _ from rfl)
    have a3 := ((CXS.out (w13.setCell ⟨gd, i2, none⟩ (.int .u8 ((y.toNat ^^^ 1 : Nat) : Int))) CA.same).cell 3).trans (show _ = some _ from rfl)
    have a4 := ((CXS.out (w13.setCell ⟨gd, i2, none⟩ (.int .u8 ((y.toNat ^^^ 1 : Nat) : Int))) CA.same).cell 4).trans (show _ = some _ from rfl)
    have RA := CA.R.row [.slice p1 x.1.length q1, .int .i64 x.2.1, .slice (some ⟨b3, o3, none⟩) x.2.2.1.length q3, .slice (some ⟨b4, o4, none⟩) x.2.2.2.1.length q4, .slice p5 x.2.2.2.2.length q5]
    have SAME : ∀ k, w.heap.size < k → ((w13.setCell ⟨gd, i2, none⟩ (.int .u8 ((y.toNat ^^^ 1 : Nat) : Int))).setRow w.heap.size #[.slice p1 x.1.length q1, .int .i64 x.2.1, .slice (some ⟨b3, o3, none⟩) x.2.2.1.length q3, .slice (some ⟨b4, o4, none⟩) x.2.2.2.1.length q4, .slice p5 x.2.2.2.2.length q5]).heap[k]? = (w13.setCell ⟨gd, i2, none⟩ (.int .u8 ((y.toNat ^^^ 1 : Nat) : Int))).heap[k]? := fun k hk => setRow_other (w13.setCell ⟨gd, i2, none⟩ (.int .u8 ((y.toNat ^^^ 1 : Nat) : Int))) w.heap.size k #[.slice p1 x.1.length q1, .int .i64 x.2.1, .slice (some ⟨b3, o3, none⟩) x.2.2.1.length q3, .slice (some ⟨b4, o4, none⟩) x.2.2.2.1.length q4, .slice p5 x.2.2.2.2.length q5] (by omega)
    have SM : ∀ k, w1.heap.size ≤ k → k < w5.heap.size → ((w13.setCell ⟨gd, i2, none⟩ (.int .u8 ((y.toNat ^^^ 1 : Nat) : Int))).setRow w.heap.size #[.slice p1 x.1.length q1, .int .i64 x.2.1, .slice (some ⟨b3, o3, none⟩) x.2.2.1.length q3, .slice (some ⟨b4, o4, none⟩) x.2.2.2.1.length q4, .slice p5 x.2.2.2.2.length q5]).heap[k]? = w5.heap[k]? := fun k h1 h2 => (SAME k (by have h := z1.out; omega)).trans (CA.same k h1 h2)
    have RP := CL _ SM
    have RC := RCS.out _ SM
    have RS := RdL.own (OS.fr (fun k hk => SAME k (by have h := (OS.ins k hk).1; have h1 := CA.low; have h2 := CA.mid; omega)))
    have RU := rd_fromT RU1 (fun y hy => SAME y.block (by have h := hR.ge y.block (by cases hy; rfl); have h1 := HB1.out; have h2 := hy5.out; omega))
    have BEL := Below.row CA.bw (Nat.le_refl _) #[.slice p1 x.1.length q1, .int .i64 x.2.1, .slice (some ⟨b3, o3, none⟩) x.2.2.1.length q3, .slice (some ⟨b4, o4, none⟩) x.2.2.2.1.length q4, .slice p5 x.2.2.2.2.length q5]
    have c0 := (RA.cell 0).trans (show _ = some _ from rfl)
    have c1 := (RA.cell 1).trans (show _ = some _ from rfl)
    have c2 := (RA.cell 2).trans (show _ = some _ from rfl)
    have c3 := (RA.cell 3).trans (show _ = some _ from rfl)
    have c4 := (RA.cell 4).trans (show _ = some _ from rfl)
    have R := CA.R
    generalize e6 : (w13.setCell ⟨gd, i2, none⟩ (.int .u8 ((y.toNat ^^^ 1 : Nat) : Int))).setRow w.heap.size #[.slice p1 x.1.length q1, .int .i64 x.2.1, .slice (some ⟨b3, o3, none⟩) x.2.2.1.length q3, .slice (some ⟨b4, o4, none⟩) x.2.2.2.1.length q4, .slice p5 x.2.2.2.2.length q5] = ZW at *
    clear SAME SM RDS RCS CXS CL OS CA RA hR RU1
    go_wp2_with (first | (refine wpList_store_row rfl 27 _ _ rfl w.heap.size #[.slice p1 x.1.length q1, .int .i64 x.2.1, .slice (some ⟨b3, o3, none⟩) x.2.2.1.length q3, .slice (some ⟨b4, o4, none⟩) x.2.2.2.1.length q4, .slice p5 x.2.2.2.2.length q5] rfl rfl 27 #[.slice none 0 0, .int .i64 0, .slice none 0 0, .slice none 0 0, .slice none 0 0] R hres.out rfl (by simp [Value.oneCell']) ?_; rw [e6]) | exact bodyPost_ret (v := .tuple #[.agg #[.slice p1 x.1.length q1, .int .i64 x.2.1, .slice (some ⟨b3, o3, none⟩) x.2.2.1.length q3, .slice (some ⟨b4, o4, none⟩) x.2.2.2.1.length q4, .slice p5 x.2.2.2.2.length q5], .slice (some ⟨b0, o0, none⟩) l.length qc, .slice (some ⟨g6, 0, none⟩) (s.length + 1) c6, .int .i64 now, .slice (some ⟨gd, 0, none⟩) d.length qd]) (by simp [results, Tryz.results8, go_sem, c0, c1, c2, c3, c4]) rfl ⟨x, [.slice p1 x.1.length q1, .int .i64 x.2.1, .slice (some ⟨b3, o3, none⟩) x.2.2.1.length q3, .slice (some ⟨b4, o4, none⟩) x.2.2.2.1.length q4, .slice p5 x.2.2.2.2.length q5], l, (s ++ [((c.1, c.2.1, dg) : SignD)]), now, d2, (some ⟨b0, o0, none⟩), (some ⟨g6, 0, none⟩), (some ⟨gd, 0, none⟩), qc, c6, qd, by rw [HLN.out, HLS.out], RP, RC, RS, RU, HDD.out, HNOW.out, BEL⟩)
end Go.Proofs.YtbaldmmbphbinaaGreatDoor

