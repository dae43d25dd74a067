/- The draw DrawCheckAuth: what comes out can be read (written by tools/draw_ck.py). -/
import Derived.Test.YtflhoefocjmihaaGreatDoorDrawBe
import Derived.Test.YtflhoefocjmihaaGreatDoorJoint19
import Derived.Test.YtflhoefocjmihaaGreatDoorAuthL
import Derived.Test.YtflhoefocjmihaaGreatDoorGenS
namespace Go.Proofs.YtflhoefocjmihaaGreatDoor
open Go.ChangeShapes Go.WideShapes Go.ChangeAt Go.RowKit

def DrawnCk (w : World) (e : Ending) (w' : World) : Prop := ∃ (x : List UInt8) (r : Int) (l : List CertD) (s : List SignD) (now : Int) (d : List UInt8) (px pc ps pd : Option Addr) (qx qc qs qd : Nat), e = .returned (.tuple #[.slice px x.length qx, .int .i64 r, .slice pc l.length qc, .slice ps s.length qs, .int .i64 now, .slice pd d.length qd]) ∧ Rd w' px qx x ∧ RdL certC w' pc qc l ∧ RdL signC w' ps qs s ∧ Rd w' pd qd d ∧ Below w.heap.size w w'
theorem own_raise {w : World} {B B' : Nat} {v : Value} {bs : List UInt8} (h : Own w B v bs) (hk : ∀ k, v.ownBlock = some k → B' ≤ k) : Own w B' v bs := by
  rcases h with ⟨h1, ⟨e, hn⟩ | ⟨g, cap, cur, e, hb, hr⟩⟩
  · exact ⟨h1, .inl ⟨e, hn⟩⟩
  · exact ⟨h1, .inr ⟨g, cap, cur, e, hk g (by rw [e]; rfl), hr⟩⟩
theorem RdL.dropK {α : Type} {c : Cod α} {w : World} {b o q : Nat} {l : List α} (h : RdL c w (some ⟨b, o, none⟩) q l) (n : Nat) (hn : n ≤ l.length) : RdL c w (some ⟨b, o + n * c.n, none⟩) (q - n) (l.drop n) := by
  obtain ⟨h1, h2, h3, h4⟩ := h
  refine ⟨by rw [List.length_drop]; omega, by omega, (fun e => by cases e), fun hp => ⟨b, o + n * c.n, rfl, fun i a hi => ?_⟩⟩
  obtain ⟨b', o', e, hc⟩ := h4 (by rw [List.length_drop] at hp; omega)
  cases e
  rw [List.getElem?_drop] at hi
  obtain ⟨us, hr, hu⟩ := hc (n + i) a hi
  refine ⟨us, hr, fun j u hj => ?_⟩
  have := hu j u hj
  rw [show o + n * c.n + i * c.n + j = o + (n + i) * c.n + j by rw [Nat.add_mul]; omega]
  exact this
set_option maxRecDepth 4000 in
set_option maxHeartbeats 4000000 in
theorem drawCk_c (p : Option Addr) (q : Nat) (cs : List UInt8) (w : World) (hr : Rd w p q cs) :
    Calls Tryz.prog 23 #[.slice p cs.length q] w fun e w' => DrawnCk w e w' := by
  go_enter Tryz.func23, Tryz.ntmps23
  go_wp2_with fail
  refine (l1Source_c p q cs w hr).mono ?_
  rintro e w1 ⟨rfl, hs, BW, hlt⟩
  have z1 : Hid (w.heap.size < w1.heap.size) := hlt
  clear hlt
  go_wp2_with fail
  refine (l13Exporter_c w.heap.size p q cs 0 w1 hs (by omega) (by omega)).mono ?_
  rintro e w2 ⟨v, x, rfl, OX, hxl, hs2, hg⟩
  obtain ⟨px, qx, rfl, -⟩ := OX.rd
  have HXL : Hid (x.length ≤ 32) := hxl
  clear hs hxl
  replace BW := BW.grown hg BW.size (fun k hk => by simp at hk; omega)
  have ZOX : Hid (w1.heap.size ≤ w1.heap.size) := Nat.le_refl _
  have z2 : Hid (w1.heap.size ≤ w2.heap.size) := hg.size
  clear hg
  go_wp2_with fail
  refine (l13DrawRole_c w.heap.size p q cs (0 + 1 + 1) w2 hs2 (by omega) (by omega)).mono ?_
  rintro e w3 ⟨r, rfl, hr1, hr2, hs3, hg⟩
  replace OX := OX.draw hg z1.out
  replace BW := BW.grown hg BW.size (fun k hk => by simp at hk; omega)
  have z3 : Hid (w1.heap.size ≤ w3.heap.size) := Nat.le_trans z2.out hg.size
  clear hs2 hg
  go_wp2_with fail
  refine (l12Bent_c w.heap.size p q cs (0 + 1 + 1 + 1) w3 hs3 (by omega) (by omega)).mono ?_
  rintro e w4 ⟨v, rfl, l, xl, fl, t1, OC, hl9, hl1, ht1, ht1b, hs4, hg⟩
  obtain ⟨pc, qc, rfl, -⟩ := OC.rd
  have HL : Hid (1 ≤ l.length ∧ l.length ≤ 9) := ⟨hl1, hl9⟩
  replace OX := OX.draw hg z1.out
  replace BW := BW.grown hg BW.size (fun k hk => by simp at hk; omega)
  have ZOC : Hid (w1.heap.size ≤ w3.heap.size) := z3
  have z4 : Hid (w1.heap.size ≤ w4.heap.size) := Nat.le_trans z3.out hg.size
  clear hs3 hg hl9 hl1
  go_wp2_with fail
  refine (l1Pick_c w.heap.size p q cs t1 w4.heap.size [0, 3, 3, 60, -1] 5 _ (hs4.keep (alloc_below _ _)) (by omega) (by omega) rfl (by decide) (by decide) (by have := hs4.lt; omega) (new_ints _ _ _ [0, 3, 3, 60, -1] rfl)).mono ?_
  rintro e w5 ⟨now, -, rfl, hs5, hg⟩
  replace hg := grownBy_trans (World.grownBy_alloc _ _ _) hg
  replace OX := OX.draw hg z1.out
  replace OC := OC.drawC hg (Nat.lt_of_lt_of_le z1.out ZOC.out)
  replace BW := BW.grown hg BW.size (fun k hk => by simp at hk; omega)
  have z5 : Hid (w1.heap.size ≤ w5.heap.size) := Nat.le_trans z4.out hg.size
  have OXl0 : ∀ k, (Value.slice px x.length qx).ownBlock = some k → k < w5.heap.size := fun k hk => OX.lt k hk
  have OCl0 : ∀ k, k ∈ (Value.slice pc l.length qc).ownBlock.toList ++ fl → k < w5.heap.size := fun k hk => (OC.ins k hk).2
  clear hs4 hg
  go_wp2_with fail
  refine (l12DrawSigns_c w.heap.size p q cs (t1 + 1) w5 hs5 (by omega) (by omega)).mono ?_
  rintro e w6 ⟨v, rfl, s, xs, fp, t2, OS, hs41, -, ht2, ht2b, hs6, hg⟩
  obtain ⟨ps, qs, rfl, -⟩ := OS.rd
  replace OX := OX.draw hg z1.out
  replace OC := OC.drawC hg (Nat.lt_of_lt_of_le z1.out ZOC.out)
  replace BW := BW.grown hg BW.size (fun k hk => by simp at hk; omega)
  have ZOS : Hid (w1.heap.size ≤ w5.heap.size) := z5
  have ZS6 : Hid (w5.heap.size ≤ w6.heap.size) := hg.size
  have HSlt : Hid (∀ k, (Value.slice ps s.length qs).ownBlock = some k → k < w6.heap.size) := fun k hk => (OS.ins k (List.mem_append_left _ (mem_opt.2 hk))).2
  have HFP0 : Hid (∀ k, k ∈ fp → k < w6.heap.size) := fun k hk => (OS.ins k (List.mem_append_right _ hk)).2
  have OXl : Hid (∀ k, (Value.slice px x.length qx).ownBlock = some k → k < w5.heap.size) := OXl0
  have OCl : Hid (∀ k, k ∈ (Value.slice pc l.length qc).ownBlock.toList ++ fl → k < w5.heap.size) := OCl0
  clear OXl0 OCl0
  have hT : Hid (0 ≤ t2 ∧ t2 ≤ 10000) := ⟨by omega, by omega⟩
  have HS := hs6
  clear hs5 hg hs6 ht1 ht1b ht2 ht2b hs41 z2 z3 z4
  go_wp2_with fail
  refine (l13Asked_c px qx x r w6).mono ?_
  rintro e w7 ⟨rfl, hw⟩
  rw [hw]
  clear hw w7
  by_cases h0 : akC x r = 0
  case neg =>
    have d0 : (akC x r != 0) = true := by rw [bne_iff_ne]; exact h0
    clear h0
    generalize akC x r = k0 at *
    have RU := rd_new w6 [.int .u8 1, .int .u8 2] [1, 2] 5 2 rfl rfl (by decide)
    have hb := alloc_below w6 (.cells #[.int .u8 1, .int .u8 2] 5)
    have RX := (Rd.own OX).keep hb
    have RC := (RdL.own OC).keep hb
    have RS := (RdL.own OS).keep hb
    have BE := Below.step BW hb
    clear OX OC OS BW hb HS
    go_wp2_with fail
    exact bodyPost_ret (v := .tuple #[.slice px x.length qx, .int .i64 r, .slice pc l.length qc, .slice ps s.length qs, .int .i64 now, .slice (some ⟨w6.heap.size, 0, none⟩) 2 2]) (by simp [results, Tryz.results23, go_sem]) rfl ⟨x, r, l, s, now, [1, 2], px, pc, ps, (some ⟨w6.heap.size, 0, none⟩), qx, qc, qs, 2, rfl, RX, RC, RS, RU, BE⟩
  rw [h0]
  clear h0
  have RC0 := RdL.own OC
  have RS0 := RdL.own OS
  go_wp2_with fail
  refine (l12Fault_c l pc qc w6 RC0).mono ?_
  rintro e w7 ⟨rfl, hw⟩
  rw [hw]
  clear hw w7 RC0
  by_cases h1 : ctC l = 0
  case neg =>
    have d0 : (ctC l != 0) = true := by rw [bne_iff_ne]; exact h1
    clear h1 RS0
    generalize ctC l = k0 at *
    have RU := rd_new w6 [.int .u8 1, .int .u8 2] [1, 2] 5 2 rfl rfl (by decide)
    have hb := alloc_below w6 (.cells #[.int .u8 1, .int .u8 2] 5)
    have RX := (Rd.own OX).keep hb
    have RC := (RdL.own OC).keep hb
    have RS := (RdL.own OS).keep hb
    have BE := Below.step BW hb
    clear OX OC OS BW hb HS
    go_wp2_with fail
    exact bodyPost_ret (v := .tuple #[.slice px x.length qx, .int .i64 r, .slice pc l.length qc, .slice ps s.length qs, .int .i64 now, .slice (some ⟨w6.heap.size, 0, none⟩) 2 2]) (by simp [results, Tryz.results23, go_sem]) rfl ⟨x, r, l, s, now, [1, 2], px, pc, ps, (some ⟨w6.heap.size, 0, none⟩), qx, qc, qs, 2, rfl, RX, RC, RS, RU, BE⟩
  have HOK : Hid (∀ c ∈ l, okC c = true) := ctC_all h1
  rw [h1]
  clear h1
  go_wp2_with fail
  refine (l12Signs_c s ps qs w6 RS0).mono ?_
  rintro e w7 ⟨rfl, hw⟩
  rw [hw]
  clear hw w7 RS0
  by_cases h2 : sgC s = 0
  case neg =>
    have d0 : (sgC s != 0) = true := by rw [bne_iff_ne]; exact h2
    clear h2
    generalize sgC s = k0 at *
    have RU := rd_new w6 [.int .u8 1, .int .u8 2] [1, 2] 5 2 rfl rfl (by decide)
    have hb := alloc_below w6 (.cells #[.int .u8 1, .int .u8 2] 5)
    have RX := (Rd.own OX).keep hb
    have RC := (RdL.own OC).keep hb
    have RS := (RdL.own OS).keep hb
    have BE := Below.step BW hb
    clear OX OC OS BW hb HS
    go_wp2_with fail
    exact bodyPost_ret (v := .tuple #[.slice px x.length qx, .int .i64 r, .slice pc l.length qc, .slice ps s.length qs, .int .i64 now, .slice (some ⟨w6.heap.size, 0, none⟩) 2 2]) (by simp [results, Tryz.results23, go_sem]) rfl ⟨x, r, l, s, now, [1, 2], px, pc, ps, (some ⟨w6.heap.size, 0, none⟩), qx, qc, qs, 2, rfl, RX, RC, RS, RU, BE⟩
  have HS40 : Hid (s.length ≤ 40) := (sgC_all.1 h2).1
  rw [h2]
  clear h2
  have hq1 : l.length ≤ qc := (RdL.own OC).1
  have hq2 : qc ≤ 2 ^ 63 - 1 := (RdL.own OC).2.1
  go_wp2_with fail
  refine (l1Next_c w.heap.size p q cs t2 (l.length : Int) w6 HS (by have := hT.out; omega) (by have := hT.out; omega) (by have := HL.out; omega) (by have := HL.out; omega)).mono ?_
  rintro e w7 ⟨i, rfl, hi0, hi1, HS2, hg⟩
  replace OX := OX.draw hg z1.out
  replace OC := OC.drawC hg (Nat.lt_of_lt_of_le z1.out ZOC.out)
  replace OS := OS.drawC hg (Nat.lt_of_lt_of_le z1.out ZOS.out)
  replace BW := BW.grown hg BW.size (fun k hk => by simp at hk; omega)
  obtain ⟨i, rfl⟩ := Int.eq_ofNat_of_zero_le hi0
  obtain ⟨c, hc⟩ : ∃ c, l[i]? = some c := ⟨l[i], by simp⟩
  have hoc : Hid (okC c = true) := HOK.out c (List.mem_of_getElem? hc)
  obtain ⟨b0, o0, e1, hcc⟩ := (RdL.own OC).2.2.2 (by omega)
  subst e1
  obtain ⟨us, hrep, hcell⟩ := hcc i c hc
  obtain rfl := cert_rep hrep
  have c0 := hcell 0 _ rfl
  have c1 := hcell 1 _ rfl
  have c2 := hcell 2 _ rfl
  rw [show certC.n = 3 from rfl] at c0 c1 c2
  rw [Nat.add_zero] at c0
  have zz7 := hg.size
  have zz6 : Hid (w6.heap.size ≤ w7.heap.size) := hg.size
  have AC := Arr.new w7 [.int .i64 c.1, .int .i64 c.2.1, .int .i64 c.2.2] 41
  have hb := alloc_below w7 (.cells #[.int .i64 c.1, .int .i64 c.2.1, .int .i64 c.2.2] 41)
  replace OX := OX.stay hb
  replace OC := OC.stay hb
  replace OS := OS.stay hb
  replace BW := Below.step BW hb
  have HS := HS2.keep hb
  clear HS2 hb hg hcc hrep hcell hc HOK hi0
  have ZV : Hid (w7.heap.size < (w7.alloc (.cells #[.int .i64 c.1, .int .i64 c.2.1, .int .i64 c.2.2] 41)).heap.size) := AC.lt
  go_wp2_with fail
  generalize hV : w7.alloc (.cells #[.int .i64 c.1, .int .i64 c.2.1, .int .i64 c.2.2] 41) = V at *
  clear hV c0 c1 c2
  generalize hgc : w7.heap.size = gc at *
  have ZAC : Hid (w1.heap.size ≤ gc) := Nat.le_trans (Nat.le_trans z5.out ZS6.out) zz7
  clear hgc
  refine (l1Next_c w.heap.size p q cs (t2 + 1) 5 V HS (by have := hT.out; omega) (by have := hT.out; omega) (by omega) (by omega)).mono ?_
  rintro e w8 ⟨m, rfl, hm0, hm1, HS2, hg⟩
  replace OX := OX.draw hg z1.out
  replace OC := OC.drawC hg (Nat.lt_of_lt_of_le z1.out ZOC.out)
  replace OS := OS.drawC hg (Nat.lt_of_lt_of_le z1.out ZOS.out)
  replace AC := AC.other hg (fun e => by have h := Option.some.inj e; have h2 := ZAC.out; have h3 := z1.out; omega)
  replace BW := BW.grown hg BW.size (fun k hk => by simp at hk; omega)
  have AC8 : Hid (gc < w8.heap.size) := AC.lt
  have z8 : Hid (w1.heap.size ≤ w8.heap.size) := Nat.le_trans (Nat.le_trans ZAC.out (Nat.le_of_lt ZV.out)) hg.size
  clear HS hg
  go_wp2_with fail
  refine (l1Some_c w.heap.size p q cs (t2 + 1 + 1) (1 + m) w8 HS2 (by have := hT.out; omega) (by have := hT.out; omega) (by omega) (by omega)).mono ?_
  rintro e w9 ⟨u, ctx, rfl, hbl, OT, HS3, hg⟩
  obtain ⟨pt, qt, rfl, -⟩ := OT.rd
  have HT5 : Hid (ctx.length ≤ 20) := by show _ ≤ _; omega
  clear hbl
  replace OX := OX.draw hg z1.out
  replace OC := OC.drawC hg (Nat.lt_of_lt_of_le z1.out ZOC.out)
  replace OS := OS.drawC hg (Nat.lt_of_lt_of_le z1.out ZOS.out)
  replace AC := AC.other hg (fun e => by have h := Option.some.inj e; have h2 := ZAC.out; have h3 := z1.out; omega)
  replace BW := BW.grown hg BW.size (fun k hk => by simp at hk; omega)
  have OTg : Hid (∀ k, (Value.slice pt ctx.length qt).ownBlock = some k → gc < k) := fun k hk => Nat.lt_of_lt_of_le AC8.out (OT.ge k hk)
  replace OT : Own w9 w1.heap.size (.slice pt ctx.length qt) ctx := OT.lower z8.out
  have ZOT : Hid (w1.heap.size ≤ w1.heap.size) := Nat.le_refl _
  have HT2 : Hid (0 ≤ t2 + 1 + 1 + (1 + m) ∧ t2 + 1 + 1 + (1 + m) ≤ 10010) := by have := hT.out; exact ⟨by omega, by omega⟩
  generalize t2 + 1 + 1 + (1 + m) = t3 at *
  have z9 : Hid (w1.heap.size ≤ w9.heap.size) := Nat.le_trans z8.out hg.size
  clear HS2 hg z8
  go_wp2_with fail
  obtain ⟨i1, hi1, hy0, hy1, hy2⟩ := info_parts infoSign
  obtain ⟨F, HF⟩ : ∃ F, Hid ((Value.slice ps s.length qs).ownBlock.toList = F) := ⟨_, rfl⟩
  have HFl : Hid (∀ k, k ∈ F → k < gc) := fun k hk => by rw [← HF.out] at hk; exact Nat.lt_of_lt_of_le (HSlt.out k (mem_opt.1 hk)) zz6.out
  have hnc : gc ∉ F := fun h => Nat.lt_irrefl _ (HFl.out gc h)
  have m0 := GenS.only_cell (fp := F) ((AC.cell 0).trans (show _ = some _ from rfl)) hnc
  have m1 := GenS.only_cell (fp := F) ((AC.cell 1).trans (show _ = some _ from rfl)) hnc
  have m2 := GenS.only_cell (fp := F) ((AC.cell 2).trans (show _ = some _ from rfl)) hnc
  have hne := GenS.only_some F w9
  refine GenS.wp_region_pick (GenS.only_pre F) [0, 1, 2, 3, 4, 5, 6, 7] 12 4 1 rfl rfl rfl (by kernel_rfl) (by kernel_rfl) (by kernel_rfl) (by kernel_rfl) ?_
  simp only [opsAt, List.getElem?_toArray, List.getElem?_cons_zero, List.getElem?_cons_succ]
  repeat (go_big_quiet_step (fail))
  refine wpQuiet_nil ?_
  clear m0 m1 m2 hne
  refine GenS.wpM_only (i := 8) (by kernel_rfl) ?_
  refine GenS.mOp_call rfl (by go_simp) 49 _ #[.slice px x.length qx, .int .i64 r, .slice pt ctx.length qt, .pointer (some ⟨gc, 0, none⟩)] (fun w => by go_simp) rfl ?_
  rintro _ ⟨n1, rfl⟩
  have D1 : Below w9.heap.size w9 (w9.drewN n1) := ⟨rfl, rfl, rfl, Nat.le_refl _, fun _ _ => rfl⟩
  replace OX := OX.stay D1
  replace OC := OC.stay D1
  replace OS := OS.stay D1
  replace AC := AC.stay D1
  replace OT := OT.stay D1
  replace BW := Below.step BW D1
  replace HS3 := HS3.keep D1
  have z10 : Hid (w1.heap.size ≤ (w9.drewN n1).heap.size) := z9.out
  generalize w9.drewN n1 = U1 at *
  have AC0lt : Hid (w6.heap.size < U1.heap.size) := Nat.lt_of_le_of_lt zz7 AC.lt
  refine (l13Digest_c px pt qx qt gc 0 x ctx r c U1 (Rd.own OX) (Rd.own OT) ((AC.cell 0).trans rfl) ((AC.cell 1).trans rfl) ((AC.cell 2).trans rfl) (by have := HXL.out; omega) HT5.out hoc.out).mono ?_
  rintro e w10 ⟨u, rfl, OD, hb⟩
  have H32 : Hid ((dgN x r ctx c).length = 32) := dgN_len _ _ _ _
  generalize dgN x r ctx c = dg at *
  obtain ⟨pu, qu, rfl, -⟩ := OD.rd
  have HDge : Hid (∀ k, (Value.slice pu dg.length qu).ownBlock = some k → gc < k) := fun k hk => Nat.lt_of_lt_of_le AC.lt (OD.ge k hk)
  refine ⟨_, rfl, ⟨⟨w10, Only.below hb⟩, rfl⟩, ?_⟩
  replace OX := OX.stay hb
  replace OC := OC.stay hb
  replace OS := OS.stay hb
  replace AC := AC.stay hb
  replace OT := OT.stay hb
  replace BW := Below.step BW hb
  replace HS3 := HS3.keep hb
  have z11 : Hid (w1.heap.size ≤ w10.heap.size) := Nat.le_trans z10.out hb.size
  have ODs := OD.lower (show w5.heap.size ≤ U1.heap.size from by have h1 := AC0lt.out; have h2 := ZS6.out; omega)
  replace OD := OD.lower z10.out
  clear hb D1 z10
  have hne := GenS.only_some F w10
  refine GenS.wpM_more (GenS.only_pre F) [9] 3 2 rfl (by kernel_rfl) (by kernel_rfl) (by kernel_rfl) (by kernel_rfl) ?_
  simp only [opsAt, List.getElem?_toArray, List.getElem?_cons_zero, List.getElem?_cons_succ]
  go_simp
  repeat (go_big_quiet_step (fail))
  refine wpQuiet_nil ?_
  clear hne
  refine GenS.wpM_only (i := 10) (by kernel_rfl) ?_
  refine GenS.mOp_make rfl (by go_simp) ?_
  rintro _ ⟨n4, rfl⟩
  refine ⟨.slice (some ⟨(w10.drewN n4).heap.size, 0, none⟩) 1 1, (w10.drewN n4).alloc (.cells #[.int .i64 c.1, .int .i64 c.2.1, .slice pu dg.length qu] 49), by go_simp, ⟨⟨_, Only.below (alloc_below _ _)⟩, rfl⟩, ?_⟩
  have D4 : Below w10.heap.size w10 ((w10.drewN n4).alloc (.cells #[.int .i64 c.1, .int .i64 c.2.1, .slice pu dg.length qu] 49)) := Below.step (show Below w10.heap.size w10 (w10.drewN n4) from ⟨rfl, rfl, rfl, Nat.le_refl _, fun _ _ => rfl⟩) (alloc_below _ _)
  have A4 := Arr.new (w10.drewN n4) [.int .i64 c.1, .int .i64 c.2.1, .slice pu dg.length qu] 49
  replace OX := OX.stay D4
  replace OC := OC.stay D4
  replace OS := OS.stay D4
  replace AC := AC.stay D4
  replace OT := OT.stay D4
  replace OD := OD.stay D4
  replace ODs := ODs.stay D4
  replace BW := Below.step BW D4
  replace HS3 := HS3.keep D4
  generalize (w10.drewN n4).alloc (.cells #[.int .i64 c.1, .int .i64 c.2.1, .slice pu dg.length qu] 49) = U4 at *
  generalize (w10.drewN n4).heap.size = g4 at *
  clear D4
  refine GenS.wpM_only (i := 11) (by kernel_rfl) ?_
  refine GenS.mOp_list rfl (by go_simp) (by kernel_rfl) ?_
  rintro _ ⟨n5, rfl⟩
  have D5 : Below U4.heap.size U4 (U4.drewN n5) := ⟨rfl, rfl, rfl, Nat.le_refl _, fun _ _ => rfl⟩
  replace A4 := A4.stay D5
  replace OX := OX.stay D5
  replace OC := OC.stay D5
  replace OS := OS.stay D5
  replace AC := AC.stay D5
  replace OT := OT.stay D5
  replace OD := OD.stay D5
  replace ODs := ODs.stay D5
  replace BW := Below.step BW D5
  replace HS3 := HS3.keep D5
  clear D5
  generalize U4.drewN n5 = U5 at *
  have hnew : ∀ j u, ([.int .i64 c.1, .int .i64 c.2.1, .slice pu dg.length qu] : List Value)[j]? = some u → U5.cell? ((⟨g4, 0, none⟩ : Addr).add j) = some u := fun j u hj => A4.cells j u hj
  have hB5 : w5.heap.size ≤ U5.heap.size := by have h1 := AC.lt; have h2 := ZS6.out; have h3 := zz7; omega
  have HRO : Hid _ := OS.row
  have hs40 : s.length ≤ 10000 := by have := HS40.out; omega
  refine wpList_append_lies _ rfl (.tmp 65) (.tmp 75) 34 rfl w5.heap.size 49 i1 (.agg #[.int .i64 0, .int .i64 0, .slice none 0 0]) 3 40 Tryz.underlying34 hi1 hy0 hy1 hy2 rfl (by decide) (.slice ps s.length qs) s.length xs rfl HRO.out ⟨g4, 0, none⟩ 1 1 [.int .i64 c.1, .int .i64 c.2.1, .slice pu dg.length qu] rfl rfl hnew (by intro u hu; simp at hu; rcases hu with rfl | rfl | rfl <;> rfl) (by decide) (by unfold maxLen; omega) (by omega) hB5 _ rfl ?_
  intro g6 c6 w6x hown6 hgrow6 hat6 hlt6
  refine ⟨rfl, by rw [← HF.out]; exact Only.grown hgrow6, ?_⟩
  have HSU : Hid (∀ k, (Value.slice ps s.length qs).ownBlock = some k → k < gc) := fun k hk => HFl.out k (by rw [← HF.out]; exact mem_opt.2 hk)
  have HXs : Hid (∀ k, (Value.slice ps s.length qs).ownBlock = some k → w5.heap.size ≤ k) := fun k hk => (OS.ins k (List.mem_append_left _ (mem_opt.2 hk))).1
  have HFPl : Hid (∀ k, k ∈ fp → k < gc) := fun k hk => Nat.lt_of_lt_of_le (HFP0.out k hk) zz6.out
  have ON := OS.push (a := ((c.1, c.2.1, dg) : SignD)) (sign_own_mk (a := ((c.1, c.2.1, dg) : SignD)) (ODs : Own U5 w5.heap.size (.slice pu dg.length qu) dg)) (fun j hj hj2 => by
    have h1 := HDge.out j (mem_opt.1 hj)
    rcases List.mem_append.1 hj2 with h | h
    · have h2 := HSU.out j (mem_opt.1 h)
      omega
    · have h2 := HFPl.out j h
      omega) (k := s.length + 1) (v' := .slice (some ⟨g6, 0, none⟩) (s.length + 1) c6) (g := g6) hown6 (by simp) hgrow6 rfl hat6
  clear hown6 hat6 hlt6 HRO hnew A4 OS ODs
  have NS : Hid (∀ k, (∀ j, (Value.slice ps s.length qs).ownBlock = some j → k ≠ j) → (Value.slice ps s.length qs).ownBlock ≠ some k) := fun k h e => h k e rfl
  replace OX := OX.other hgrow6 (fun k hk e => by have h1 := HXs.out k e; have h2 := OXl.out k hk; omega)
  replace OC := OC.other (Only.grown hgrow6) (fun k hk e => by have h1 := HXs.out k (mem_opt.1 e); have h2 := OCl.out k hk; omega)
  replace OT := OT.other hgrow6 (fun k hk e => by have h1 := HSU.out k e; have h2 := OTg.out k hk; omega)
  replace OD := OD.other hgrow6 (fun k hk e => by have h1 := HSU.out k e; have h2 := HDge.out k hk; omega)
  replace AC := AC.other hgrow6 (fun e => by have h1 := HSU.out gc e; omega)
  replace HS3 := HS3.other hgrow6 (fun k hk => by have h1 := HXs.out k hk; have h2 := z1.out; have h3 := z5.out; omega)
  replace BW := BW.grown hgrow6 BW.size (fun k hk => by have h1 := HXs.out k hk; have h2 := z1.out; have h3 := z5.out; omega)
  have z12 : Hid (w1.heap.size ≤ w6x.heap.size) := Nat.le_trans (Nat.le_trans ZAC.out (Nat.le_of_lt AC.lt)) (Nat.le_refl _)
  clear hgrow6 NS
  obtain ⟨sg, HSG⟩ : ∃ sg, Hid (s ++ [((c.1, c.2.1, dg) : SignD)] = sg) := ⟨_, rfl⟩
  have HSL : Hid (sg.length = s.length + 1) := by show _ = _; rw [← HSG.out]; simp
  refine GenS.wpM_end (by kernel_rfl) rfl (by kernel_rfl) (by decide) ?_
  rintro _ ⟨n6, rfl⟩
  have D6 : Below w6x.heap.size w6x (w6x.drewN n6) := ⟨rfl, rfl, rfl, Nat.le_refl _, fun _ _ => rfl⟩
  simp only [List.drop_succ_cons, List.drop_zero]
  replace ON := ON.stay D6
  replace OX := OX.stay D6
  replace OC := OC.stay D6
  replace AC := AC.stay D6
  replace OT := OT.stay D6
  replace OD := OD.stay D6
  replace BW := Below.step BW D6
  replace HS3 := HS3.keep D6
  have z13 : Hid (w1.heap.size ≤ (w6x.drewN n6).heap.size) := z12.out
  clear D6 z12
  generalize w6x.drewN n6 = Y at *
  have HNlt : Hid (∀ k, k ∈ (Value.slice (some ⟨g6, 0, none⟩) (s.length + 1) c6).ownBlock.toList ++ (fp ++ (Value.slice pu dg.length qu).ownBlock.toList) → k < Y.heap.size) := fun k hk => (ON.ins k hk).2
  have HDlt : Hid (∀ k, (Value.slice pu dg.length qu).ownBlock = some k → k < Y.heap.size) := fun k hk => OD.lt k hk
  have HW5c : Hid (w5.heap.size ≤ gc) := by have h2 := ZS6.out; have h3 := zz7; have h4 := zz6.out; show _ ≤ _; omega
  have HW5 : Hid (w5.heap.size ≤ Y.heap.size) := by have h1 := AC.lt; have h2 := ZS6.out; have h3 := zz7; have h4 := zz6.out; show _ ≤ _; omega
  go_wp2_with fail
  refine (l13Make_c px pt qx qt gc 0 x ctx r c (s.length : Int) Y (Rd.own OX) (Rd.own OT) ((AC.cell 0).trans rfl) ((AC.cell 1).trans rfl) ((AC.cell 2).trans rfl) (by have := HXL.out; omega) HT5.out hoc.out (by omega) (by have := HS40.out; omega)).mono ?_
  rintro e w11 ⟨u, rfl, OM, hb⟩
  have hml := mkN_len x r ctx c (s.length : Int)
  generalize mkN x r ctx c (s.length : Int) = d at *
  obtain ⟨pd, qd, rfl, -⟩ := OM.rd
  have HDL : Hid (1 ≤ d.length ∧ d.length ≤ 100) := by have := HT5.out; rw [hml]; exact ⟨by omega, by omega⟩
  have HMge : Hid (∀ k, (Value.slice pd d.length qd).ownBlock = some k → Y.heap.size ≤ k) := OM.ge
  replace ON := ON.stay hb
  replace OX := OX.stay hb
  replace OC := OC.stay hb
  replace AC := AC.stay hb
  replace OT := OT.stay hb
  replace OD := OD.stay hb
  replace BW := Below.step BW hb
  replace HS3 := HS3.keep hb
  replace OM := OM.lower z13.out
  clear hb hml
  go_wp2_with fail
  refine (l1Next_c w.heap.size p q cs t3 10 w11 HS3 (by have := HT2.out; omega) (by have := HT2.out; omega) (by omega) (by omega)).mono ?_
  rintro e w12 ⟨k, rfl, hk0, hk1, HS4, hg⟩
  replace ON := ON.drawC hg (Nat.lt_of_lt_of_le z1.out z5.out)
  replace OX := OX.draw hg z1.out
  replace OC := OC.drawC hg (Nat.lt_of_lt_of_le z1.out ZOC.out)
  replace AC := AC.other hg (fun e => by have h := Option.some.inj e; have h2 := ZAC.out; have h3 := z1.out; omega)
  replace OT := OT.draw hg z1.out
  replace OD := OD.draw hg z1.out
  replace OM := OM.draw hg z1.out
  replace BW := BW.grown hg BW.size (fun k hk => by simp at hk; omega)
  have HLN : Hid ((s ++ [((c.1, c.2.1, dg) : SignD)]).length = s.length + 1) := by show _ = _; simp
  by_cases k0 : k = 0
  · subst k0
    obtain ⟨gd, e4⟩ : ∃ gd, pd = some ⟨gd, 0, none⟩ := by
      rcases OM.2 with ⟨e, hz⟩ | ⟨gd, cap, cur, e, -⟩
      · have := HDL.out.1; omega
      · simp at e; exact ⟨gd, e.1⟩
    subst e4
    have hgd : Hid (Y.heap.size ≤ gd) := HMge.out gd rfl
    clear hg
    have hqd := (Rd.own OM).1
    have hqd2 : qd ≤ 2 ^ 63 - 1 := (Rd.own OM).2.1
    go_wp2_with fail
    refine (l1Next_c w.heap.size p q cs (t3 + 1) (d.length : Int) w12 HS4 (by have := HT2.out; omega) (by have := HT2.out; omega) (by have := HDL.out; omega) (by have := HDL.out; omega)).mono ?_
    rintro e w13 ⟨i, rfl, hi0, hi1, -, hg⟩
    replace ON := ON.drawC hg (Nat.lt_of_lt_of_le z1.out z5.out)
    replace OX := OX.draw hg z1.out
    replace OC := OC.drawC hg (Nat.lt_of_lt_of_le z1.out ZOC.out)
    replace AC := AC.other hg (fun e => by have h := Option.some.inj e; have h2 := ZAC.out; have h3 := z1.out; omega)
    replace OT := OT.draw hg z1.out
    replace OD := OD.draw hg z1.out
    replace OM := OM.draw hg z1.out
    replace BW := BW.grown hg BW.size (fun k hk => by simp at hk; omega)
    obtain ⟨i, rfl⟩ := Int.eq_ofNat_of_zero_le hi0
    have hil : i < d.length := by omega
    have k5 : w13.ownsRow w1.heap.size 5 1 (.slice (some ⟨gd, 0, none⟩) d.length qd) d.length (d.map u8v) := OM
    have cx := World.ownsRow.cellAt k5 i (by omega)
    rw [u8v_at hil] at cx
    have fx := World.ownsRow.frozenAt k5 i
    have R := (World.ownsRow.stored k5 i (u8v (d.getD i 0 ^^^ 1))).1
    have hR : Own (w13.setCell ⟨gd, i, none⟩ (u8v (d.getD i 0 ^^^ 1))) w1.heap.size (.slice (some ⟨gd, 0, none⟩) d.length qd) (d.set i (d.getD i 0 ^^^ 1)) := by unfold Own; rw [List.length_set, List.map_set]; exact R
    have RU := Rd.own hR
    unfold at8 at cx
    generalize d.getD i 0 = y at *
    have hxo : bits .xor .u8 (y.toNat : Int) 1 = ((y ^^^ 1).toNat : Int) := u8_xor8 y 1
    have hgs := grownBy_set w13 gd i (u8v (y ^^^ 1))
    have RX := Rd.own (OX.other hgs (fun k hk e => by have h1 := OXl.out k hk; have h2 := hgd.out; have h3 := HW5.out; have h4 : gd = k := Option.some.inj e; omega))
    have RC := RdL.own (OC.other (Only.grown hgs) (fun k hk e => by have h1 := OCl.out k hk; have h2 := hgd.out; have h3 := HW5.out; have h4 : gd = k := Option.some.inj (mem_opt.1 e); omega))
    have RS := RdL.own (ON.other (Only.grown hgs) (fun k hk e => by have h1 := HNlt.out k hk; have h2 := hgd.out; have h4 : gd = k := Option.some.inj (mem_opt.1 e); omega))
    have BE := BW.setCell (p := ⟨gd, i, none⟩) (show w.heap.size ≤ gd by have h1 := z1.out; have h2 := z13.out; have h3 := hgd.out; omega) (u8v (y ^^^ 1))
    have HLS : Hid ((d.set i (y ^^^ 1)).length = d.length) := List.length_set ..
    generalize d.set i (y ^^^ 1) = d2 at *
    clear k5 R hR hgs OX OC ON OM OT OD AC BW hg
    unfold u8v at RX RC RS RU BE
    have hyx : ((y ^^^ 1).toNat : Int) = ((y.toNat ^^^ 1 : Nat) : Int) := by rw [UInt8.toNat_xor]; rfl
    rw [hyx] at RX RC RS RU BE hxo
    clear hyx
    go_wp2_with fail
    exact bodyPost_ret (v := .tuple #[.slice px x.length qx, .int .i64 r, .slice (some ⟨b0, o0, none⟩) l.length qc, .slice (some ⟨g6, 0, none⟩) (s.length + 1) c6, .int .i64 now, .slice (some ⟨gd, 0, none⟩) d.length qd]) (by simp [results, Tryz.results23, go_sem]) rfl ⟨x, r, l, (s ++ [((c.1, c.2.1, dg) : SignD)]), now, d2, px, (some ⟨b0, o0, none⟩), (some ⟨g6, 0, none⟩), (some ⟨gd, 0, none⟩), qx, qc, c6, qd, by rw [HLN.out, HLS.out], RX, RC, RS, RU, BE⟩
  have q0 : (k == 0) = false := by rw [beq_eq_false_iff_ne]; exact k0
  by_cases k1 : k = 1
  · subst k1
    have RX := Rd.own OX
    have RC := RdL.own OC
    have RS := RdL.own ON
    have RU := Rd.own OM
    have BE := BW
    clear OX OC ON OM OT OD AC BW HS4 hg
    go_wp2_with fail
    exact bodyPost_ret (v := .tuple #[.slice px x.length qx, .int .i64 (3 - r), .slice (some ⟨b0, o0, none⟩) l.length qc, .slice (some ⟨g6, 0, none⟩) (s.length + 1) c6, .int .i64 now, .slice pd d.length qd]) (by simp [results, Tryz.results23, go_sem]) rfl ⟨x, (3 - r), l, (s ++ [((c.1, c.2.1, dg) : SignD)]), now, d, px, (some ⟨b0, o0, none⟩), (some ⟨g6, 0, none⟩), pd, qx, qc, c6, qd, by rw [HLN.out], RX, RC, RS, RU, BE⟩
  have q1 : (k == 1) = false := by rw [beq_eq_false_iff_ne]; exact k1
  by_cases k2 : k = 2
  · subst k2
    have hlI : 1 ≤ (l.length : Int) := by have := HL.out; omega
    have RX := Rd.own OX
    have RC := RdL.own OC
    have RS := RdL.own ON
    have RU := Rd.own OM
    have BE := BW
    clear OX OC ON OM OT OD AC BW HS4 hg
    have RC1 := RdL.dropK RC 1 (by have := HL.out; omega)
    rw [show certC.n = 3 from rfl] at RC1
    have HLD : Hid ((l.drop 1).length = l.length - 1) := List.length_drop ..
    replace RC := RC1
    clear RC1
    go_wp2_with fail
    · replace RC : RdL certC w12 (some ⟨b0, o0, none⟩) 0 [] := ⟨Nat.le_refl _, by unfold maxLen; omega, (fun e => by cases e), fun hp => absurd hp (by simp)⟩
      have hl0 : l.length - 1 = 0 := by omega
      rw [hl0]
      exact bodyPost_ret (v := .tuple #[.slice px x.length qx, .int .i64 r, .slice (some ⟨b0, o0, none⟩) 0 0, .slice (some ⟨g6, 0, none⟩) (s.length + 1) c6, .int .i64 now, .slice pd d.length qd]) (by simp [results, Tryz.results23, go_sem]) rfl ⟨x, r, [], (s ++ [((c.1, c.2.1, dg) : SignD)]), now, d, px, (some ⟨b0, o0, none⟩), (some ⟨g6, 0, none⟩), pd, qx, 0, c6, qd, by rw [HLN.out]; rfl, RX, RC, RS, RU, BE⟩
    · exact bodyPost_ret (v := .tuple #[.slice px x.length qx, .int .i64 r, .slice (some ⟨b0, o0 + 3, none⟩) (l.length - 1) (qc - 1), .slice (some ⟨g6, 0, none⟩) (s.length + 1) c6, .int .i64 now, .slice pd d.length qd]) (by simp [results, Tryz.results23, go_sem]) rfl ⟨x, r, (l.drop 1), (s ++ [((c.1, c.2.1, dg) : SignD)]), now, d, px, (some ⟨b0, o0 + 3, none⟩), (some ⟨g6, 0, none⟩), pd, qx, (qc - 1), c6, qd, by rw [HLN.out, HLD.out], RX, RC, RS, RU, BE⟩
  have q2 : (k == 2) = false := by rw [beq_eq_false_iff_ne]; exact k2
  by_cases k3 : k = 3
  · subst k3
    obtain ⟨gd, e4⟩ : ∃ gd, pu = some ⟨gd, 0, none⟩ := by
      rcases OD.2 with ⟨e, hz⟩ | ⟨gd, cap, cur, e, -⟩
      · have := H32.out; omega
      · simp at e; exact ⟨gd, e.1⟩
    subst e4
    have hgd : Hid (gc < gd ∧ gd < Y.heap.size) := ⟨HDge.out gd rfl, HDlt.out gd rfl⟩
    clear hg
    have hqu0 := (Rd.own OD).1
    have hqu00 : qu ≤ 2 ^ 63 - 1 := (Rd.own OD).2.1
    have hxs : xs.length = s.length * 3 := by have h := ON.all.len; rw [List.length_append, HLN.out, show signC.n = 3 from rfl] at h; simp at h; omega
    have hrw := ON.row
    rw [HLN.out, show signC.n = 3 from rfl] at hrw
    have rc2 : w12.cell? ⟨g6, s.length * 3 + 2, none⟩ = some (.slice (some ⟨gd, 0, none⟩) dg.length qu) := (World.ownsRow.cellAt hrw (s.length * 3 + 2) (by omega)).trans (by rw [List.getElem?_append_right (by omega), hxs, show s.length * 3 + 2 - s.length * 3 = 2 by omega]; rfl)
    have k5 : w12.ownsRow w1.heap.size 5 1 (.slice (some ⟨gd, 0, none⟩) dg.length qu) dg.length (dg.map u8v) := OD
    have hil : 0 < dg.length := by have := H32.out; omega
    have cx := World.ownsRow.cellAt k5 0 (by omega)
    rw [u8v_at hil] at cx
    have fx := World.ownsRow.frozenAt k5 0
    have R := (World.ownsRow.stored k5 0 (u8v (dg.getD 0 0 ^^^ 1))).1
    have hR : Own (w12.setCell ⟨gd, 0, none⟩ (u8v (dg.getD 0 0 ^^^ 1))) w1.heap.size (.slice (some ⟨gd, 0, none⟩) dg.length qu) (dg.set 0 (dg.getD 0 0 ^^^ 1)) := by unfold Own; rw [List.length_set, List.map_set]; exact R
    unfold at8 at cx
    generalize dg.getD 0 0 = y at *
    have hxo : bits .xor .u8 (y.toNat : Int) 1 = ((y ^^^ 1).toNat : Int) := u8_xor8 y 1
    have hgs := grownBy_set w12 gd 0 (u8v (y ^^^ 1))
    have hRs : Own (w12.setCell ⟨gd, 0, none⟩ (u8v (y ^^^ 1))) w5.heap.size (.slice (some ⟨gd, 0, none⟩) dg.length qu) (dg.set 0 (y ^^^ 1)) := own_raise hR (fun k hk => by have e1 : gd = k := Option.some.inj hk; have h := hgd.out; have h2 := HW5c.out; omega)
    obtain ⟨x1, us, x2, f1, f, f2, hx, hf, hxl1, hso, hback⟩ := ON.refill (P := s) (D := [])
    have hx1 : x1.length = s.length * 3 := hxl1
    have hus : us.length = 3 := signC.len (signC.toRep hso)
    have hx2 : x2 = [] := by have h := congrArg List.length hx; simp at h; exact List.eq_nil_of_length_eq_zero (by omega)
    subst hx2
    rw [List.append_nil] at hx
    obtain ⟨hxa, hxb⟩ := List.append_inj hx (by rw [hxs, hx1])
    subst hxa
    subst hxb
    obtain ⟨vb, hvb, ob, hfe⟩ := sign_own hso
    simp only [List.cons.injEq, and_true, true_and] at hvb
    subst hvb
    have hdisj := (List.nodup_append.1 ON.nd).2.1
    rw [hf, hfe] at hdisj
    have hgf : ∀ j, j ∈ f1 ++ f2 → j ≠ gd := fun j hj e => by
      subst e
      have h1 : j ∈ (Value.slice (some ⟨j, 0, none⟩) dg.length qu).ownBlock.toList := mem_opt.2 rfl
      rw [List.append_assoc] at hdisj
      rcases List.mem_append.1 hj with h | h
      · exact (List.nodup_append.1 hdisj).2.2 j h j (List.mem_append_left _ h1) rfl
      · exact (List.nodup_append.1 (List.nodup_append.1 hdisj).2.1).2.2 j h1 j h rfl
    have hg6 : g6 ≠ gd := fun e => (List.nodup_append.1 ON.nd).2.2 g6 (mem_opt.2 rfl) g6 (by rw [hf, hfe, e]; exact List.mem_append_left _ (List.mem_append_right _ (mem_opt.2 rfl))) rfl
    have hlen : Hid ((dg.set 0 (y ^^^ 1)).length = dg.length) := List.length_set ..
    have hdis2 : ∀ k, k ∈ (Value.slice (some ⟨gd, 0, none⟩) dg.length qu).ownBlock.toList → (Value.slice (some ⟨g6, 0, none⟩) (s.length + 1) c6).ownBlock ≠ some k ∧ k ∉ f1 ∧ k ∉ f2 := fun k hk => by
      have e1 : gd = k := Option.some.inj (mem_opt.1 hk)
      subst e1
      exact ⟨fun e => hg6 (Option.some.inj e), fun h => hgf _ (List.mem_append_left _ h) rfl, fun h => hgf _ (List.mem_append_right _ h) rfl⟩
    have RSN := hback (w12.setCell ⟨gd, 0, none⟩ (u8v (y ^^^ 1))) ((c.1, c.2.1, dg.set 0 (y ^^^ 1)) : SignD) [.int .i64 c.1, .int .i64 c.2.1, .slice (some ⟨gd, 0, none⟩) dg.length qu] _ (sign_own_mk (a := ((c.1, c.2.1, dg.set 0 (y ^^^ 1)) : SignD)) (hRs : Own (w12.setCell ⟨gd, 0, none⟩ (u8v (y ^^^ 1))) w5.heap.size (.slice (some ⟨gd, 0, none⟩) dg.length qu) (dg.set 0 (y ^^^ 1)))) (ownsRow_fr (by have h := hrw; rw [show (s ++ [((c.1, c.2.1, dg.set 0 (y ^^^ 1)) : SignD)]).length = s.length + 1 by simp, List.append_nil]; exact h) (fun j hj => by simp [Value.ownBlock] at hj; subst hj; exact heap_setCell_other _ _ _ _ hg6)) (fun j hj => heap_setCell_other _ _ _ _ (hgf j hj)) hdis2
    have RS := RdL.own RSN
    have RX := Rd.own (OX.other hgs (fun k hk e => by have h1 := OXl.out k hk; have h2 := hgd.out; have h3 := HW5c.out; have h4 : gd = k := Option.some.inj e; omega))
    have RC := RdL.own (OC.other (Only.grown hgs) (fun k hk e => by have h1 := OCl.out k hk; have h2 := hgd.out; have h3 := HW5c.out; have h4 : gd = k := Option.some.inj (mem_opt.1 e); omega))
    have RU := Rd.own (OM.other hgs (fun k hk e => by have h1 := HMge.out k hk; have h2 := hgd.out; have h4 : gd = k := Option.some.inj e; omega))
    have BE := BW.setCell (p := ⟨gd, 0, none⟩) (show w.heap.size ≤ gd by have h1 := z1.out; have h2 := ZAC.out; have h3 := hgd.out; omega) (u8v (y ^^^ 1))
    have HLT : Hid ((s ++ [((c.1, c.2.1, dg.set 0 (y ^^^ 1)) : SignD)]).length = s.length + 1) := by show _ = _; simp
    generalize dg.set 0 (y ^^^ 1) = d3 at *
    clear RSN hdis2 hlen hg6 hgf hdisj ob hso hback hrw k5 R hR hRs hgs OX OC ON OM OT OD AC BW hxl1 hx1 hus hf hfe hxs
    unfold u8v at RX RC RS RU BE
    have hyx : ((y ^^^ 1).toNat : Int) = ((y.toNat ^^^ 1 : Nat) : Int) := by rw [UInt8.toNat_xor]; rfl
    rw [hyx] at RX RC RS RU BE hxo
    clear hyx
    have hc61 : s.length + 1 ≤ c6 := by have h := RS.1; rw [HLT.out] at h; exact h
    have hc62 : c6 ≤ 2 ^ 63 - 1 := RS.2.1
    have hsI : (s.length : Int) < (s.length : Int) + 1 := by omega
    have hdI : 0 < (dg.length : Int) := by omega
    have hqu1 : dg.length ≤ qu := hqu0
    have hqu2 : qu ≤ 2 ^ 63 - 1 := hqu00
    go_wp2_with fail
    exact bodyPost_ret (v := .tuple #[.slice px x.length qx, .int .i64 r, .slice (some ⟨b0, o0, none⟩) l.length qc, .slice (some ⟨g6, 0, none⟩) (s.length + 1) c6, .int .i64 now, .slice pd d.length qd]) (by simp [results, Tryz.results23, go_sem]) rfl ⟨x, r, l, (s ++ [((c.1, c.2.1, d3) : SignD)]), now, d, px, (some ⟨b0, o0, none⟩), (some ⟨g6, 0, none⟩), pd, qx, qc, c6, qd, by rw [HLT.out], RX, RC, RS, RU, BE⟩
  have q3 : (k == 3) = false := by rw [beq_eq_false_iff_ne]; exact k3
  have RX := Rd.own OX
  have RC := RdL.own OC
  have RS := RdL.own ON
  have RU := Rd.own OM
  have BE := BW
  clear OX OC ON OM OT OD AC BW HS4 hg
  go_wp2_with fail
  exact bodyPost_ret (v := .tuple #[.slice px x.length qx, .int .i64 r, .slice (some ⟨b0, o0, none⟩) l.length qc, .slice (some ⟨g6, 0, none⟩) (s.length + 1) c6, .int .i64 now, .slice pd d.length qd]) (by simp [results, Tryz.results23, go_sem]) rfl ⟨x, r, l, (s ++ [((c.1, c.2.1, dg) : SignD)]), now, d, px, (some ⟨b0, o0, none⟩), (some ⟨g6, 0, none⟩), pd, qx, qc, c6, qd, by rw [HLN.out], RX, RC, RS, RU, BE⟩
end Go.Proofs.YtflhoefocjmihaaGreatDoor

