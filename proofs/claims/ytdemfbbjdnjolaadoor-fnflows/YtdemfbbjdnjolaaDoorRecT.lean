/- SendRecord, HearRecord, UpdateStream, KeysOf of the specification, at every argument (written by tools/rec_s.py). What was there stays. -/
import Derived.Test.YtdemfbbjdnjolaaDoorJoint12
import Derived.Test.YtdemfbbjdnjolaaDoorAppZ
namespace Go.Proofs.YtdemfbbjdnjolaaDoor
open Go.ChangeShapes Go.WideShapes Go.ChangeAt Go.RowKit

theorem lit_own (w : World) (bs : List UInt8) (B : Nat) (hB : B ≤ w.heap.size) (hl : bs.length ≤ 1000) : Own (w.alloc (.cells (bs.map u8v).toArray 5)) B (.slice (some ⟨w.heap.size, 0, none⟩) bs.length bs.length) bs := by
  have h := World.ownsRow_lit (base := B) (e := 5) (size := 1) w (bs.map u8v).toArray bs.length hB (by unfold maxLen; omega) (by simp)
  exact h
theorem byt_own {w : World} {B : Nat} {u : Value} {bs : List UInt8} (h : Own w B u bs) : bytC.own w B bs [u] u.ownBlock.toList := ⟨u, rfl, h, rfl⟩
theorem record_own {w : World} {B : Nat} {c k : Int} {bs : List UInt8} {s : StreamD} {u v : Value} (m : Nat) (h1 : Own w B u bs) (h2 : Own w B v s.1) (hl : ∀ k, u.ownBlock = some k → k < m) (hg : ∀ k, v.ownBlock = some k → m ≤ k) :
    recordResultC.own w B (c, k, bs, s) [.int .i64 c, .int .i64 k, u, v, .int .i64 s.2.1, .int .i64 s.2.2] ([] ++ ([] ++ (u.ownBlock.toList ++ (v.ownBlock.toList ++ ([] ++ []))))) :=
  own_pair 0 own_int (own_pair 0 own_int (own_pair m (byt_own h1) (own_pair (w.heap.size) (byt_own h2) (own_pair 0 own_int own_int lt_nil (fun _ _ => Nat.zero_le _)) (fun k hk => h2.lt k (mem_opt.1 hk)) (ge_app ge_nil ge_nil)) (fun k hk => hl k (mem_opt.1 hk)) (ge_app (fun k hk => hg k (mem_opt.1 hk)) (ge_app ge_nil ge_nil))) lt_nil (fun _ _ => Nat.zero_le _)) lt_nil (fun _ _ => Nat.zero_le _)
theorem badR_own (w : World) (B : Nat) (c : Int) : recordResultC.own w B (badR c) [.int .i64 c, .int .i64 0, .slice none 0 0, .slice none 0 0, .int .i64 0, .int .i64 0] [] :=
  record_own (s := zeroS) 0 (Own_nil _ _) (Own_nil _ _) (fun k hk => by simp [Value.ownBlock] at hk) (fun k hk => by simp [Value.ownBlock] at hk)

set_option maxRecDepth 4000 in
set_option maxHeartbeats 2000000 in
theorem specSr_k (x : StreamD) (us : List Value) (kind : Int) (plain : List UInt8) (v : Value) (pad : Int) (w : World) (h : streamC.rep w x us) (h2 : bytC.rep w plain [v]) :
    Calls Tryd.prog 22 #[.agg us.toArray, .int .i64 kind, v, .int .i64 pad] w fun e w' => ∃ us fp, e = .returned (.agg us.toArray) ∧ recordResultC.own w' w.heap.size (srD x kind plain pad) us fp ∧ Below w.heap.size w w' := by
  obtain ⟨p2, q2, e2, r2⟩ := h2
  simp only [List.cons.injEq, and_true] at e2
  subst e2
  have HR2 : Hid (Rd w p2 q2 plain) := r2
  have hq1 : plain.length ≤ q2 := r2.1
  have hq2 : q2 ≤ 2 ^ 63 - 1 := r2.2.1
  clear r2
  obtain ⟨p, q, rfl, r⟩ := stream_rep h
  have BW := Below.mk (alloc_below w (.cells #[.slice p x.1.length q, .int .i64 x.2.1, .int .i64 x.2.2] 25)) (.cells #[.int .i64 0, .int .i64 0, .slice none 0 0, .slice none 0 0, .int .i64 0, .int .i64 0] 29)
  have A := (Arr.new w [.slice p x.1.length q, .int .i64 x.2.1, .int .i64 x.2.2] 25).old _ (.cells #[.int .i64 0, .int .i64 0, .slice none 0 0, .slice none 0 0, .int .i64 0, .int .i64 0] 29)
  have R := Arr.new (w.alloc (.cells #[.slice p x.1.length q, .int .i64 x.2.1, .int .i64 x.2.2] 25)) [.int .i64 0, .int .i64 0, .slice none 0 0, .slice none 0 0, .int .i64 0, .int .i64 0] 29
  rw [size_alloc] at R
  have HR : Hid (Rd w p q x.1) := r
  clear h r
  have K := l9Asked_c w.heap.size x p q _ (fun i u hu => (A.cell i).trans hu)
  by_cases ha : askC x = 0
  · rw [ha] at K
    have hst := ask_parts ha
    cases hk : kindB kind
    · have HE : Hid (srD x kind plain pad = badR 3) := by show _ = _; unfold srD srC; simp [ha, hk]
      clear ha hst
      go_enter Tryd.func22, Tryd.ntmps22
      go_wp2_with fail
      refine (K).mono ?_
      rintro e w1 ⟨rfl, hw⟩
      subst w1
      go_wp2_with fail
      refine (l9Kind_c kind _).mono ?_
      rintro e w1 ⟨rfl, hw⟩
      subst w1
      rw [hk]
      go_wp2_with fail
      refine (l9Bad_c 3 _).mono ?_
      rintro e w2 ⟨rfl, hb⟩
      replace BW := Below.step BW hb
      replace R := R.stay hb
      have c0 := (R.cell 0).trans (show _ = some _ from rfl)
      have c1 := (R.cell 1).trans (show _ = some _ from rfl)
      have c2 := (R.cell 2).trans (show _ = some _ from rfl)
      have c3 := (R.cell 3).trans (show _ = some _ from rfl)
      have c4 := (R.cell 4).trans (show _ = some _ from rfl)
      have c5 := (R.cell 5).trans (show _ = some _ from rfl)
      have fz := R.frozen
      clear hb R A K
      go_wp2_with fail
      refine bodyPost_ret (v := .agg #[.int .i64 3, .int .i64 0, .slice none 0 0, .slice none 0 0, .int .i64 0, .int .i64 0]) (by simp [results, Tryd.results22, go_sem, c0, c1, c2, c3, c4, c5]) rfl ⟨[.int .i64 3, .int .i64 0, .slice none 0 0, .slice none 0 0, .int .i64 0, .int .i64 0], [], rfl, by rw [HE.out]; exact badR_own _ _ _, ?_⟩
      exact ((((((BW.setCell (Nat.le_succ _) _).setCell (Nat.le_succ _) _).setCell (Nat.le_succ _) _).setCell (Nat.le_succ _) _).setCell (Nat.le_succ _) _).setCell (Nat.le_succ _) _)
    · cases hp : inB pad 0 16
      · have HE : Hid (srD x kind plain pad = badR 3) := by show _ = _; unfold srD srC; simp [ha, hk, hp]
        clear ha hst
        go_enter Tryd.func22, Tryd.ntmps22
        go_wp2_with fail
        refine (K).mono ?_
        rintro e w1 ⟨rfl, hw⟩
        subst w1
        go_wp2_with fail
        refine (l9Kind_c kind _).mono ?_
        rintro e w1 ⟨rfl, hw⟩
        subst w1
        rw [hk]
        go_wp2_with fail
        refine (l1In_c pad 0 16 _).mono ?_
        rintro e w1 ⟨rfl, hw⟩
        subst w1
        rw [hp]
        go_wp2_with fail
        refine (l9Bad_c 3 _).mono ?_
        rintro e w2 ⟨rfl, hb⟩
        replace BW := Below.step BW hb
        replace R := R.stay hb
        have c0 := (R.cell 0).trans (show _ = some _ from rfl)
        have c1 := (R.cell 1).trans (show _ = some _ from rfl)
        have c2 := (R.cell 2).trans (show _ = some _ from rfl)
        have c3 := (R.cell 3).trans (show _ = some _ from rfl)
        have c4 := (R.cell 4).trans (show _ = some _ from rfl)
        have c5 := (R.cell 5).trans (show _ = some _ from rfl)
        have fz := R.frozen
        clear hb R A K
        go_wp2_with fail
        refine bodyPost_ret (v := .agg #[.int .i64 3, .int .i64 0, .slice none 0 0, .slice none 0 0, .int .i64 0, .int .i64 0]) (by simp [results, Tryd.results22, go_sem, c0, c1, c2, c3, c4, c5]) rfl ⟨[.int .i64 3, .int .i64 0, .slice none 0 0, .slice none 0 0, .int .i64 0, .int .i64 0], [], rfl, by rw [HE.out]; exact badR_own _ _ _, ?_⟩
        exact ((((((BW.setCell (Nat.le_succ _) _).setCell (Nat.le_succ _) _).setCell (Nat.le_succ _) _).setCell (Nat.le_succ _) _).setCell (Nat.le_succ _) _).setCell (Nat.le_succ _) _)
      · by_cases hl : 200 < plain.length
        · have HE : Hid (srD x kind plain pad = badR 2) := by show _ = _; unfold srD srC; simp [ha, hk, hp, show ¬ plain.length ≤ 200 by omega]
          have hlI : (200 : Int) < (plain.length : Int) := by omega
          clear ha hst hl
          go_enter Tryd.func22, Tryd.ntmps22
          go_wp2_with fail
          refine (K).mono ?_
          rintro e w1 ⟨rfl, hw⟩
          subst w1
          go_wp2_with fail
          refine (l9Kind_c kind _).mono ?_
          rintro e w1 ⟨rfl, hw⟩
          subst w1
          rw [hk]
          go_wp2_with fail
          refine (l1In_c pad 0 16 _).mono ?_
          rintro e w1 ⟨rfl, hw⟩
          subst w1
          rw [hp]
          go_wp2_with fail
          refine (l9Bad_c 2 _).mono ?_
          rintro e w2 ⟨rfl, hb⟩
          replace BW := Below.step BW hb
          replace R := R.stay hb
          have c0 := (R.cell 0).trans (show _ = some _ from rfl)
          have c1 := (R.cell 1).trans (show _ = some _ from rfl)
          have c2 := (R.cell 2).trans (show _ = some _ from rfl)
          have c3 := (R.cell 3).trans (show _ = some _ from rfl)
          have c4 := (R.cell 4).trans (show _ = some _ from rfl)
          have c5 := (R.cell 5).trans (show _ = some _ from rfl)
          have fz := R.frozen
          clear hb R A K
          go_wp2_with fail
          refine bodyPost_ret (v := .agg #[.int .i64 2, .int .i64 0, .slice none 0 0, .slice none 0 0, .int .i64 0, .int .i64 0]) (by simp [results, Tryd.results22, go_sem, c0, c1, c2, c3, c4, c5]) rfl ⟨[.int .i64 2, .int .i64 0, .slice none 0 0, .slice none 0 0, .int .i64 0, .int .i64 0], [], rfl, by rw [HE.out]; exact badR_own _ _ _, ?_⟩
          exact ((((((BW.setCell (Nat.le_succ _) _).setCell (Nat.le_succ _) _).setCell (Nat.le_succ _) _).setCell (Nat.le_succ _) _).setCell (Nat.le_succ _) _).setCell (Nat.le_succ _) _)
        · have HE : Hid (srD x kind plain pad = (0, kind, recN x (innerN kind plain pad), nextS x)) := by show _ = _; unfold srD; rw [if_pos (by unfold srC; simp [ha, hk, hp, show plain.length ≤ 200 by omega])]
          have hlI : ¬ ((200 : Int) < (plain.length : Int)) := by omega
          have hkk : 21 ≤ kind ∧ kind ≤ 23 := by simpa [kindB, inB] using hk
          have hpp : 0 ≤ pad ∧ pad ≤ 16 := by simpa [inB] using hp
          have hk1 : 21 ≤ kind := hkk.1
          have hk2 : kind ≤ 23 := hkk.2
          obtain ⟨pn, rfl⟩ : ∃ n : Nat, pad = (n : Int) := ⟨pad.toNat, by omega⟩
          have hpn : pn ≤ 16 := by omega
          obtain ⟨hst0, hx32, hsq0, hsq1, -, -⟩ := hst
          have HX : Hid (x.1.length = 32) := hx32
          clear ha hl hkk hpp hst0 hx32
          go_enter Tryd.func22, Tryd.ntmps22
          go_wp2_with fail
          refine (K).mono ?_
          rintro e w1 ⟨rfl, hw⟩
          subst w1
          generalize (w.alloc (.cells #[.slice p x.1.length q, .int .i64 x.2.1, .int .i64 x.2.2] 25)).alloc (.cells #[.int .i64 0, .int .i64 0, .slice none 0 0, .slice none 0 0, .int .i64 0, .int .i64 0] 29) = w0 at *
          go_wp2_with fail
          refine (l9Kind_c kind _).mono ?_
          rintro e w1 ⟨rfl, hw⟩
          subst w1
          rw [hk]
          go_wp2_with fail
          refine (l1In_c _ 0 16 _).mono ?_
          rintro e w1 ⟨rfl, hw⟩
          subst w1
          rw [hp]
          have hz0 : Hid (w.heap.size + 2 ≤ w0.heap.size) := R.lt
          clear K
          go_wp2_with fail
          refine (l1Copy_c p2 q2 plain _ (HR2.out.keep BW) (by omega)).mono ?_
          rintro e w1 ⟨u1, rfl, k1, hb1⟩
          obtain ⟨a1, c1, rfl, -⟩ := k1.rd
          have k1a := k1.stay (alloc_below w1 (Obj.cells #[.int .u8 kind] 5))
          have B1 := Below.mk hb1 (Obj.cells #[.int .u8 kind] 5)
          have hz1 := hb1.size
          have hkb : Hid (kind = ((UInt8.ofNat kind.toNat).toNat : Int)) := (kind_byte hk).1.symm
          obtain ⟨L2, HL2⟩ : ∃ L, Hid (L = plain ++ [UInt8.ofNat kind.toNat]) := ⟨_, rfl⟩
          have HLen2 : Hid (L2.length = plain.length + 1) := by show _ = _; rw [HL2.out]; simp
          obtain ⟨IN, HIN⟩ : ∃ L, Hid (L = innerN kind plain (pn : Int)) := ⟨_, rfl⟩
          have HI : Hid (L2 ++ zs pn = IN) := by show _ = _; rw [HIN.out, HL2.out]; rfl
          have HLi : Hid (IN.length = plain.length + 1 + pn) := by show _ = _; rw [HIN.out, innerN_len]; rfl
          have hin : IN.length ≤ 217 := by have := HLi.out; omega
          obtain ⟨HD, HHD⟩ : ∃ L, Hid (L = headN IN.length) := ⟨_, rfl⟩
          have HHd : Hid ([23, 3, 3] ++ putB (IN.length + 16) 2 = HD) := by show _ = _; rw [HHD.out]; rfl
          have KP : Hid (∀ w, Calls Tryd.prog 51 #[.int .i64 ((IN.length : Int) + 16), .int .i64 2] w fun e w' => ∃ u, e = .returned u ∧ Own w' w.heap.size u (putB (IN.length + 16) 2) ∧ Below w.heap.size w w') := fun w => l1Put_c (IN.length + 16) 2 w (by have := HLi.out; omega) (by decide)
          go_wp2_with (first
            | (at_builtin; refine wpList_append_rd rfl (.tmp 32) (.tmp 35) rfl w0.heap.size (.slice a1 plain.length c1) plain rfl k1a _ 1 [UInt8.ofNat kind.toNat] rfl (rd_one w1 (UInt8.ofNat kind.toNat) _ _ hkb.out) (by simp; omega) (by simp; omega) ?_; intro v2 w2 k2 hg2; rw [← HL2.out] at k2; have B2 := B1.grown hg2 (by simp; omega) (fun k hk => k1a.ge k hk); obtain ⟨a2, c2, rfl, -⟩ := k2.rd; clear hg2 B1 k1a k1 hb1)
            | (at_builtin; refine wpList_append_zs rfl (.tmp 36) (.tmp 37) rfl w0.heap.size (.slice a2 L2.length c2) L2 rfl k2 pn rfl (by have := HLen2.out; omega) B2.size ?_; intro v3 w3 k3 hg3; have B3 := B2.grown hg3 B2.size (fun k hk => k2.ge k hk); rw [HI.out] at k3; obtain ⟨a3, c3, rfl, -⟩ := k3.rd; clear hg3 B2 k2))
          have hk3 : Hid (∀ k, (Value.slice a3 IN.length c3).ownBlock = some k → k < w3.heap.size) := k3.lt
          have hh := lit_own w3 [23, 3, 3] w3.heap.size (Nat.le_refl _) (by decide)
          have B4 := alloc_below w3 (Obj.cells #[.int .u8 23, .int .u8 3, .int .u8 3] 5)
          replace k3 := k3.stay B4
          refine (KP.out _).mono ?_
          rintro e w5 ⟨u5, rfl, k5, hb5⟩
          obtain ⟨a5, c5, rfl, r5⟩ := k5.rd
          replace k3 := k3.stay hb5
          have hh5 := hh.stay hb5
          have B5 := Below.step B4 hb5
          rw [putB_len]
          go_wp2_with (at_builtin; refine wpList_append_rd rfl (.tmp 39) (.tmp 43) rfl w3.heap.size (.slice (some ⟨w3.heap.size, 0, none⟩) 3 3) [23, 3, 3] rfl hh5 a5 c5 (putB (IN.length + 16) 2) (by rw [putB_len]; rfl) r5 (by rw [putB_len]; decide) B5.size ?_; intro v6 w6 k6 hg6; have B6 := B5.grown hg6 B5.size (fun k hk => hh5.ge k hk); replace k3 := k3.other hg6 (fun k hk e => by have h1 := hk3.out k hk; simp [Value.ownBlock] at e; omega); rw [HHd.out] at k6; obtain ⟨a6, c6, rfl, -⟩ := k6.rd)
          replace A := (A.stay B3).stay B6
          replace R := (R.stay B3).stay B6
          replace BW := Below.step (Below.step BW B3) B6
          have hz3 : Hid (w.heap.size + 2 ≤ w3.heap.size) := Nat.le_trans hz0.out B3.size
          have hz6 : Hid (w3.heap.size ≤ w6.heap.size) := B6.size
          clear hh hh5 B4 B5 B6 B3 hb5 k5 r5 hg6 hk3 KP
          have hx64 : x.1.length ≤ 64 := by have := HX.out; omega
          obtain ⟨sn, HS⟩ : ∃ n : Nat, Hid (x.2.1 = (n : Int)) := ⟨x.2.1.toNat, by show _ = _; omega⟩
          have HN : Hid (nonceN (baseN x.1) sn = nonceS x) := by show _ = _; unfold nonceS; rw [HS.out]; rfl
          have KN : Hid (∀ (w : World) (pb : Option Addr) (qb : Nat), Rd w pb qb (baseN x.1) → Calls Tryd.prog 53 #[.slice pb 12 qb, .int .i64 x.2.1] w fun e w' => ∃ u, e = .returned u ∧ Own w' w.heap.size u (nonceS x) ∧ Below w.heap.size w w') := fun w pb qb hr => by
            rw [HS.out, ← HN.out]
            exact l4Nonce_c pb qb (baseN x.1) sn w hr (baseN_len _) (by have := HS.out; omega)
          have HSL : Hid (HD ++ sealN (keyN x.1) (nonceS x) HD IN = recN x IN) := by show _ = _; rw [HHD.out]; rfl
          have hHD : Hid (HD.length = 5) := by show _ = _; rw [HHD.out, headN_len]
          have KS : Hid (∀ (w : World) (pk pn : Option Addr) (qk qn : Nat), Rd w pk qk (keyN x.1) → Rd w pn qn (nonceS x) → Rd w a6 c6 HD → Rd w a3 c3 IN → Calls Tryd.prog 52 #[.slice pk 32 qk, .slice pn 12 qn, .slice a6 HD.length c6, .slice a3 IN.length c3] w fun e w' => ∃ u, e = .returned u ∧ Own w' w.heap.size u (sealN (keyN x.1) (nonceS x) HD IN) ∧ Below w.heap.size w w') := fun w pk pn qk qn h1 h2 h3 h4 => by
            have h := l5Seal_c pk pn a6 a3 qk qn c6 c3 (keyN x.1) (nonceS x) HD IN w h1 h2 h3 h4 (keyN_len _) (nonceS_len _) (by have := hHD.out; omega) (by omega)
            rw [keyN_len, nonceS_len] at h
            exact h
          have HSn : Hid ((sealN (keyN x.1) (nonceS x) HD IN).length = IN.length + 16) := sealN_len _ _ _ _
          have cs := (A.cell 0).trans (show _ = some _ from rfl)
          have cq := (A.cell 1).trans (show _ = some _ from rfl)
          have g0 := HW.at (cs)
          have g1 := HW.at (cq)
          have hne := HW.some w6
          refine wp_region_pick [0, 1, 3, 4, 6, 7, 9, 10] 12 4 1 rfl rfl rfl (by kernel_rfl) (by kernel_rfl) (by kernel_rfl) (by kernel_rfl) ?_
          simp only [opsAt, List.getElem?_toArray, List.getElem?_cons_zero, List.getElem?_cons_succ]
          repeat (go_big_quiet_step (fail))
          refine wpQuiet_nil ?_
          refine wpM_only (i := 2) (by kernel_rfl) ?_
          refine mOp_call rfl (by go_simp) 40 _ #[.slice p x.1.length q] (fun w => by go_simp) rfl ?_
          rintro _ ⟨sd2, rfl⟩
          refine (l9Key_c p q x.1 _ (HR.out.keep (Below.step BW sd2.h)) hx64).mono ?_
          rintro e wd2 ⟨u, rfl, kk, hbx⟩
          obtain ⟨pk, qk, rfl, -⟩ := kk.rd
          rw [keyN_len] at kk ⊢
          refine ⟨_, rfl, ⟨⟨_, hbx⟩, rfl⟩, ?_⟩
          have hbg := Below.step sd2.h hbx
          replace A := A.stay hbg
          replace R := R.stay hbg
          replace k3 := k3.stay hbg
          replace k6 := k6.stay hbg
          replace g0 := HW.down g0 hbg
          replace g1 := HW.down g1 hbg
          replace BW := Below.step BW hbg
          replace hne := HW.some wd2
          have zz2 : Hid (w6.heap.size ≤ wd2.heap.size) := hbg.size
          have zs2 : Hid (w6.heap.size ≤ sd2.w.heap.size) := sd2.h.size
          clear hbg hbx
          refine wpM_only (i := 5) (by kernel_rfl) ?_
          refine mOp_call rfl (by go_simp) 41 _ #[.slice p x.1.length q] (fun w => by go_simp) rfl ?_
          rintro _ ⟨sd5, rfl⟩
          refine (l9Base_c p q x.1 _ (HR.out.keep (Below.step BW sd5.h)) hx64).mono ?_
          rintro e wd5 ⟨u, rfl, kb, hbx⟩
          obtain ⟨pb, qb, rfl, -⟩ := kb.rd
          rw [baseN_len] at kb ⊢
          refine ⟨_, rfl, ⟨⟨_, hbx⟩, rfl⟩, ?_⟩
          have hbg := Below.step sd5.h hbx
          replace A := A.stay hbg
          replace R := R.stay hbg
          replace k3 := k3.stay hbg
          replace k6 := k6.stay hbg
          replace kk := kk.stay hbg
          replace g0 := HW.down g0 hbg
          replace g1 := HW.down g1 hbg
          replace BW := Below.step BW hbg
          replace hne := HW.some wd5
          have zz5 : Hid (wd2.heap.size ≤ wd5.heap.size) := hbg.size
          have zs5 : Hid (wd2.heap.size ≤ sd5.w.heap.size) := sd5.h.size
          clear hbg hbx
          refine wpM_only (i := 8) (by kernel_rfl) ?_
          refine mOp_call rfl (by go_simp) 53 _ #[.slice pb 12 qb, .int .i64 x.2.1] (fun w => by go_simp) rfl ?_
          rintro _ ⟨sd8, rfl⟩
          refine (KN.out _ pb qb (Rd.own (kb.stay sd8.h))).mono ?_
          rintro e wd8 ⟨u, rfl, kn, hbx⟩
          obtain ⟨pn2, qn2, rfl, -⟩ := kn.rd
          rw [nonceS_len] at kn ⊢
          refine ⟨_, rfl, ⟨⟨_, hbx⟩, rfl⟩, ?_⟩
          have hbg := Below.step sd8.h hbx
          replace A := A.stay hbg
          replace R := R.stay hbg
          replace k3 := k3.stay hbg
          replace k6 := k6.stay hbg
          replace kk := kk.stay hbg
          replace kb := kb.stay hbg
          replace g0 := HW.down g0 hbg
          replace g1 := HW.down g1 hbg
          replace BW := Below.step BW hbg
          replace hne := HW.some wd8
          have zz8 : Hid (wd5.heap.size ≤ wd8.heap.size) := hbg.size
          have zs8 : Hid (wd5.heap.size ≤ sd8.w.heap.size) := sd8.h.size
          clear hbg hbx
          refine wpM_only (i := 11) (by kernel_rfl) ?_
          refine mOp_call rfl (by go_simp) 52 _ #[.slice pk 32 qk, .slice pn2 12 qn2, .slice a6 HD.length c6, .slice a3 IN.length c3] (fun w => by go_simp) rfl ?_
          rintro _ ⟨sd11, rfl⟩
          refine (KS.out _ pk pn2 qk qn2 (Rd.own (kk.stay sd11.h)) (Rd.own (kn.stay sd11.h)) (Rd.own (k6.stay sd11.h)) (Rd.own (k3.stay sd11.h))).mono ?_
          rintro e wd11 ⟨u, rfl, ks, hbx⟩
          obtain ⟨ps, qs, rfl, -⟩ := ks.rd
          refine ⟨_, rfl, ⟨⟨_, hbx⟩, rfl⟩, ?_⟩
          have hbg := Below.step sd11.h hbx
          replace A := A.stay hbg
          replace R := R.stay hbg
          replace k3 := k3.stay hbg
          replace k6 := k6.stay hbg
          replace kk := kk.stay hbg
          replace kb := kb.stay hbg
          replace kn := kn.stay hbg
          replace g0 := HW.down g0 hbg
          replace g1 := HW.down g1 hbg
          replace BW := Below.step BW hbg
          replace hne := HW.some wd11
          have zz11 : Hid (wd8.heap.size ≤ wd11.heap.size) := hbg.size
          have zs11 : Hid (wd8.heap.size ≤ sd11.w.heap.size) := sd11.h.size
          clear hbg hbx
          refine wpM_end (by kernel_rfl) rfl (by kernel_rfl) (by decide) ?_
          rintro _ ⟨sdz, rfl⟩
          simp only [List.drop_succ_cons, List.drop_zero]
          have hbg : Below _ _ sdz.w := sdz.h
          replace A := A.stay hbg
          replace R := R.stay hbg
          replace k3 := k3.stay hbg
          replace k6 := k6.stay hbg
          replace kk := kk.stay hbg
          replace kb := kb.stay hbg
          replace kn := kn.stay hbg
          replace ks := ks.stay hbg
          replace BW := Below.step BW hbg
          have zzz : Hid (wd11.heap.size ≤ sdz.w.heap.size) := hbg.size
          clear hbg hne g0 g1
          generalize sdz.w = w7 at *
          clear sdz
          have rs := Rd.own ks
          obtain ⟨SL, HSLe⟩ : ∃ L, Hid (L = sealN (keyN x.1) (nonceS x) HD IN) := ⟨_, rfl⟩
          rw [← HSLe.out] at rs HSL HSn ⊢
          have hsn : SL.length ≤ 233 := by have := HSn.out; omega
          have hz7 : Hid (w3.heap.size ≤ w7.heap.size) := by have := hz6.out; have := zz2.out; have := zz5.out; have := zz8.out; have := zz11.out; have := zzz.out; show _ ≤ _; omega
          clear kk kb kn k3 ks KN KS cs cq
          go_wp2_with (at_builtin; refine wpList_append_rd rfl (.tmp 58) (.tmp 59) rfl w3.heap.size (.slice a6 HD.length c6) HD rfl k6 ps qs SL rfl rs (by have := hHD.out; omega) hz7.out ?_; intro v8 w8 k8 hg8; have hgr : ∀ k, (Value.slice a6 HD.length c6).ownBlock = some k → w3.heap.size ≤ k := k6.ge; replace A := A.other hg8 (fun e => by have := hgr _ e; have := hz3.out; omega); replace R := R.other hg8 (fun e => by have := hgr _ e; have := hz3.out; omega); replace BW := BW.grown hg8 BW.size (fun k hk => by have := hgr k hk; have := hz3.out; omega); rw [HSL.out] at k8; obtain ⟨a8, c8, rfl, -⟩ := k8.rd; have hz8 : Hid (w3.heap.size ≤ w8.heap.size) := Nat.le_trans hz7.out hg8.size; clear hg8)
          refine (l9Next_c w.heap.size x p q _ (fun i u hu => (A.cell i).trans hu) (HR.out.keep BW) (by omega) hsq0 (by omega)).mono ?_
          rintro e w9 ⟨u9, rfl, k9, hb9⟩
          obtain ⟨a9, c9, rfl, -⟩ := k9.rd
          have hk8 : Hid (∀ k, (Value.slice a8 (recN x IN).length c8).ownBlock = some k → k < w8.heap.size) := k8.lt
          have hk9 : Hid (∀ k, (Value.slice a9 x.1.length c9).ownBlock = some k → w8.heap.size ≤ k) := k9.ge
          replace k8 := k8.stay hb9
          replace R := R.stay hb9
          replace BW := Below.step BW hb9
          have c0 := (R.cell 0).trans (show _ = some _ from rfl)
          have c1 := (R.cell 1).trans (show _ = some _ from rfl)
          have c2 := (R.cell 2).trans (show _ = some _ from rfl)
          have c3 := (R.cell 3).trans (show _ = some _ from rfl)
          have c4 := (R.cell 4).trans (show _ = some _ from rfl)
          have c5 := (R.cell 5).trans (show _ = some _ from rfl)
          have fz := R.frozen
          clear R A hb9
          go_wp2_with fail
          refine bodyPost_ret (v := .agg #[.int .i64 0, .int .i64 kind, .slice a8 (recN x IN).length c8, .slice a9 x.1.length c9, .int .i64 (x.2.1 + 1), .int .i64 x.2.2]) (by simp [results, Tryd.results22, go_sem, c0, c1, c2, c3, c4, c5]) rfl ?_
          rw [HE.out]
          rw [← HIN.out]
          exact ⟨[.int .i64 0, .int .i64 kind, .slice a8 (recN x IN).length c8, .slice a9 x.1.length c9, .int .i64 (x.2.1 + 1), .int .i64 x.2.2], _, rfl, record_own (s := nextS x) w8.heap.size (((((((k8.set (Nat.lt_of_lt_of_le (Nat.lt_succ_self _) hz3.out) _).set (Nat.lt_of_lt_of_le (Nat.lt_succ_self _) hz3.out) _).set (Nat.lt_of_lt_of_le (Nat.lt_succ_self _) hz3.out) _).set (Nat.lt_of_lt_of_le (Nat.lt_succ_self _) hz3.out) _).set (Nat.lt_of_lt_of_le (Nat.lt_succ_self _) hz3.out) _).set (Nat.lt_of_lt_of_le (Nat.lt_succ_self _) hz3.out) _).lower (Nat.le_trans (Nat.le_add_right _ 2) hz3.out)) (((((((k9.set (Nat.lt_of_lt_of_le (Nat.lt_of_lt_of_le (Nat.lt_succ_self _) hz3.out) hz8.out) _).set (Nat.lt_of_lt_of_le (Nat.lt_of_lt_of_le (Nat.lt_succ_self _) hz3.out) hz8.out) _).set (Nat.lt_of_lt_of_le (Nat.lt_of_lt_of_le (Nat.lt_succ_self _) hz3.out) hz8.out) _).set (Nat.lt_of_lt_of_le (Nat.lt_of_lt_of_le (Nat.lt_succ_self _) hz3.out) hz8.out) _).set (Nat.lt_of_lt_of_le (Nat.lt_of_lt_of_le (Nat.lt_succ_self _) hz3.out) hz8.out) _).set (Nat.lt_of_lt_of_le (Nat.lt_of_lt_of_le (Nat.lt_succ_self _) hz3.out) hz8.out) _).lower (Nat.le_trans (Nat.le_trans (Nat.le_add_right _ 2) hz3.out) hz8.out)) hk8.out hk9.out, ((((((BW.setCell (Nat.le_succ _) _).setCell (Nat.le_succ _) _).setCell (Nat.le_succ _) _).setCell (Nat.le_succ _) _).setCell (Nat.le_succ _) _).setCell (Nat.le_succ _) _)⟩
  · have HE : Hid (srD x kind plain pad = badR (askC x)) := by show _ = _; unfold srD srC; rw [if_neg ha, if_neg ha]
    have hne : (askC x != 0) = true := by rw [bne_iff_ne]; exact ha
    clear ha
    generalize askC x = ac at *
    go_enter Tryd.func22, Tryd.ntmps22
    go_wp2_with fail
    refine (K).mono ?_
    rintro e w1 ⟨rfl, hw⟩
    subst w1
    go_wp2_with fail
    refine (l9Bad_c ac _).mono ?_
    rintro e w2 ⟨rfl, hb⟩
    replace BW := Below.step BW hb
    replace R := R.stay hb
    have c0 := (R.cell 0).trans (show _ = some _ from rfl)
    have c1 := (R.cell 1).trans (show _ = some _ from rfl)
    have c2 := (R.cell 2).trans (show _ = some _ from rfl)
    have c3 := (R.cell 3).trans (show _ = some _ from rfl)
    have c4 := (R.cell 4).trans (show _ = some _ from rfl)
    have c5 := (R.cell 5).trans (show _ = some _ from rfl)
    have fz := R.frozen
    clear hb R A K
    go_wp2_with fail
    refine bodyPost_ret (v := .agg #[.int .i64 ac, .int .i64 0, .slice none 0 0, .slice none 0 0, .int .i64 0, .int .i64 0]) (by simp [results, Tryd.results22, go_sem, c0, c1, c2, c3, c4, c5]) rfl ⟨[.int .i64 ac, .int .i64 0, .slice none 0 0, .slice none 0 0, .int .i64 0, .int .i64 0], [], rfl, by rw [HE.out]; exact badR_own _ _ _, ?_⟩
    exact ((((((BW.setCell (Nat.le_succ _) _).setCell (Nat.le_succ _) _).setCell (Nat.le_succ _) _).setCell (Nat.le_succ _) _).setCell (Nat.le_succ _) _).setCell (Nat.le_succ _) _)
theorem keys_own {w : World} {B : Nat} {c : Int} {ks bs : List UInt8} {u v : Value} (m : Nat) (h1 : Own w B u ks) (h2 : Own w B v bs) (hl : ∀ k, u.ownBlock = some k → k < m) (hg : ∀ k, v.ownBlock = some k → m ≤ k) :
    keysResultC.own w B (c, ks, bs) [.int .i64 c, u, v] ([] ++ (u.ownBlock.toList ++ v.ownBlock.toList)) :=
  own_pair 0 own_int (own_pair m (byt_own h1) (byt_own h2) (fun k hk => hl k (mem_opt.1 hk)) (fun k hk => hg k (mem_opt.1 hk))) lt_nil (fun _ _ => Nat.zero_le _)
set_option maxRecDepth 4000 in
set_option maxHeartbeats 1000000 in
theorem specKo_k (s : List UInt8) (v : Value) (w : World) (h : bytC.rep w s [v]) :
    Calls Tryd.prog 13 #[v] w fun e w' => ∃ us fp, e = .returned (.agg us.toArray) ∧ keysResultC.own w' w.heap.size (koD s) us fp ∧ Below w.heap.size w w' := by
  obtain ⟨p, q, e2, r⟩ := h
  simp only [List.cons.injEq, and_true] at e2
  subst e2
  have BW := alloc_below w (.cells #[.int .i64 0, .slice none 0 0, .slice none 0 0] 35)
  have R := Arr.new w [.int .i64 0, .slice none 0 0, .slice none 0 0] 35
  have HR : Hid (Rd w p q s) := r
  clear r
  cases h1 : is32 s
  · rw [show koD s = (1, [], []) by simp [koD, h1]]
    go_enter Tryd.func13, Tryd.ntmps13
    go_wp2_with fail
    refine (l7Secret_c p q s _).mono ?_
    rintro e w1 ⟨rfl, hw⟩
    subst w1
    rw [h1]
    go_wp2_with fail
    exact bodyPost_ret (v := .agg #[.int .i64 1, .slice none 0 0, .slice none 0 0]) (by simp [results, Tryd.results13, go_sem]) rfl ⟨[.int .i64 1, .slice none 0 0, .slice none 0 0], _, rfl, keys_own 0 (Own_nil _ _) (Own_nil _ _) (fun k hk => by simp [Value.ownBlock] at hk) (fun k hk => by simp [Value.ownBlock] at hk), alloc_below _ _⟩
  · rw [show koD s = (0, keyN s, baseN s) by simp [koD, h1]]
    have hl : s.length ≤ 64 := by
      have h2 : s.length = 32 := by simpa [is32] using h1
      omega
    have hz0 : Hid ((w.alloc (.cells #[.int .i64 0, .slice none 0 0, .slice none 0 0] 35)).heap.size = w.heap.size + 1) := size_alloc _ _
    go_enter Tryd.func13, Tryd.ntmps13
    go_wp2_with fail
    refine (l7Secret_c p q s _).mono ?_
    rintro e w1 ⟨rfl, hw⟩
    subst w1
    rw [h1]
    go_wp2_with fail
    refine (l9Key_c p q s _ (HR.out.keep BW) hl).mono ?_
    rintro e w1 ⟨u1, rfl, k1, hb1⟩
    rw [hz0.out] at k1
    obtain ⟨a1, cc1, rfl, -⟩ := k1.rd
    have hz1 : Hid (w.heap.size + 1 ≤ w1.heap.size) := by have h := hb1.size; rw [hz0.out] at h; exact h
    replace BW := Below.step BW hb1
    replace R := R.stay hb1
    have hk1 : Hid (∀ k, (Value.slice a1 (keyN s).length cc1).ownBlock = some k → k < w1.heap.size) := k1.lt
    go_wp2_with fail
    refine (l9Base_c p q s _ (HR.out.keep BW) hl).mono ?_
    rintro e w2 ⟨u2, rfl, k2, hb2⟩
    obtain ⟨a2, cc2, rfl, -⟩ := k2.rd
    have hk2 : Hid (∀ k, (Value.slice a2 (baseN s).length cc2).ownBlock = some k → w1.heap.size ≤ k) := k2.ge
    replace k2 := k2.lower hz1.out
    replace BW := Below.step BW hb2
    replace R := R.stay hb2
    replace k1 := k1.stay hb2
    have c0 := (R.cell 0).trans (show _ = some _ from rfl)
    have c1 := (R.cell 1).trans (show _ = some _ from rfl)
    have c2 := (R.cell 2).trans (show _ = some _ from rfl)
    have fz := R.frozen
    clear R hb1 hb2
    go_wp2_with fail
    exact bodyPost_ret (v := .agg #[.int .i64 0, .slice a1 (keyN s).length cc1, .slice a2 (baseN s).length cc2]) (by simp [results, Tryd.results13, go_sem, c0, c1, c2]) rfl ⟨[.int .i64 0, .slice a1 (keyN s).length cc1, .slice a2 (baseN s).length cc2], _, rfl, keys_own w1.heap.size ((((k1.set (Nat.lt_succ_self _) _).set (Nat.lt_succ_self _) _).set (Nat.lt_succ_self _) _).lower (Nat.le_succ _)) ((((k2.set (Nat.lt_succ_self _) _).set (Nat.lt_succ_self _) _).set (Nat.lt_succ_self _) _).lower (Nat.le_succ _)) hk1.out hk2.out, (((BW.setCell (Nat.le_refl _) _).setCell (Nat.le_refl _) _).setCell (Nat.le_refl _) _)⟩
end Go.Proofs.YtdemfbbjdnjolaaDoor

