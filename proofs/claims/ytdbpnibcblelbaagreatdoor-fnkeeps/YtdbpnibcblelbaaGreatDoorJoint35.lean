/- SendRecord of the program, at every argument, where the two tables hold what the program's text lays (Tabs). What was there stays. -/
import Derived.Test.YtdbpnibcblelbaaGreatDoorJoint34
import Derived.Test.YtdbpnibcblelbaaGreatDoorJoint22
import Derived.Test.YtdbpnibcblelbaaGreatDoorJoint28
import Derived.Test.YtdbpnibcblelbaaGreatDoorJoint23
import Derived.Test.YtdbpnibcblelbaaGreatDoorJoint11
import Derived.Test.YtdbpnibcblelbaaGreatDoorJoint20
import Derived.Test.YtdbpnibcblelbaaGreatDoorJoint8
import Derived.Test.YtdbpnibcblelbaaGreatDoorJoint2
import Derived.Test.YtdbpnibcblelbaaGreatDoorSchF
import Derived.Test.YtdbpnibcblelbaaGreatDoorJoint17
import Derived.Test.YtdbpnibcblelbaaGreatDoorJoint16
import Derived.Test.YtdbpnibcblelbaaGreatDoorKeyI
import Derived.Test.YtdbpnibcblelbaaGreatDoorJoint6
import Derived.Laws.Cover2
import Derived.Laws.Cover3
import Derived.Laws.FloatArith
namespace Go.Proofs.YtdbpnibcblelbaaGreatDoor
open Go.ChangeShapes Go.WideShapes Go.ChangeAt Go.RowKit
theorem own_apart {α β : Type} {c : Cod α} {d : Cod β} {w : World} {B : Nat} {a : α × β} {us ts : List Value} {f g : List Nat} (h1 : c.own w B a.1 us f) (h2 : d.own w B a.2 ts g) (hd : ∀ k, k ∈ f → k ∉ g) : (prodC c d).own w B a (us ++ ts) (f ++ g) :=
  ⟨us, ts, f, g, rfl, rfl, List.nodup_append.2 ⟨c.nd h1, d.nd h2, fun _ ha _ hb e => hd _ ha (e ▸ hb)⟩, h1, h2⟩
theorem record_apart {w : World} {B : Nat} {c k : Int} {bs : List UInt8} {s : StreamD} {u v : Value} (h1 : Own w B u bs) (h2 : Own w B v s.1) (hd : ∀ k, u.ownBlock = some k → v.ownBlock ≠ some k) :
    recordResultC.own w B (c, k, bs, s) [.int .i64 c, .int .i64 k, u, v, .int .i64 s.2.1, .int .i64 s.2.2] ([] ++ ([] ++ (u.ownBlock.toList ++ (v.ownBlock.toList ++ ([] ++ []))))) :=
  own_apart (a := (c, k, bs, s)) (us := [.int .i64 c]) own_int (own_apart (a := (k, bs, s)) (us := [.int .i64 k]) own_int (own_apart (a := (bs, s)) (us := [u]) (byt_own h1) (own_apart (a := s) (us := [v]) (byt_own h2) (own_apart (a := s.2) (us := [.int .i64 s.2.1]) own_int own_int (fun _ h => by cases h)) (fun _ _ h => by simp at h)) (fun j hj h => by
    have h1 := mem_opt.1 hj
    simp at h
    exact hd j h1 h)) (fun _ h => by cases h)) (fun _ h => by cases h)
set_option maxRecDepth 4000 in
set_option maxHeartbeats 2000000 in
theorem implSr_k (x : StreamD) (us : List Value) (kind : Int) (plain : List UInt8) (v : Value) (pad : Int) (w : World) (h : streamC.rep w x us) (h2 : bytC.rep w plain [v]) (hT : Tabs w) :
    Calls Tryz.prog 10 #[.agg us.toArray, .int .i64 kind, v, .int .i64 pad] w fun e w' => ∃ us fp, e = .returned (.agg us.toArray) ∧ recordResultC.own w' w.heap.size (srD x kind plain pad) us fp ∧ Below w.heap.size w w' := by
  obtain ⟨p2, q2, e2, r2⟩ := h2
  simp only [List.cons.injEq, and_true] at e2
  subst e2
  have HR2 : Hid (Rd w p2 q2 plain) := r2
  have HT : Hid (Tabs w) := hT
  have hq1 : plain.length ≤ q2 := r2.1
  have hq2 : q2 ≤ 2 ^ 63 - 1 := r2.2.1
  clear r2 hT
  obtain ⟨p, q, rfl, r⟩ := stream_rep h
  have BW := Below.mk (alloc_below w (.cells #[.slice p x.1.length q, .int .i64 x.2.1, .int .i64 x.2.2] 36)) (.cells #[.int .i64 0, .int .i64 0, .slice none 0 0, .slice none 0 0, .int .i64 0, .int .i64 0] 38)
  have A := (Arr.new w [.slice p x.1.length q, .int .i64 x.2.1, .int .i64 x.2.2] 36).old _ (.cells #[.int .i64 0, .int .i64 0, .slice none 0 0, .slice none 0 0, .int .i64 0, .int .i64 0] 38)
  have R := Arr.new (w.alloc (.cells #[.slice p x.1.length q, .int .i64 x.2.1, .int .i64 x.2.2] 36)) [.int .i64 0, .int .i64 0, .slice none 0 0, .slice none 0 0, .int .i64 0, .int .i64 0] 38
  rw [size_alloc] at R
  have HR : Hid (Rd w p q x.1) := r
  have KF : Hid (∀ w, Calls Tryz.prog 39 #[.agg #[.slice p x.1.length q, .int .i64 x.2.1, .int .i64 x.2.2], .int .i64 kind, .slice p2 plain.length q2, .int .i64 pad] w fun e w' => e = .returned (.int .i64 (srC x kind plain pad)) ∧ Below w.heap.size w w') := fun w => sendFault_c x p p2 q q2 kind plain pad w
  clear h r
  by_cases hc : srC x kind plain pad = 0
  · have HE : Hid (srD x kind plain pad = (0, kind, recN x (innerN kind plain pad), nextS x)) := by show _ = _; unfold srD; rw [if_pos hc]
    obtain ⟨ha, hk, ⟨hp0, hp1⟩, hl⟩ := sr_parts hc
    obtain ⟨-, hx32, hs0, hs1, -, -⟩ := ask_parts ha
    have HX : Hid (x.1.length = 32) := hx32
    have HI32 : Hid (is32 x.1 = true) := by show _ = _; simp [is32, hx32]
    rw [hc] at KF
    obtain ⟨pn, rfl⟩ : ∃ n : Nat, pad = (n : Int) := ⟨pad.toNat, by omega⟩
    have hpn : pn ≤ 16 := by omega
    have hkk : 21 ≤ kind ∧ kind ≤ 23 := by simpa [kindB, inB] using hk
    have hk1 : 21 ≤ kind := hkk.1
    have hk2 : kind ≤ 23 := hkk.2
    have hkb : Hid (kind = ((UInt8.ofNat kind.toNat).toNat : Int)) := (kind_byte hk).1.symm
    clear hc ha hx32 hkk
    go_enter Tryz.func10, Tryz.ntmps10
    go_wp2_with fail
    refine (KF.out _).mono ?_
    rintro e w1 ⟨rfl, hb1⟩
    replace BW := Below.step BW hb1
    replace A := A.stay hb1
    replace R := R.stay hb1
    clear hb1
    have c0 := (A.cell 0).trans (show _ = some _ from rfl)
    have c1 := (A.cell 1).trans (show _ = some _ from rfl)
    have c2 := (A.cell 2).trans (show _ = some _ from rfl)
    go_wp2_with fail
    refine (ownStream_c x p q _ (HR.out.keep BW) (by have := HX.out; omega)).mono ?_
    rintro e w2 ⟨u2, b, rfl, k2, N, hbg, hub, hb2⟩
    obtain ⟨a2, cc2, rfl, -⟩ := k2.rd
    have hz1 : Hid (w.heap.size + 2 ≤ w1.heap.size) := R.lt
    replace BW := Below.step BW hb2
    replace R := R.stay hb2
    have HZ2 : Hid (w1.heap.size ≤ w2.heap.size) := hb2.size
    have HBG : Hid (w1.heap.size < b) := hbg
    have HUB : Hid (∀ k, (Value.slice a2 x.1.length cc2).ownBlock = some k → k < b) := hub
    clear A c0 c1 c2 hb2 hbg hub
    obtain ⟨i0, hi, hz0, hz1', hz2⟩ := info_parts info8
    have K1 := lit_own w2 [UInt8.ofNat kind.toNat] w2.heap.size (Nat.le_refl _) (by simp)
    rw [show [UInt8.ofNat kind.toNat].map u8v = [.int .u8 kind] by simp only [List.map_cons, List.map_nil, u8v]; rw [← hkb.out]] at K1
    have hb3 := alloc_below w2 (.cells #[.int .u8 kind] 5)
    have hsz3 : (w2.alloc (.cells #[.int .u8 kind] 5)).heap.size = w2.heap.size + 1 := size_alloc _ _
    go_wp2_with (at_make; refine wpList_make_full _ rfl (.tmp 28) (.tmp 28) 22 rfl (w2.heap.size + 1) 5 i0 (.int .u8 0) 1 Tryz.underlying22 hi hz0 hz1' .i64 .i64 _ _ pn rfl rfl rfl rfl (by rw [hz2]; omega) (by unfold maxLen; omega) (by rw [hsz3]; exact Nat.le_refl _) ?_; intro w4 hown hgrow; have k4 := made_zeros hown; clear hown)
    have hb4 : Below (w2.alloc (.cells #[.int .u8 kind] 5)).heap.size (w2.alloc (.cells #[.int .u8 kind] 5)) w4 := ⟨hgrow.os, hgrow.tape, hgrow.output, hgrow.size, fun k hk => hgrow.block k hk (fun e => by cases e)⟩
    rw [hsz3] at k4
    replace K1 := K1.stay hb4
    have hb34 := Below.step hb3 hb4
    replace BW := Below.step BW hb34
    replace N := N.stay hb34
    replace R := R.stay hb34
    replace k2 := k2.stay hb34
    clear hgrow hb3 hb4 hsz3
    have HZ4 : Hid (w2.heap.size ≤ w4.heap.size) := hb34.size
    clear hb34
    obtain ⟨IN, HIN⟩ : ∃ L, Hid (L = innerN kind plain (pn : Int)) := ⟨_, rfl⟩
    have HLi : Hid (IN.length = plain.length + 1 + pn) := by show _ = _; rw [HIN.out, innerN_len]; rfl
    have P5 : Pcs (w4.alloc (.cells #[.slice p2 plain.length q2, .slice (some ⟨w2.heap.size, 0, none⟩) 1 1, .slice (some ⟨w2.heap.size + 1, 0, none⟩) pn pn] 22)) w4.heap.size 0 [⟨p2, q2, plain⟩, ⟨some ⟨w2.heap.size, 0, none⟩, 1, [UInt8.ofNat kind.toNat]⟩, ⟨some ⟨w2.heap.size + 1, 0, none⟩, pn, zs pn⟩] := by
      have h := pcs_three w4 ⟨p2, q2, plain⟩ ⟨some ⟨w2.heap.size, 0, none⟩, 1, [UInt8.ofNat kind.toNat]⟩ ⟨some ⟨w2.heap.size + 1, 0, none⟩, pn, zs pn⟩ 22 (HR2.out.keep BW) (Rd.own K1) (Rd.own k4)
      simp only [Pc.val, zs_len, List.length_singleton] at h
      exact h
    have HFL : Hid (flat [⟨p2, q2, plain⟩, ⟨some ⟨w2.heap.size, 0, none⟩, 1, [UInt8.ofNat kind.toNat]⟩, ⟨some ⟨w2.heap.size + 1, 0, none⟩, pn, zs pn⟩] = IN) := by show _ = _; rw [flat_three, HIN.out]; rfl
    refine (joined_c _ w4.heap.size 0 3 _ P5 (by rw [HFL.out]; have := HLi.out; omega) (by simp)).mono ?_
    rintro e w5 ⟨u5, rfl, k5, hb5⟩
    rw [HFL.out] at k5
    have HBL : Hid (b < w5.heap.size) := ((N.old _ (.cells #[.slice p2 plain.length q2, .slice (some ⟨w2.heap.size, 0, none⟩) 1 1, .slice (some ⟨w2.heap.size + 1, 0, none⟩) pn pn] 22)).stay hb5).lt
    obtain ⟨a5, cc5, rfl, -⟩ := k5.rd
    have hb45 := Below.step (alloc_below w4 (.cells #[.slice p2 plain.length q2, .slice (some ⟨w2.heap.size, 0, none⟩) 1 1, .slice (some ⟨w2.heap.size + 1, 0, none⟩) pn pn] 22)) hb5
    replace BW := Below.step BW hb45
    replace N := N.stay hb45
    replace R := R.stay hb45
    replace k2 := k2.stay hb45
    have HZ5 : Hid (w4.heap.size ≤ w5.heap.size) := hb45.size
    clear hb45 hb5 K1 k4 P5
    go_wp2_with fail
    refine (sealNext_c x a2 a5 cc2 cc5 b IN w5 N (Rd.own k2) (Rd.own k5) (by have := HLi.out; omega) HI32.out hs0 (by omega) (HT.out.keep BW)).mono ?_
    rintro e w6 ⟨u6, rfl, k6, N6, hg6⟩
    obtain ⟨a6, cc6, rfl, -⟩ := k6.rd
    have hbb : Hid (w.heap.size + 2 < b) := by have := hz1.out; have := HBG.out; show _ < _; omega
    replace R := R.other hg6 (fun e => by cases e; have := hbb.out; omega)
    replace k2 := k2.other hg6 (fun k hk e => by have h := HUB.out k hk; cases e; omega)
    replace BW := BW.grown hg6 BW.size (fun k e => by cases e; have := hbb.out; omega)
    have k66 : Own w6 (w.heap.size + 2) (.slice a6 (recN x IN).length cc6) (recN x IN) := k6.lower (by have := hz1.out; have := HZ2.out; have := HZ4.out; have := HZ5.out; omega)
    have k22 : Own w6 (w.heap.size + 2) (.slice a2 x.1.length cc2) x.1 := k2.lower hz1.out
    have hap : Hid (∀ k, (Value.slice a6 (recN x IN).length cc6).ownBlock = some k → (Value.slice a2 x.1.length cc2).ownBlock ≠ some k) := fun k hk e => by
      have h1 := k6.ge k hk
      have h2 := HUB.out k e
      have h3 := HBL.out
      omega
    have c0 := (R.cell 0).trans (show _ = some _ from rfl)
    have c1 := (R.cell 1).trans (show _ = some _ from rfl)
    have c2 := (R.cell 2).trans (show _ = some _ from rfl)
    have c3 := (R.cell 3).trans (show _ = some _ from rfl)
    have c4 := (R.cell 4).trans (show _ = some _ from rfl)
    have c5 := (R.cell 5).trans (show _ = some _ from rfl)
    have fz := R.frozen
    have d0 := (N6.cell 0).trans (show _ = some _ from rfl)
    have d1 := (N6.cell 1).trans (show _ = some _ from rfl)
    have d2 := (N6.cell 2).trans (show _ = some _ from rfl)
    clear R N6 N hg6 k6 k2 k5
    go_wp2_with fail
    refine bodyPost_ret (v := .agg #[.int .i64 0, .int .i64 kind, .slice a6 (recN x IN).length cc6, .slice a2 x.1.length cc2, .int .i64 (x.2.1 + 1), .int .i64 x.2.2]) (by simp [results, Tryz.results10, go_sem, c0, c1, c2, c3, c4, c5]) rfl ?_
    rw [HE.out, ← HIN.out]
    exact ⟨[.int .i64 0, .int .i64 kind, .slice a6 (recN x IN).length cc6, .slice a2 x.1.length cc2, .int .i64 (x.2.1 + 1), .int .i64 x.2.2], _, rfl, record_apart (s := nextS x) (((((((k66.set (Nat.lt_succ_self _) _).set (Nat.lt_succ_self _) _).set (Nat.lt_succ_self _) _).set (Nat.lt_succ_self _) _).set (Nat.lt_succ_self _) _).set (Nat.lt_succ_self _) _).lower (Nat.le_add_right _ 2)) (((((((k22.set (Nat.lt_succ_self _) _).set (Nat.lt_succ_self _) _).set (Nat.lt_succ_self _) _).set (Nat.lt_succ_self _) _).set (Nat.lt_succ_self _) _).set (Nat.lt_succ_self _) _).lower (Nat.le_add_right _ 2)) hap.out, ((((((BW.setCell (Nat.le_succ _) _).setCell (Nat.le_succ _) _).setCell (Nat.le_succ _) _).setCell (Nat.le_succ _) _).setCell (Nat.le_succ _) _).setCell (Nat.le_succ _) _)⟩
  · have HE : Hid (srD x kind plain pad = badR (srC x kind plain pad)) := by show _ = _; unfold srD; rw [if_neg hc]
    have hne : (srC x kind plain pad != 0) = true := by rw [bne_iff_ne]; exact hc
    clear hc
    generalize srC x kind plain pad = ac at *
    go_enter Tryz.func10, Tryz.ntmps10
    go_wp2_with fail
    refine (KF.out _).mono ?_
    rintro e w1 ⟨rfl, hb1⟩
    replace BW := Below.step BW hb1
    replace R := R.stay hb1
    have c0 := (R.cell 0).trans (show _ = some _ from rfl)
    have c1 := (R.cell 1).trans (show _ = some _ from rfl)
    have c2 := (R.cell 2).trans (show _ = some _ from rfl)
    have c3 := (R.cell 3).trans (show _ = some _ from rfl)
    have c4 := (R.cell 4).trans (show _ = some _ from rfl)
    have c5 := (R.cell 5).trans (show _ = some _ from rfl)
    have fz := R.frozen
    clear hb1 R A
    go_wp2_with fail
    refine bodyPost_ret (v := .agg #[.int .i64 ac, .int .i64 0, .slice none 0 0, .slice none 0 0, .int .i64 0, .int .i64 0]) (by simp [results, Tryz.results10, go_sem, c0, c1, c2, c3, c4, c5]) rfl ⟨[.int .i64 ac, .int .i64 0, .slice none 0 0, .slice none 0 0, .int .i64 0, .int .i64 0], [], rfl, by rw [HE.out]; exact badR_own _ _ _, ((((((BW.setCell (Nat.le_succ _) _).setCell (Nat.le_succ _) _).setCell (Nat.le_succ _) _).setCell (Nat.le_succ _) _).setCell (Nat.le_succ _) _).setCell (Nat.le_succ _) _)⟩
end Go.Proofs.YtdbpnibcblelbaaGreatDoor
/- Chapter 13 of the program: roles, keys, digests, what is made of them, and the binding (AuthKey, AuthDigest, MakeAuth, BindOf), at every argument, where the two tables hold what the program's text lays (Tabs). What was there stays. -/
namespace Go.Proofs.YtdbpnibcblelbaaGreatDoor
open Go.ChangeShapes Go.WideShapes Go.ChangeAt Go.RowKit
set_option maxRecDepth 4000 in
set_option maxHeartbeats 1000000 in
theorem implBi_c (p : Option Addr) (q : Nat) (x : List UInt8) (w : World) (hr : Rd w p q x) (hT : Tabs w) :
    Calls Tryz.prog 13 #[.slice p x.length q] w fun e w' => ∃ u, e = .returned (.agg #[.int .i64 (biD x).1, u]) ∧ Own w' w.heap.size u (biD x).2 ∧ Below w.heap.size w w' := by
  have BW := alloc_below w (.cells #[.int .i64 0, .slice none 0 0] 43)
  have R := Arr.new w [.int .i64 0, .slice none 0 0] 43
  have KA := isKey_c p q x (w.alloc (.cells #[.int .i64 0, .slice none 0 0] 43))
  cases h0 : is32 x
  · rw [show biD x = (1, []) by rw [biD, h0]; rfl]
    rw [h0] at KA
    have KA : Hid _ := KA
    clear hr hT R BW
    go_enter Tryz.func13, Tryz.ntmps13
    go_wp2_with fail
    refine Calls.mono KA.out ?_
    rintro e w2 ⟨rfl, hw⟩
    subst hw
    go_wp2
    exact bodyPost_ret (v := .agg #[.int .i64 1, .slice none 0 0]) (by simp [results, Tryz.results13, go_sem]) rfl ⟨_, rfl, Own_nil _ _, alloc_below _ _⟩
  · rw [show biD x = (0, biN x) by rw [biD, h0]; rfl]
    rw [h0] at KA
    have KA : Hid _ := KA
    have KE := implEx_c p none q 0 x bindingB [] 32 _ (hr.keep BW) (rd_nil _) (by decide) (hT.keep BW)
    have hc : exC x bindingB [] 32 = 0 := by simp [exC, h0, show labelC bindingB [] 32 = 0 by decide]
    rw [hc, show exL x bindingB [] 32 = biN x by rw [exL, if_pos hc]; rfl, ← binding_str] at KE
    have KE : Hid _ := KE
    obtain ⟨pw, HP⟩ : ∃ pw, Hid (biN x = pw) := ⟨_, rfl⟩
    rw [HP.out] at KE ⊢
    clear HP hr hT h0 hc
    go_enter Tryz.func13, Tryz.ntmps13
    go_wp2_with fail
    refine Calls.mono KA.out ?_
    rintro e w2 ⟨rfl, hw⟩
    subst hw
    go_wp2_with fail
    refine Calls.mono KE.out ?_
    rintro e w3 ⟨u3, rfl, k3, hb3⟩
    have BW3 := Below.step BW hb3
    have R3 := R.stay hb3
    have hlt : Hid (w.heap.size < (w.alloc (.cells #[.int .i64 0, .slice none 0 0] 43)).heap.size) := R.lt
    obtain ⟨p3, q3, rfl, -⟩ := k3.rd
    have c0 := R3.cell 0
    have c1 := R3.cell 1
    have fz := R3.frozen
    simp at c0 c1
    clear R KE KA hb3 R3
    go_wp2
    refine bodyPost_ret (v := .agg #[.int .i64 0, .slice p3 pw.length q3]) (by simp [results, Tryz.results13, go_sem, c0, c1]) rfl ⟨_, rfl, ?_, (BW3.setCell (Nat.le_refl _) _).setCell (Nat.le_refl _) _⟩
    exact ((k3.set (a := ⟨w.heap.size, 0, none⟩) hlt.out _).set (a := ⟨w.heap.size, 1, none⟩) hlt.out _).lower (B' := w.heap.size) (by have := hlt.out; omega)
end Go.Proofs.YtdbpnibcblelbaaGreatDoor
