import Derived.Test.YtiabacnmmojfjabGreatDoorJoint25
namespace Go.Proofs.YtiabacnmmojfjabGreatDoor
open Go.ChangeShapes Go.WideShapes Go.ChangeAt Go.RowKit
set_option maxRecDepth 4000 in
set_option maxHeartbeats 1000000 in
theorem implEs_c (p : Option Addr) (q : Nat) (psk : List UInt8) (w : World) (hr : Rd w p q psk) (hT : Tabs w) :
  Calls Tryz.prog 104 #[.slice p psk.length q] w fun e w' => ∃ u, e = .returned (.agg #[.int .i64 (esC psk), u]) ∧ Own w' w.heap.size u (esL psk) ∧ Below w.heap.size w w' := by
 have HT : Hid (Tabs w) := hT
 clear hT
 by_cases hd : psk.length ≤ 64
 ·have hs : esC psk = 0 := by simp [esC, hd]
  rw [show esL psk = earlyN psk by simp [esL, hs], hs]
  clear hs
  by_cases h0 : psk.length = 0
  ·have HE : Hid (extractN [] (zs 32) = earlyN psk) := by show _ = _; simp [earlyN, pskN, h0]
   obtain ⟨i0, hi, hz0, hz1, hz2⟩ := info_parts info8
   have KG : Hid (∀ w, Calls Tryz.prog 148 #[.slice none 0 0] w fun e w' => ∃ f, e = .returned f ∧ Tells w' f [] ∧ Below w.heap.size w w') := fun w => given_c none 0 [] w (rd_none w) (by simp)
   have KX : Hid (∀ w f g, Tells w f [] → Rd w (some ⟨g, 0, none⟩) 32 (zs 32) → Calls Tryz.prog 150 #[f, .slice (some ⟨g, 0, none⟩) 32 32] w fun e w' => ∃ g, e = .returned g ∧ Tells w' g (earlyN psk) ∧ Below w.heap.size w w') := fun w f g h h' => by
    have k := chainExt_c f [] (zs 32) (some ⟨g, 0, none⟩) 32 w h h' (by simp) (by rw [zs_len]; decide)
    rw [zs_len, HE.out] at k
    exact k
   rw [h0]
   clear hd hr HE
   go_enter Tryz.func104, Tryz.ntmps104
   go_wp2_with (at_make; go_loud (refine wpList_make_full _ rfl (.const (.int .i64 32)) (.const (.int .i64 32)) 22 rfl w.heap.size 5 i0 (.int .u8 0) 1 Tryz.underlying22 hi hz0 hz1 .i64 .i64 _ _ 32 rfl rfl rfl rfl (by rw [hz2]; decide) (by unfold maxLen; decide) (by simp) ?_); intro wm hown hgrow)
   have BW : Below w.heap.size w wm := (alloc_below _ _).grown hgrow (by simp) (fun k hk => by simp at hk)
   rw [size_alloc] at hown
   have RZ := Rd.own (made_zeros hown)
   have CC := (Arr.new w [.int .i64 0, .slice none 0 0] 130).other hgrow (by simp)
   have hz : Hid (w.heap.size < wm.heap.size) := by show _ < _; have := hgrow.size; rw [size_alloc] at this; omega
   clear hown hgrow hi hz0 hz1 hz2
   refine (KG.out _).mono ?_
   rintro e w1 ⟨f1, rfl, t1, b1⟩
   replace BW := Below.step BW b1
   replace CC := CC.stay b1
   replace hz : Hid (w.heap.size < w1.heap.size) := Nat.lt_of_lt_of_le hz.out b1.size
   replace RZ := RZ.keep b1
   clear b1
   go_wp2_with fail
   refine (KX.out _ f1 _ t1 RZ).mono ?_
   rintro e w2 ⟨f2, rfl, t2, b2⟩
   replace BW := Below.step BW b2
   replace CC := CC.stay b2
   replace hz : Hid (w.heap.size < w2.heap.size) := Nat.lt_of_lt_of_le hz.out b2.size
   replace RZ := RZ.keep b2
   clear b2 t1
   go_wp2_with fail
   refine (toldBy_c f2 (earlyN psk) _ t2 (HT.out.keep BW)).mono ?_
   rintro e w3 ⟨u, rfl, ho, b3⟩
   replace ho := ho.lower (B' := w2.heap.size) (Nat.le_refl _)
   replace BW := Below.step BW b3
   replace CC := CC.stay b3
   clear b3 t2
   obtain ⟨a, cap, rfl, -⟩ := ho.rd
   have c0 := CC.cell 0
   have c1 := CC.cell 1
   simp at c0 c1
   have fz := CC.frozen
   clear HT KG KX RZ
   go_wp2
   refine bodyPost_ret (v := .agg #[.int .i64 0, .slice a (earlyN psk).length cap]) (by simp [results, Tryz.results104, go_sem, c0, c1]) rfl ⟨_, rfl, ?_, (BW.setCell (Nat.le_refl _) _).setCell (Nat.le_refl _) _⟩
   exact ((ho.set hz.out _).set hz.out _).lower (Nat.le_of_lt hz.out)
  ·have HE : Hid (extractN [] psk = earlyN psk) := by show _ = _; simp [earlyN, pskN, h0]
   have hne : ((psk.length : Int) == 0) = false := by rw [beq_eq_false_iff_ne]; omega
   have KG : Hid (∀ w, Calls Tryz.prog 148 #[.slice none 0 0] w fun e w' => ∃ f, e = .returned f ∧ Tells w' f [] ∧ Below w.heap.size w w') := fun w => given_c none 0 [] w (rd_none w) (by simp)
   have KX : Hid (∀ w f, Tells w f [] → Rd w p q psk → Calls Tryz.prog 150 #[f, .slice p psk.length q] w fun e w' => ∃ g, e = .returned g ∧ Tells w' g (earlyN psk) ∧ Below w.heap.size w w') := fun w f h h' => by rw [← HE.out]; exact chainExt_c f [] psk p q w h h' (by simp) (by omega)
   have HR : Hid (Rd w p q psk) := hr
   clear h0 hr HE
   go_enter Tryz.func104, Tryz.ntmps104
   go_wp2_with fail
   refine (KG.out _).mono ?_
   rintro e w1 ⟨f1, rfl, t1, b1⟩
   have BW := Below.res b1
   have CC := (Arr.new w [.int .i64 0, .slice none 0 0] 130).stay b1
   have hz : Hid (w.heap.size < w1.heap.size) := size_lt b1
   clear b1
   go_wp2_with fail
   refine (KX.out _ f1 t1 (HR.out.keep BW)).mono ?_
   rintro e w2 ⟨f2, rfl, t2, b2⟩
   replace BW := Below.step BW b2
   replace CC := CC.stay b2
   replace hz : Hid (w.heap.size < w2.heap.size) := Nat.lt_of_lt_of_le hz.out b2.size
   clear b2 t1
   go_wp2_with fail
   refine (toldBy_c f2 (earlyN psk) _ t2 (HT.out.keep BW)).mono ?_
   rintro e w3 ⟨u, rfl, ho, b3⟩
   replace ho := ho.lower (B' := w2.heap.size) (Nat.le_refl _)
   replace BW := Below.step BW b3
   replace CC := CC.stay b3
   clear b3 t2
   obtain ⟨a, cap, rfl, -⟩ := ho.rd
   have c0 := CC.cell 0
   have c1 := CC.cell 1
   simp at c0 c1
   have fz := CC.frozen
   clear HT HR KG KX
   go_wp2
   refine bodyPost_ret (v := .agg #[.int .i64 0, .slice a (earlyN psk).length cap]) (by simp [results, Tryz.results104, go_sem, c0, c1]) rfl ⟨_, rfl, ?_, (BW.setCell (Nat.le_refl _) _).setCell (Nat.le_refl _) _⟩
   exact ((ho.set hz.out _).set hz.out _).lower (Nat.le_of_lt hz.out)
 ·have hs : esC psk = 2 := by simp [esC, hd]
  rw [show esL psk = [] by simp [esL, hs], hs]
  clear hs
  go_enter Tryz.func104, Tryz.ntmps104
  go_wp2
  exact bodyPost_ret (v := .agg #[.int .i64 2, .slice none 0 0]) (by simp [results, Tryz.results104, go_sem]) rfl ⟨_, rfl, Own_nil _ _, alloc_below _ _⟩
set_option maxRecDepth 4000 in
set_option maxHeartbeats 1000000 in
theorem implHs_c (p p2 : Option Addr) (q q2 : Nat) (early shared : List UInt8) (w : World) (hr : Rd w p q early) (hr2 : Rd w p2 q2 shared) (hT : Tabs w) :
  Calls Tryz.prog 103 #[.slice p early.length q, .slice p2 shared.length q2] w fun e w' => ∃ u, e = .returned (.agg #[.int .i64 (hsC early shared), u]) ∧ Own w' w.heap.size u (hsL early shared) ∧ Below w.heap.size w w' := by
 have HT : Hid (Tabs w) := hT
 clear hT
 cases h1 : is32 early
 ·rw [show hsC early shared = 1 by simp [hsC, h1], show hsL early shared = [] by simp [hsL, hsC, h1]]
  go_enter Tryz.func103, Tryz.ntmps103
  go_wp2_with fail
  refine (isKey_c p q early _).mono ?_
  rintro e w' ⟨rfl, hw⟩
  subst hw
  rw [h1]
  go_wp2
  exact bodyPost_ret (v := .agg #[.int .i64 1, .slice none 0 0]) (by simp [results, Tryz.results103, go_sem]) rfl ⟨_, rfl, Own_nil _ _, alloc_below _ _⟩
 ·by_cases hd : shared.length ≤ 64
  ·have l1 : early.length = 32 := by simpa [is32] using h1
   rw [show hsC early shared = 0 by simp [hsC, h1, hd], show hsL early shared = handN early shared by simp [hsL, hsC, h1, hd]]
   have KG : Hid (∀ w, Rd w p q early → Calls Tryz.prog 148 #[.slice p early.length q] w fun e w' => ∃ f, e = .returned f ∧ Tells w' f early ∧ Below w.heap.size w w') := fun w h => given_c p q early w h (by omega)
   have KD : Hid (∀ w f, Tells w f early → Calls Tryz.prog 149 #[f, .string ⟨#[100, 101, 114, 105, 118, 101, 100]⟩] w fun e w' => ∃ g, e = .returned g ∧ Tells w' g (deriveN early derivedB []) ∧ Below w.heap.size w w') := fun w f h => by
    rw [derived_str]
    exact chainDer_c f early derivedB w h (by omega) (by decide)
   have KX : Hid (∀ w f, Tells w f (deriveN early derivedB []) → Rd w p2 q2 shared → Calls Tryz.prog 150 #[f, .slice p2 shared.length q2] w fun e w' => ∃ g, e = .returned g ∧ Tells w' g (handN early shared) ∧ Below w.heap.size w w') := fun w f h h' => chainExt_c f _ shared p2 q2 w h h' (by rw [deriveN_len]; decide) (by omega)
   have HR : Hid (Rd w p q early) := hr
   have HR2 : Hid (Rd w p2 q2 shared) := hr2
   clear l1 hr hr2
   go_enter Tryz.func103, Tryz.ntmps103
   go_wp2_with fail
   refine (isKey_c p q early _).mono ?_
   rintro e w' ⟨rfl, hw⟩
   subst hw
   rw [h1]
   go_wp2_with fail
   refine (KG.out _ (HR.out.keep (alloc_below _ _))).mono ?_
   rintro e w1 ⟨f1, rfl, t1, b1⟩
   have BW := Below.res b1
   have CC := (Arr.new w [.int .i64 0, .slice none 0 0] 130).stay b1
   have hz : Hid (w.heap.size < w1.heap.size) := size_lt b1
   clear b1
   go_wp2_with fail
   refine (KD.out _ f1 t1).mono ?_
   rintro e w2 ⟨f2, rfl, t2, b2⟩
   replace BW := Below.step BW b2
   replace CC := CC.stay b2
   replace hz : Hid (w.heap.size < w2.heap.size) := Nat.lt_of_lt_of_le hz.out b2.size
   clear b2 t1
   go_wp2_with fail
   refine (KX.out _ f2 t2 (HR2.out.keep BW)).mono ?_
   rintro e w3 ⟨f3, rfl, t3, b3⟩
   replace BW := Below.step BW b3
   replace CC := CC.stay b3
   replace hz : Hid (w.heap.size < w3.heap.size) := Nat.lt_of_lt_of_le hz.out b3.size
   clear b3 t2
   go_wp2_with fail
   refine (toldBy_c f3 (handN early shared) _ t3 (HT.out.keep BW)).mono ?_
   rintro e w4 ⟨u, rfl, ho, b4⟩
   replace ho := ho.lower (B' := w3.heap.size) (Nat.le_refl _)
   replace BW := Below.step BW b4
   replace CC := CC.stay b4
   clear b4 t3
   obtain ⟨a, cap, rfl, -⟩ := ho.rd
   have c0 := CC.cell 0
   have c1 := CC.cell 1
   simp at c0 c1
   have fz := CC.frozen
   clear HT HR HR2 KG KX KD
   go_wp2
   refine bodyPost_ret (v := .agg #[.int .i64 0, .slice a (handN early shared).length cap]) (by simp [results, Tryz.results103, go_sem, c0, c1]) rfl ⟨_, rfl, ?_, (BW.setCell (Nat.le_refl _) _).setCell (Nat.le_refl _) _⟩
   exact ((ho.set hz.out _).set hz.out _).lower (Nat.le_of_lt hz.out)
  ·rw [show hsC early shared = 2 by simp [hsC, h1, hd], show hsL early shared = [] by simp [hsL, hsC, h1, hd]]
   go_enter Tryz.func103, Tryz.ntmps103
   go_wp2_with fail
   refine (isKey_c p q early _).mono ?_
   rintro e w' ⟨rfl, hw⟩
   subst hw
   rw [h1]
   go_wp2
   exact bodyPost_ret (v := .agg #[.int .i64 2, .slice none 0 0]) (by simp [results, Tryz.results103, go_sem]) rfl ⟨_, rfl, Own_nil _ _, alloc_below _ _⟩
set_option maxRecDepth 4000 in
set_option maxHeartbeats 1000000 in
theorem implMs_c (p : Option Addr) (q : Nat) (hand : List UInt8) (w : World) (hr : Rd w p q hand) (hT : Tabs w) :
  Calls Tryz.prog 106 #[.slice p hand.length q] w fun e w' => ∃ u, e = .returned (.agg #[.int .i64 (msC hand), u]) ∧ Own w' w.heap.size u (msL hand) ∧ Below w.heap.size w w' := by
 have HT : Hid (Tabs w) := hT
 clear hT
 cases h1 : is32 hand
 ·rw [show msC hand = 1 by simp [msC, h1], show msL hand = [] by simp [msL, msC, h1]]
  go_enter Tryz.func106, Tryz.ntmps106
  go_wp2_with fail
  refine (isKey_c p q hand _).mono ?_
  rintro e w' ⟨rfl, hw⟩
  subst hw
  rw [h1]
  go_wp2
  exact bodyPost_ret (v := .agg #[.int .i64 1, .slice none 0 0]) (by simp [results, Tryz.results106, go_sem]) rfl ⟨_, rfl, Own_nil _ _, alloc_below _ _⟩
 ·have l1 : hand.length = 32 := by simpa [is32] using h1
  rw [show msC hand = 0 by simp [msC, h1], show msL hand = masterN hand by simp [msL, msC, h1]]
  obtain ⟨i0, hi, hz0, hz1, hz2⟩ := info_parts info8
  have KG : Hid (∀ w, Rd w p q hand → Calls Tryz.prog 148 #[.slice p hand.length q] w fun e w' => ∃ f, e = .returned f ∧ Tells w' f hand ∧ Below w.heap.size w w') := fun w h => given_c p q hand w h (by omega)
  have KD : Hid (∀ w f, Tells w f hand → Calls Tryz.prog 149 #[f, .string ⟨#[100, 101, 114, 105, 118, 101, 100]⟩] w fun e w' => ∃ g, e = .returned g ∧ Tells w' g (deriveN hand derivedB []) ∧ Below w.heap.size w w') := fun w f h => by
   rw [derived_str]
   exact chainDer_c f hand derivedB w h (by omega) (by decide)
  have KX : Hid (∀ w f g, Tells w f (deriveN hand derivedB []) → Rd w (some ⟨g, 0, none⟩) 32 (zs 32) → Calls Tryz.prog 150 #[f, .slice (some ⟨g, 0, none⟩) 32 32] w fun e w' => ∃ g, e = .returned g ∧ Tells w' g (masterN hand) ∧ Below w.heap.size w w') := fun w f g h h' => by
   have k := chainExt_c f _ (zs 32) (some ⟨g, 0, none⟩) 32 w h h' (by rw [deriveN_len]; decide) (by rw [zs_len]; decide)
   rw [zs_len] at k
   exact k
  have HR : Hid (Rd w p q hand) := hr
  clear l1 hr
  go_enter Tryz.func106, Tryz.ntmps106
  go_wp2_with fail
  refine (isKey_c p q hand _).mono ?_
  rintro e w' ⟨rfl, hw⟩
  subst hw
  rw [h1]
  go_wp2_with (at_make; go_loud (refine wpList_make_full _ rfl (.const (.int .i64 32)) (.const (.int .i64 32)) 22 rfl w.heap.size 5 i0 (.int .u8 0) 1 Tryz.underlying22 hi hz0 hz1 .i64 .i64 _ _ 32 rfl rfl rfl rfl (by rw [hz2]; decide) (by unfold maxLen; decide) (by simp) ?_); intro wm hown hgrow)
  have BW : Below w.heap.size w wm := (alloc_below _ _).grown hgrow (by simp) (fun k hk => by simp at hk)
  rw [size_alloc] at hown
  have RZ := Rd.own (made_zeros hown)
  have CC := (Arr.new w [.int .i64 0, .slice none 0 0] 130).other hgrow (by simp)
  have hz : Hid (w.heap.size < wm.heap.size) := by show _ < _; have := hgrow.size; rw [size_alloc] at this; omega
  clear hown hgrow hi hz0 hz1 hz2
  refine (KG.out _ (HR.out.keep BW)).mono ?_
  rintro e w1 ⟨f1, rfl, t1, b1⟩
  replace BW := Below.step BW b1
  replace CC := CC.stay b1
  replace hz : Hid (w.heap.size < w1.heap.size) := Nat.lt_of_lt_of_le hz.out b1.size
  replace RZ := RZ.keep b1
  clear b1
  go_wp2_with fail
  refine (KD.out _ f1 t1).mono ?_
  rintro e w2 ⟨f2, rfl, t2, b2⟩
  replace BW := Below.step BW b2
  replace CC := CC.stay b2
  replace hz : Hid (w.heap.size < w2.heap.size) := Nat.lt_of_lt_of_le hz.out b2.size
  replace RZ := RZ.keep b2
  clear b2 t1
  go_wp2_with fail
  refine (KX.out _ f2 _ t2 RZ).mono ?_
  rintro e w3 ⟨f3, rfl, t3, b3⟩
  replace BW := Below.step BW b3
  replace CC := CC.stay b3
  replace hz : Hid (w.heap.size < w3.heap.size) := Nat.lt_of_lt_of_le hz.out b3.size
  replace RZ := RZ.keep b3
  clear b3 t2
  go_wp2_with fail
  refine (toldBy_c f3 (masterN hand) _ t3 (HT.out.keep BW)).mono ?_
  rintro e w4 ⟨u, rfl, ho, b4⟩
  replace ho := ho.lower (B' := w3.heap.size) (Nat.le_refl _)
  replace BW := Below.step BW b4
  replace CC := CC.stay b4
  clear b4 t3
  obtain ⟨a, cap, rfl, -⟩ := ho.rd
  have c0 := CC.cell 0
  have c1 := CC.cell 1
  simp at c0 c1
  have fz := CC.frozen
  clear HT HR KG KX KD RZ
  go_wp2
  refine bodyPost_ret (v := .agg #[.int .i64 0, .slice a (masterN hand).length cap]) (by simp [results, Tryz.results106, go_sem, c0, c1]) rfl ⟨_, rfl, ?_, (BW.setCell (Nat.le_refl _) _).setCell (Nat.le_refl _) _⟩
  exact ((ho.set hz.out _).set hz.out _).lower (Nat.le_of_lt hz.out)
set_option maxRecDepth 4000 in
set_option maxHeartbeats 1000000 in
theorem implTf_c (p p2 : Option Addr) (q q2 : Nat) (secret l digest : List UInt8) (w : World) (hr : Rd w p q secret) (hr2 : Rd w p2 q2 digest) (hl : l.length ≤ 1048576) (hT : Tabs w) :
  Calls Tryz.prog 157 #[.slice p secret.length q, .string (strB l), .slice p2 digest.length q2] w fun e w' => ∃ u, e = .returned (.agg #[.int .i64 (tfC secret l digest), u]) ∧ Own w' w.heap.size u (tfL secret l digest) ∧ Below w.heap.size w w' := by
 have HT : Hid (Tabs w) := hT
 clear hT
 cases h1 : is32 secret
 ·rw [show tfC secret l digest = 1 by simp [tfC, h1], show tfL secret l digest = [] by simp [tfL, tfC, h1]]
  go_enter Tryz.func157, Tryz.ntmps157
  go_wp2_with fail
  refine (isKey_c p q secret _).mono ?_
  rintro e w' ⟨rfl, hw⟩
  subst hw
  rw [h1]
  go_wp2
  exact bodyPost_ret (v := .agg #[.int .i64 1, .slice none 0 0]) (by simp [results, Tryz.results157, go_sem]) rfl ⟨_, rfl, Own_nil _ _, alloc_below _ _⟩
 ·cases h2 : is32 digest
  ·rw [show tfC secret l digest = 1 by simp [tfC, h1, h2], show tfL secret l digest = [] by simp [tfL, tfC, h1, h2]]
   go_enter Tryz.func157, Tryz.ntmps157
   go_wp2_with fail
   refine (isKey_c p q secret _).mono ?_
   rintro e w' ⟨rfl, hw⟩
   subst hw
   rw [h1]
   go_wp2_with fail
   refine (isKey_c p2 q2 digest _).mono ?_
   rintro e w' ⟨rfl, hw⟩
   subst hw
   rw [h2]
   go_wp2
   exact bodyPost_ret (v := .agg #[.int .i64 1, .slice none 0 0]) (by simp [results, Tryz.results157, go_sem]) rfl ⟨_, rfl, Own_nil _ _, alloc_below _ _⟩
  ·cases h3 : labelOk l
   ·rw [show tfC secret l digest = 5 by simp [tfC, h1, h2, h3], show tfL secret l digest = [] by simp [tfL, tfC, h1, h2, h3]]
    go_enter Tryz.func157, Tryz.ntmps157
    go_wp2_with fail
    refine (isKey_c p q secret _).mono ?_
    rintro e w' ⟨rfl, hw⟩
    subst hw
    rw [h1]
    go_wp2_with fail
    refine (isKey_c p2 q2 digest _).mono ?_
    rintro e w' ⟨rfl, hw⟩
    subst hw
    rw [h2]
    go_wp2_with fail
    refine (isLabel_c l _ hl).mono ?_
    rintro e w' ⟨rfl, hw⟩
    subst hw
    rw [h3]
    go_wp2
    exact bodyPost_ret (v := .agg #[.int .i64 5, .slice none 0 0]) (by simp [results, Tryz.results157, go_sem]) rfl ⟨_, rfl, Own_nil _ _, alloc_below _ _⟩
   ·have l1 : secret.length = 32 := by simpa [is32] using h1
    have l2 : digest.length = 32 := by simpa [is32] using h2
    have hc : labelC l digest ((32 : Nat) : Int) = 0 := by simp [labelC, h3, inB]; omega
    rw [show tfC secret l digest = 0 by simp [tfC, h1, h2, h3], show tfL secret l digest = trafN secret l digest by simp [tfL, tfC, h1, h2, h3]]
    have KG : Hid (∀ w, Rd w p q secret → Calls Tryz.prog 148 #[.slice p secret.length q] w fun e w' => ∃ f, e = .returned f ∧ Tells w' f secret ∧ Below w.heap.size w w') := fun w h => given_c p q secret w h (by omega)
    have KX : Hid (∀ w f, Tells w f secret → Rd w p2 q2 digest → Calls Tryz.prog 187 #[f, .string (strB l), .slice p2 digest.length q2, .int .i64 32] w fun e w' => ∃ g, e = .returned g ∧ Tells w' g (trafN secret l digest) ∧ Below w.heap.size w w') := fun w f h h' => chainExp_c f secret l digest 32 p2 q2 w h h' (by omega) hc
    have HR : Hid (Rd w p q secret) := hr
    have HR2 : Hid (Rd w p2 q2 digest) := hr2
    clear l1 l2 hr hr2 hc
    go_enter Tryz.func157, Tryz.ntmps157
    go_wp2_with fail
    refine (isKey_c p q secret _).mono ?_
    rintro e w' ⟨rfl, hw⟩
    subst hw
    rw [h1]
    go_wp2_with fail
    refine (isKey_c p2 q2 digest _).mono ?_
    rintro e w' ⟨rfl, hw⟩
    subst hw
    rw [h2]
    go_wp2_with fail
    refine (isLabel_c l _ hl).mono ?_
    rintro e w' ⟨rfl, hw⟩
    subst hw
    rw [h3]
    go_wp2_with fail
    refine (KG.out _ (HR.out.keep (alloc_below _ _))).mono ?_
    rintro e w1 ⟨f1, rfl, t1, b1⟩
    have BW := Below.res b1
    have CC := (Arr.new w [.int .i64 0, .slice none 0 0] 130).stay b1
    have hz : Hid (w.heap.size < w1.heap.size) := size_lt b1
    clear b1
    go_wp2_with fail
    refine (KX.out _ f1 t1 (HR2.out.keep BW)).mono ?_
    rintro e w2 ⟨f2, rfl, t2, b2⟩
    replace BW := Below.step BW b2
    replace CC := CC.stay b2
    replace hz : Hid (w.heap.size < w2.heap.size) := Nat.lt_of_lt_of_le hz.out b2.size
    clear b2 t1
    go_wp2_with fail
    refine (toldBy_c f2 (trafN secret l digest) _ t2 (HT.out.keep BW)).mono ?_
    rintro e w3 ⟨u, rfl, ho, b3⟩
    replace ho := ho.lower (B' := w2.heap.size) (Nat.le_refl _)
    replace BW := Below.step BW b3
    replace CC := CC.stay b3
    clear b3 t2
    obtain ⟨a, cap, rfl, -⟩ := ho.rd
    have c0 := CC.cell 0
    have c1 := CC.cell 1
    simp at c0 c1
    have fz := CC.frozen
    clear HT HR HR2 KG KX
    go_wp2
    refine bodyPost_ret (v := .agg #[.int .i64 0, .slice a (trafN secret l digest).length cap]) (by simp [results, Tryz.results157, go_sem, c0, c1]) rfl ⟨_, rfl, ?_, (BW.setCell (Nat.le_refl _) _).setCell (Nat.le_refl _) _⟩
    exact ((ho.set hz.out _).set hz.out _).lower (Nat.le_of_lt hz.out)
end Go.Proofs.YtiabacnmmojfjabGreatDoor
