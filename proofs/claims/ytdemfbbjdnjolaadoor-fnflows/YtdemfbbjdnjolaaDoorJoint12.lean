/- The contracts of SameBytes and of what it calls, in the specification and in the program: both answer whether the two slices hold the same bytes. -/
import Derived.Test.YtdemfbbjdnjolaaDoorCopy
import Derived.Test.YtdemfbbjdnjolaaDoorJoint7
import Derived.Test.YtdemfbbjdnjolaaDoorJoint9
import Derived.Test.YtdemfbbjdnjolaaDoorJoint6
import Derived.Test.YtdemfbbjdnjolaaDoorJoint11
import Derived.Test.YtdemfbbjdnjolaaDoorJoinI
import Derived.Test.YtdemfbbjdnjolaaDoorOdd
import Derived.Test.YtdemfbbjdnjolaaDoorRec
import Derived.Test.YtdemfbbjdnjolaaDoorJoint10
import Derived.Test.YtdemfbbjdnjolaaDoorJoint4
namespace Go.Proofs.YtdemfbbjdnjolaaDoor
open Go.ChangeShapes Go.WideShapes Go.ChangeAt Go.RowKit

def sameB (a b : List UInt8) : Bool := a == b





end Go.Proofs.YtdemfbbjdnjolaaDoor

/- The contracts of sealing in the specification: spec.l5Tag, spec.l5Seal, spec.l5Open, spec.l5Fault, and TagOf, SealBytes, OpenBytes at every argument. What was there stays. -/
namespace Go.Proofs.YtdemfbbjdnjolaaDoor
open Go.ChangeShapes Go.WideShapes Go.ChangeAt Go.RowKit

set_option maxRecDepth 4000 in
set_option maxHeartbeats 1000000 in
theorem l5Tag_c (p p2 p3 p4 : Option Addr) (q q2 q3 q4 : Nat) (key nonce extra sealed : List UInt8) (w : World) (hr : Rd w p q key) (hr2 : Rd w p2 q2 nonce) (hr3 : Rd w p3 q3 extra) (hr4 : Rd w p4 q4 sealed) (hk : key.length ≤ 64) (hn : nonce.length ≤ 12) (he : extra.length ≤ 60) (hs : sealed.length ≤ 300) :
    Calls Tryd.prog 67 #[.slice p key.length q, .slice p2 nonce.length q2, .slice p3 extra.length q3, .slice p4 sealed.length q4] w fun e w' => ∃ a c, e = .returned (.slice a 16 c) ∧ Own w' w.heap.size (.slice a 16 c) (tagN key nonce extra sealed) ∧ Below w.heap.size w w' := by
  have HR : Hid (Rd w p q key) := hr
  have HR2 : Hid (Rd w p2 q2 nonce) := hr2
  have HR3 : Hid (Rd w p3 q3 extra) := hr3
  have HR4 : Hid (Rd w p4 q4 sealed) := hr4
  have HE : Hid (tagN key nonce extra sealed = (macN key (nonce ++ [UInt8.ofNat extra.length] ++ extra ++ sealed)).take 16) := rfl
  clear hr hr2 hr3 hr4
  go_enter Tryd.func67, Tryd.ntmps67
  go_wp2_with fail
  have Wb := alloc_below w (.cells #[.int .u8 (extra.length : Int)] 5)
  have r1 : Rd (w.alloc (.cells #[.int .u8 (extra.length : Int)] 5)) (some ⟨w.heap.size, 0, none⟩) 1 [UInt8.ofNat extra.length] := rd_one w _ _ _ (by rw [UInt8.toNat_ofNat', Nat.mod_eq_of_lt (by omega)])
  have KJ := l1Join_c [⟨p2, q2, nonce⟩, ⟨some ⟨w.heap.size, 0, none⟩, 1, [UInt8.ofNat extra.length]⟩, ⟨p3, q3, extra⟩, ⟨p4, q4, sealed⟩] (w.alloc (.cells #[.int .u8 (extra.length : Int)] 5)).heap.size 0 4 _
    (pcs_four (w.alloc (.cells #[.int .u8 (extra.length : Int)] 5)) ⟨p2, q2, nonce⟩ ⟨some ⟨w.heap.size, 0, none⟩, 1, [UInt8.ofNat extra.length]⟩ ⟨p3, q3, extra⟩ ⟨p4, q4, sealed⟩ 22 (HR2.out.keep Wb) r1 (HR3.out.keep Wb) (HR4.out.keep Wb))
    (by rw [flat_four]; simp; omega) (by simp)
  rw [flat_four, size_alloc] at KJ
  refine KJ.mono ?_
  rintro e w1 ⟨u1, rfl, k1, hb1⟩
  replace hb1 := Below.res (Below.res hb1)
  obtain ⟨a1, c1, rfl, rd1⟩ := k1.rd
  have HJL : Hid ((nonce ++ [UInt8.ofNat extra.length] ++ extra ++ sealed).length ≤ 536) := by show _ ≤ _; simp; omega
  obtain ⟨js, hjs⟩ : ∃ js, Hid (js = nonce ++ [UInt8.ofNat extra.length] ++ extra ++ sealed) := ⟨_, rfl⟩
  simp only at rd1
  rw [← hjs.out] at rd1 HE HJL
  rw [show nonce ++ [UInt8.ofNat extra.length] ++ extra ++ sealed = js from hjs.out.symm]
  have hz := hb1.size
  clear k1 KJ r1 Wb
  go_wp2_with fail
  refine (l3Mac_c p a1 q c1 key js _ (HR.out.keep hb1) rd1 hk HJL.out).mono ?_
  rintro e w2 ⟨u2, rfl, k2, hb2⟩
  obtain ⟨a2, c2, rfl, rd2⟩ := k2.rd
  have HML : Hid ((macN key js).length = 32) := macN_len _ _
  have kc := k2.cut 16 (by rw [HML.out]; decide)
  rw [← HE.out] at kc
  have hc2 : 32 ≤ c2 := by have := rd2.1; rw [HML.out] at this; exact this
  have hc3 : c2 ≤ 2 ^ 63 - 1 := rd2.2.1
  rw [HML.out]
  replace hb1 := Below.step hb1 hb2
  clear k2 rd2 rd1 hb2
  go_wp2
  go_ret
  exact ⟨_, _, rfl, kc.lower hz, hb1⟩

def sealC (key nonce extra : List UInt8) : Int := if strC key nonce 0 = 0 then (if extra.length ≤ 60 then 0 else 2) else 1
theorem sealC_zero {key nonce extra : List UInt8} (h : sealC key nonce extra = 0) : key.length = 32 ∧ nonce.length = 12 ∧ extra.length ≤ 60 ∧ strC key nonce 0 = 0 := by
  unfold sealC at h
  split at h
  · rename_i h1
    split at h
    · rename_i h2
      exact ⟨(strC_zero h1).1, (strC_zero h1).2.1, h2, h1⟩
    · cases h
  · cases h

set_option maxRecDepth 4000 in
set_option maxHeartbeats 1000000 in
theorem l5Seal_c (p p2 p3 p4 : Option Addr) (q q2 q3 q4 : Nat) (key nonce extra plain : List UInt8) (w : World) (hr : Rd w p q key) (hr2 : Rd w p2 q2 nonce) (hr3 : Rd w p3 q3 extra) (hr4 : Rd w p4 q4 plain) (hk : key.length = 32) (hn : nonce.length = 12) (he : extra.length ≤ 60) (hs : plain.length ≤ 220) :
    Calls Tryd.prog 52 #[.slice p key.length q, .slice p2 nonce.length q2, .slice p3 extra.length q3, .slice p4 plain.length q4] w fun e w' => ∃ u, e = .returned u ∧ Own w' w.heap.size u (sealN key nonce extra plain) ∧ Below w.heap.size w w' := by
  have KX : Hid (∀ w, Rd w p q key → Rd w p2 q2 nonce → Rd w p4 q4 plain → Calls Tryd.prog 66 #[.slice p key.length q, .slice p2 nonce.length q2, .slice p4 plain.length q4] w fun e w' => ∃ u, e = .returned u ∧ Own w' w.heap.size u (hideN key nonce plain) ∧ Below w.heap.size w w') := fun w a b c => by rw [hk, hn]; exact l4Xor_c p p2 p4 q q2 q4 key nonce plain w a b c hk hn (by omega)
  have KT : Hid (∀ (w : World) (a : Option Addr) (c : Nat) (xs : List UInt8), xs.length = plain.length → Rd w p q key → Rd w p2 q2 nonce → Rd w p3 q3 extra → Rd w a c xs → Calls Tryd.prog 67 #[.slice p key.length q, .slice p2 nonce.length q2, .slice p3 extra.length q3, .slice a xs.length c] w fun e w' => ∃ a c, e = .returned (.slice a 16 c) ∧ Own w' w.heap.size (.slice a 16 c) (tagN key nonce extra xs) ∧ Below w.heap.size w w') := fun w a c xs hl h1 h2 h3 h4 => l5Tag_c p p2 p3 a q q2 q3 c key nonce extra xs w h1 h2 h3 h4 (by omega) (by omega) he (by omega)
  have HE : Hid (sealN key nonce extra plain = hideN key nonce plain ++ tagN key nonce extra (hideN key nonce plain)) := rfl
  have HL : Hid ((hideN key nonce plain).length = plain.length) := hideN_len _ _ _
  have HS : Hid (plain.length ≤ 220) := hs
  clear hk hn he hs
  go_enter Tryd.func52, Tryd.ntmps52
  go_wp2_with fail
  refine (KX.out _ hr hr2 hr4).mono ?_
  rintro e w1 ⟨u1, rfl, k1, hb1⟩
  obtain ⟨a1, c1, rfl, rd1⟩ := k1.rd
  obtain ⟨hs1, hhs⟩ : ∃ x, Hid (x = hideN key nonce plain) := ⟨_, rfl⟩
  rw [← hhs.out] at k1 rd1 HE HL ⊢
  have hz1 := hb1.size
  go_wp2_with fail
  refine (KT.out _ a1 c1 hs1 HL.out (hr.keep hb1) (hr2.keep hb1) (hr3.keep hb1) rd1).mono ?_
  rintro e w2 ⟨a2, c2, rfl, k2, hb2⟩
  have HT : Hid ((tagN key nonce extra hs1).length = 16) := tagN_len _ _ _ _
  have rd2 := Rd.own k2
  replace k1 := k1.stay hb2
  have BW := Below.step hb1 hb2
  clear hb1 hb2 k2 rd1
  generalize tagN key nonce extra hs1 = tg at *
  go_wp2_with (at_builtin; go_loud (refine wpList_append_rd rfl (.tmp 14) (.tmp 19) rfl w.heap.size _ hs1 rfl k1 a2 c2 tg (by rw [HT.out]; rfl) rd2 (by have := HL.out; have := HT.out; have := HS.out; omega) BW.size ?_); intro v3 w3 k3 hg3)
  have BW3 := BW.grown hg3 BW.size (fun k hk => k1.ge k hk)
  go_ret
  exact ⟨_, rfl, by rw [HE.out]; exact k3, BW3⟩

end Go.Proofs.YtdemfbbjdnjolaaDoor

/- The contracts of chapter 9's functions in the specification, at every argument. What was there stays. -/
namespace Go.Proofs.YtdemfbbjdnjolaaDoor
open Go.ChangeShapes Go.WideShapes Go.ChangeAt Go.RowKit

theorem keyLab_str : (⟨#[107, 101, 121]⟩ : ByteArray) = strB keyLab := rfl
theorem ivLab_str : (⟨#[105, 118]⟩ : ByteArray) = strB ivLab := rfl
theorem updLab_str : (⟨#[116, 114, 97, 102, 102, 105, 99, 32, 117, 112, 100]⟩ : ByteArray) = strB updLab := rfl

set_option maxRecDepth 4000 in
set_option maxHeartbeats 400000 in
theorem l9Fault_c (b : Nat) (x : StreamD) (p : Option Addr) (q : Nat) (w : World) (h : Has w b [.slice p x.1.length q, .int .i64 x.2.1, .int .i64 x.2.2]) :
    Calls Tryd.prog 65 #[.pointer (some ⟨b, 0, none⟩)] w fun e w' => e = .returned (.int .i64 (stC x)) ∧ w' = w := by
  have c0 := h 0 _ rfl
  have c1 := h 1 _ rfl
  have c2 := h 2 _ rfl
  clear h
  cases h1 : is32 x.1
  · rw [show stC x = 1 by simp [stC, h1]]
    go_enter Tryd.func65, Tryd.ntmps65
    go_wp2_with fail
    refine (l7Secret_c p q x.1 _).mono ?_
    rintro e w' ⟨rfl, rfl⟩
    rw [h1]
    go_wp2
    go_ret
    exact ⟨rfl, rfl⟩
  · cases h2 : inB x.2.1 0 200
    · rw [show stC x = 3 by simp [stC, h1, h2]]
      go_enter Tryd.func65, Tryd.ntmps65
      go_wp2_with fail
      refine (l7Secret_c p q x.1 _).mono ?_
      rintro e w' ⟨rfl, hw⟩
      subst hw
      rw [h1]
      go_wp2_with fail
      refine (l1In_c _ _ _ _).mono ?_
      rintro e w' ⟨rfl, hw⟩
      subst hw
      rw [h2]
      go_wp2
      go_ret
      exact ⟨rfl, rfl⟩
    · cases h3 : inB x.2.2 0 99
      · rw [show stC x = 3 by simp [stC, h1, h2, h3]]
        go_enter Tryd.func65, Tryd.ntmps65
        go_wp2_with fail
        refine (l7Secret_c p q x.1 _).mono ?_
        rintro e w' ⟨rfl, hw⟩
        subst hw
        rw [h1]
        go_wp2_with fail
        refine (l1In_c _ _ _ _).mono ?_
        rintro e w' ⟨rfl, hw⟩
        subst hw
        rw [h2]
        go_wp2_with fail
        refine (l1In_c _ _ _ _).mono ?_
        rintro e w' ⟨rfl, hw⟩
        subst hw
        rw [h3]
        go_wp2
        go_ret
        exact ⟨rfl, rfl⟩
      · rw [show stC x = 0 by simp [stC, h1, h2, h3]]
        go_enter Tryd.func65, Tryd.ntmps65
        go_wp2_with fail
        refine (l7Secret_c p q x.1 _).mono ?_
        rintro e w' ⟨rfl, hw⟩
        subst hw
        rw [h1]
        go_wp2_with fail
        refine (l1In_c _ _ _ _).mono ?_
        rintro e w' ⟨rfl, hw⟩
        subst hw
        rw [h2]
        go_wp2_with fail
        refine (l1In_c _ _ _ _).mono ?_
        rintro e w' ⟨rfl, hw⟩
        subst hw
        rw [h3]
        go_wp2
        go_ret
        exact ⟨rfl, rfl⟩
set_option maxRecDepth 4000 in
set_option maxHeartbeats 400000 in
theorem l9Key_c (p : Option Addr) (q : Nat) (s : List UInt8) (w : World) (hr : Rd w p q s) (hk : s.length ≤ 64) :
    Calls Tryd.prog 40 #[.slice p s.length q] w fun e w' => ∃ u, e = .returned u ∧ Own w' w.heap.size u (keyN s) ∧ Below w.heap.size w w' := by
  have K : Hid (∀ w, Rd w p q s → Calls Tryd.prog 62 #[.slice p s.length q, .string ⟨#[107, 101, 121]⟩, .slice none 0 0, .int .i64 32] w fun e w' => ∃ u, e = .returned u ∧ Own w' w.heap.size u (keyN s) ∧ Below w.heap.size w w') := fun w h => by
    rw [keyLab_str]
    exact l3ExpandLabel_c p none q 0 s keyLab [] 32 w h (rd_nil w) hk (by decide) (by decide) (by decide)
  go_enter Tryd.func40, Tryd.ntmps40
  go_wp2_with fail
  refine (K.out _ hr).mono ?_
  rintro e w' ⟨u, rfl, ho, hb⟩
  go_wp2
  go_ret
  exact ⟨_, rfl, ho, hb⟩
set_option maxRecDepth 4000 in
set_option maxHeartbeats 400000 in
theorem l9Base_c (p : Option Addr) (q : Nat) (s : List UInt8) (w : World) (hr : Rd w p q s) (hk : s.length ≤ 64) :
    Calls Tryd.prog 41 #[.slice p s.length q] w fun e w' => ∃ u, e = .returned u ∧ Own w' w.heap.size u (baseN s) ∧ Below w.heap.size w w' := by
  have K : Hid (∀ w, Rd w p q s → Calls Tryd.prog 62 #[.slice p s.length q, .string ⟨#[105, 118]⟩, .slice none 0 0, .int .i64 12] w fun e w' => ∃ u, e = .returned u ∧ Own w' w.heap.size u (baseN s) ∧ Below w.heap.size w w') := fun w h => by
    rw [ivLab_str]
    exact l3ExpandLabel_c p none q 0 s ivLab [] 12 w h (rd_nil w) hk (by decide) (by decide) (by decide)
  go_enter Tryd.func41, Tryd.ntmps41
  go_wp2_with fail
  refine (K.out _ hr).mono ?_
  rintro e w' ⟨u, rfl, ho, hb⟩
  go_wp2
  go_ret
  exact ⟨_, rfl, ho, hb⟩
set_option maxRecDepth 4000 in
set_option maxHeartbeats 400000 in
theorem l9Asked_c (b : Nat) (x : StreamD) (p : Option Addr) (q : Nat) (w : World) (h : Has w b [.slice p x.1.length q, .int .i64 x.2.1, .int .i64 x.2.2]) :
    Calls Tryd.prog 46 #[.pointer (some ⟨b, 0, none⟩)] w fun e w' => e = .returned (.int .i64 (askC x)) ∧ w' = w := by
  have c1 := h 1 _ rfl
  have K := l9Fault_c b x p q w h
  clear h
  by_cases h1 : stC x = 0
  · rw [h1] at K
    by_cases h2 : 200 ≤ x.2.1
    · rw [show askC x = 10 by simp [askC, h1, h2]]
      go_enter Tryd.func46, Tryd.ntmps46
      go_wp2_with fail
      refine K.mono ?_
      rintro e w' ⟨rfl, hw⟩
      subst hw
      go_wp2
      go_ret
      exact ⟨rfl, rfl⟩
    · rw [show askC x = 0 by simp [askC, h1, h2]]
      go_enter Tryd.func46, Tryd.ntmps46
      go_wp2_with fail
      refine K.mono ?_
      rintro e w' ⟨rfl, hw⟩
      subst hw
      go_wp2
      go_ret
      exact ⟨rfl, rfl⟩
  · have h2 : (stC x != 0) = true := by rw [bne_iff_ne]; exact h1
    rw [show askC x = stC x by simp [askC, h1]]
    clear h1
    generalize stC x = sc at *
    go_enter Tryd.func46, Tryd.ntmps46
    go_wp2_with fail
    refine K.mono ?_
    rintro e w' ⟨rfl, hw⟩
    subst hw
    go_wp2
    go_ret
    exact ⟨rfl, rfl⟩
theorem l9Bad_c (c : Int) (w : World) : Calls Tryd.prog 47 #[.int .i64 c] w fun e w' => e = .returned (.agg #[.int .i64 c, .int .i64 0, .slice none 0 0, .slice none 0 0, .int .i64 0, .int .i64 0]) ∧ Below w.heap.size w w' := by
  go_enter Tryd.func47, Tryd.ntmps47
  go_wp2
  exact bodyPost_ret (v := .agg #[.int .i64 c, .int .i64 0, .slice none 0 0, .slice none 0 0, .int .i64 0, .int .i64 0]) (by simp [results, Tryd.results47, go_sem]) rfl ⟨rfl, alloc_below _ _⟩
set_option maxRecDepth 4000 in
set_option maxHeartbeats 400000 in
theorem l9Next_c (b : Nat) (x : StreamD) (p : Option Addr) (q : Nat) (w : World) (h : Has w b [.slice p x.1.length q, .int .i64 x.2.1, .int .i64 x.2.2]) (hr : Rd w p q x.1) (hl : x.1.length ≤ 1000000) (h0 : 0 ≤ x.2.1) (h1 : x.2.1 ≤ 200) :
    Calls Tryd.prog 54 #[.pointer (some ⟨b, 0, none⟩)] w fun e w' => ∃ u, e = .returned (.agg #[u, .int .i64 (x.2.1 + 1), .int .i64 x.2.2]) ∧ Own w' w.heap.size u x.1 ∧ Below w.heap.size w w' := by
  have c0 := cell_keep (h 0 _ rfl) (alloc_below w (Obj.cells #[Value.slice none 0 0, Value.int IntKind.i64 0, Value.int IntKind.i64 0] 25))
  have c1 := cell_keep (h 1 _ rfl) (alloc_below w (Obj.cells #[Value.slice none 0 0, Value.int IntKind.i64 0, Value.int IntKind.i64 0] 25))
  have c2 := cell_keep (h 2 _ rfl) (alloc_below w (Obj.cells #[Value.slice none 0 0, Value.int IntKind.i64 0, Value.int IntKind.i64 0] 25))
  have r1 := hr.keep (alloc_below w (Obj.cells #[Value.slice none 0 0, Value.int IntKind.i64 0, Value.int IntKind.i64 0] 25))
  have A := Arr.new w [Value.slice none 0 0, Value.int IntKind.i64 0, Value.int IntKind.i64 0] 25
  have BW := alloc_below w (Obj.cells #[Value.slice none 0 0, Value.int IntKind.i64 0, Value.int IntKind.i64 0] 25)
  clear h hr
  have g0 := HW.at c0
  have g1 := HW.at c1
  have g2 := HW.at c2
  have hne := HW.some (w.alloc (Obj.cells #[Value.slice none 0 0, Value.int IntKind.i64 0, Value.int IntKind.i64 0] 25))
  clear c0 c1 c2
  go_enter Tryd.func54, Tryd.ntmps54
  go_wp2_with fail
  refine wp_region_pick [0, 1, 2, 3, 5, 6, 7, 8, 9, 10, 11, 12, 13] 14 1 2 rfl rfl rfl (by kernel_rfl) (by kernel_rfl) (by kernel_rfl) (by kernel_rfl) ?_
  simp only [opsAt, List.getElem?_toArray, List.getElem?_cons_zero, List.getElem?_cons_succ]
  repeat (go_big_quiet_step (fail))
  refine wpQuiet_nil ?_
  refine wpM_only (i := 4) (by kernel_rfl) ?_
  refine mOp_call rfl (by go_simp) 50 _ #[.slice p x.1.length q] (fun w => by go_simp) rfl ?_
  rintro _ ⟨s1, rfl⟩
  refine (l1Copy_c p q x.1 _ (r1.keep s1.h) hl).mono ?_
  rintro e w1 ⟨u, rfl, ho, hb⟩
  refine ⟨_, rfl, ⟨⟨_, hb⟩, rfl⟩, ?_⟩
  have hbg := Below.step s1.h hb
  replace A := A.stay hbg
  replace BW := Below.step BW hbg
  replace ho := ho.lower (B' := w.heap.size + 1) (by have h := s1.h.size; rw [size_alloc] at h; exact h)
  obtain ⟨pu, qu, rfl, -⟩ := ho.rd
  clear hbg hb r1 g0 g1 g2 hne
  refine wpM_end (by kernel_rfl) rfl (by kernel_rfl) (by decide) ?_
  rintro _ ⟨sz, rfl⟩
  simp only [List.drop_succ_cons, List.drop_zero]
  replace A := A.stay sz.h
  replace BW := Below.step BW sz.h
  replace ho := ho.stay sz.h
  generalize sz.w = w2 at *
  clear sz s1
  have c0 := (A.cell 0).trans (show _ = some _ from rfl)
  have c1 := (A.cell 1).trans (show _ = some _ from rfl)
  have c2 := (A.cell 2).trans (show _ = some _ from rfl)
  have fz := A.frozen
  go_wp2_with fail
  refine bodyPost_ret (v := .agg #[.slice pu x.1.length qu, .int .i64 (x.2.1 + 1), .int .i64 x.2.2]) (by simp [results, Tryd.results54, go_sem, c0, c1, c2]) rfl ⟨_, rfl, ?_, ((BW.setCell (Nat.le_refl _) _).setCell (Nat.le_refl _) _).setCell (Nat.le_refl _) _⟩
  exact (((ho.set (Nat.lt_succ_self _) _).set (Nat.lt_succ_self _) _).set (Nat.lt_succ_self _) _).lower (Nat.le_succ _)
theorem l9Kind_c (k : Int) (w : World) : Calls Tryd.prog 48 #[.int .i64 k] w fun e w' => e = .returned (.bool (kindB k)) ∧ w' = w := by
  go_enter Tryd.func48, Tryd.ntmps48
  go_wp2_with fail
  refine (l1In_c k 21 23 _).mono ?_
  rintro e w' ⟨rfl, rfl⟩
  go_wp2
  go_ret
  exact ⟨rfl, rfl⟩
end Go.Proofs.YtdemfbbjdnjolaaDoor

