/- The walk of FnSchedules, where the two tables hold what the program's text lays. -/
import Derived.Test.YthkiabcbpkhgiaaDoorDrawH
import Derived.Test.YthkiabcbpkhgiaaDoorSchJ
import Derived.Test.YthkiabcbpkhgiaaDoorKeyI
import Derived.Test.YthkiabcbpkhgiaaDoorJoint7
import Derived.Test.YthkiabcbpkhgiaaDoorOdd
import Derived.Test.YthkiabcbpkhgiaaDoorFields
namespace Go.Proofs.YthkiabcbpkhgiaaDoor
open Go.ChangeShapes Go.WideShapes Go.ChangeAt Go.RowKit

def someB : List UInt8 := [115, 111, 109, 101, 32, 108, 97, 98, 101, 108]
theorem some_str : (⟨#[115, 111, 109, 101, 32, 108, 97, 98, 101, 108]⟩ : ByteArray) = strB someB := rfl

/-- An answer of code 0 with n bytes. -/
abbrev Ok (F : Nat) (args : Array Value) (w : World) (L : List UInt8) (n : Nat) : Prop :=
  Calls Tryd.prog F args w fun e w' => ∃ a k, e = .returned (.agg #[.int .i64 0, .slice a n k]) ∧ Own w' w.heap.size (.slice a n k) L ∧ Below w.heap.size w w'
theorem ok_of {F : Nat} {args : Array Value} {w : World} {c : Int} {L M : List UInt8} (n : Nat) (h : Calls Tryd.prog F args w fun e w' => ∃ u, e = .returned (.agg #[.int .i64 c, u]) ∧ Own w' w.heap.size u L ∧ Below w.heap.size w w') (hc : c = 0) (hL : L = M) (hn : M.length = n) : Ok F args w M n := by
  subst hc hL hn
  refine h.mono ?_
  rintro e w' ⟨u, rfl, k, hb⟩
  obtain ⟨a, c, rfl, -⟩ := k.rd
  exact ⟨a, c, rfl, k, hb⟩
theorem ok_ms (p : Option Addr) (q : Nat) (s : List UInt8) (w : World) (hl : s.length = 32) (r : Rd w p q s) (t : Tabs w) : Ok 13 #[.slice p 32 q] w (masterN s) 32 := by
  have h := implMs_c p q s w r t
  have hc : msC s = 0 := by simp [msC, is32, hl]
  rw [hl] at h
  exact ok_of 32 h hc (by simp [msL, hc]) (masterN_len _)
theorem ok_dg (p : Option Addr) (q n : Nat) (s : List UInt8) (w : World) (hl : s.length = n) (hn : n ≤ 600) (r : Rd w p q s) (t : Tabs w) : Ok 14 #[.slice p n q] w (digestN s) 32 := by
  have h := implDg_c p q s w r t
  have h6 : s.length ≤ 600 := by omega
  subst hl
  exact ok_of 32 h (by simp [dgCode, h6]) (by simp [dgList, h6]) (digestN_len _)
theorem ok_tf (p p2 : Option Addr) (q q2 : Nat) (s d l : List UInt8) (w : World) (hs : s.length = 32) (hd : d.length = 32) (hl : labelOk l = true) (hl2 : l.length ≤ 1048576) (r : Rd w p q s) (r2 : Rd w p2 q2 d) (t : Tabs w) : Ok 16 #[.slice p 32 q, .string (strB l), .slice p2 32 q2] w (trafN s l d) 32 := by
  have h := implTf_c p p2 q q2 s l d w r r2 hl2 t
  have hc : tfC s l d = 0 := by simp [tfC, is32, hs, hd, hl]
  rw [hs, hd] at h
  exact ok_of 32 h hc (by simp [tfL, hc]) (trafN_len _ _ _)
theorem ok_ex (p p2 : Option Addr) (q q2 m k : Nat) (s c l : List UInt8) (w : World) (hs : s.length = 32) (hm : c.length = m) (hl : labelC l c (k : Int) = 0) (hl2 : l.length ≤ 1048576) (r : Rd w p q s) (r2 : Rd w p2 q2 c) (t : Tabs w) : Ok 17 #[.slice p 32 q, .string (strB l), .slice p2 m q2, .int .i64 (k : Int)] w (exportN s l c k) k := by
  have h := implEx_c p p2 q q2 s l c (k : Int) w r r2 hl2 t
  have hc : exC s l c (k : Int) = 0 := by simp [exC, is32, hs, hl]
  rw [hs, hm] at h
  exact ok_of k h hc (by simp [exL, hc]) (exportN_len _ _ _ _)
theorem ok_el (p p2 : Option Addr) (q q2 k : Nat) (s c l : List UInt8) (w : World) (hs : s.length = 32) (hm : c.length = 32) (hl : labelC l c (k : Int) = 0) (hl2 : l.length ≤ 1048576) (r : Rd w p q s) (r2 : Rd w p2 q2 c) (t : Tabs w) : Ok 18 #[.slice p 32 q, .string (strB l), .slice p2 32 q2, .int .i64 (k : Int)] w (expLabN s l c k) k := by
  have h := implExpL_c p p2 q q2 s l c (k : Int) w r r2 hl2 t
  have hk : keyB s = true := by simp [keyB, hs]
  have hc : elC s l c (k : Int) = 0 := by simp [elC, hk, hl]
  rw [hs, hm] at h
  exact ok_of k h hc (by simp [elL, hc]) (expLabN_len _ _ _ _)
theorem ok_dk (p : Option Addr) (q n : Nat) (s l : List UInt8) (w : World) (hs : s.length = n) (hn : n = 32) (hl : labelOk l = true) (hl2 : l.length ≤ 1048576) (r : Rd w p q s) (t : Tabs w) : Ok 19 #[.slice p n q, .string (strB l), .slice none 0 0] w (deriveN s l []) 32 := by
  have h := implDer_c p none q 0 s l [] w r (rd_nil w) hl2 t
  have hk : keyB s = true := by simp [keyB]; omega
  have hd : dataB [] = true := by decide
  subst hs
  exact ok_of 32 h (by simp [dkC, hk, hl, hd]) (by simp [dkL, hk, hl, hd]) (deriveN_len _ _ _)
theorem ok_xt (p p2 : Option Addr) (q q2 n : Nat) (s d : List UInt8) (w : World) (hs : s.length = 32) (hd : d.length = n) (hn : n ≤ 64) (r : Rd w p q s) (r2 : Rd w p2 q2 d) (t : Tabs w) : Ok 20 #[.slice p 32 q, .slice p2 n q2] w (extractN s d) 32 := by
  have h := implExt_c p p2 q q2 s d w r r2 t
  have hk : macOk s d = true := by simp [macOk, keyB, dataB]; omega
  subst hd
  rw [hs] at h
  exact ok_of 32 h (by simp [macC, hk]) (by simp [extL, hk]) (extractN_len _ _)
theorem ok_es (p : Option Addr) (q n : Nat) (s : List UInt8) (w : World) (hs : s.length = n) (hn : n ≤ 64) (r : Rd w p q s) (t : Tabs w) : Ok 22 #[.slice p n q] w (earlyN s) 32 := by
  have h := implEs_c p q s w r t
  have hc : esC s = 0 := by simp [esC]; omega
  subst hs
  exact ok_of 32 h hc (by simp [esL, hc]) (earlyN_len _)
theorem ok_sc (p p2 : Option Addr) (q q2 : Nat) (s d : List UInt8) (w : World) (hs : s.length = 32) (hd : d.length = 32) (r : Rd w p q s) (r2 : Rd w p2 q2 d) (t : Tabs w) :
    Calls Tryd.prog 15 #[.slice p 32 q, .slice p2 32 q2] w fun e w' => ∃ a1 k1 a2 k2 a3 k3 a4 k4, e = .returned (.agg #[.int .i64 0, .slice a1 32 k1, .slice a2 32 k2, .slice a3 32 k3, .slice a4 32 k4]) ∧ Rd w' a3 k3 (trafN s expMB d) ∧ Below w.heap.size w w' := by
  have h := implSc_k p p2 q q2 s d w r r2 t
  rw [hs, hd] at h
  refine h.mono ?_
  rintro e w' ⟨us, fp, rfl, o, hb⟩
  obtain ⟨a1, k1, a2, k2, a3, k3, a4, k4, rfl, r1, r2, r3, r4⟩ := secretsResult_rep (secretsResultC.toRep o)
  have hc : scC s d = 0 := by simp [scC, is32, hs, hd]
  have hL : ∀ l, scL s d l = trafN s l d := fun l => by simp [scL, hc]
  simp only [scD, hc, hL, trafN_len] at r3 ⊢
  exact ⟨a1, k1, a2, k2, a3, k3, a4, k4, rfl, r3, hb⟩
structure Tb (w : World) : Prop where
  t : Tabs w
theorem Tb.keep {w w' : World} (h : Tb w) (hb : Below w.heap.size w w') : Tb w' := ⟨h.t.keep hb⟩
theorem hsC_zero {x y : List UInt8} (h : hsC x y = 0) : x.length = 32 ∧ y.length ≤ 64 := by
  unfold hsC at h
  split at h
  · rename_i h1
    split at h
    · rename_i h2; exact ⟨by simpa [is32] using h1, h2⟩
    · cases h
  · cases h

set_option maxRecDepth 4000 in
set_option maxHeartbeats 16000000 in
theorem fnSchedules_walk (a : Option Addr) (cap : Nat) (bs0 : List UInt8) (w : World) (r0 : Rd w a cap bs0) (hT : Tabs w) :
    Calls Tryd.prog 3 #[.slice a bs0.length cap] w fun e w' => e = .returned (.bool true) ∧ Below w.heap.size w w' := by
  by_cases hl0 : 1048576 < bs0.length
  · go_enter Tryd.func3, Tryd.ntmps3
    go_wp2_with fail
    refine (lwBig_yes _ _ _ _ hl0).mono ?_
    rintro e w1 ⟨rfl, rfl⟩
    go_wp2
    go_ret
    exact ⟨rfl, Below.refl _ _⟩
  replace hl0 : bs0.length ≤ 1048576 := by omega
  have bf0 := bytes_f0
  have bf1 := bytes_f1
  go_enter Tryd.func3, Tryd.ntmps3
  go_wp2_with fail
  refine (lwBig_no _ _ _ _ hl0).mono ?_
  rintro e w1 ⟨rfl, hw1⟩
  rw [hw1]
  clear hw1 w1
  go_wp2_with fail
  refine (drawHs_c _ _ bs0 _ r0).mono ?_
  rintro e w1 ⟨p1, p2, q1, q2, x, y, rfl, rx, ry, hxl, hy2, hyl, BW⟩
  have HT : Hid (Tabs w1) := hT.keep BW
  clear hT r0
  obtain ⟨hc, HC⟩ : ∃ c, Hid (c = hsC x y) := ⟨_, rfl⟩
  obtain ⟨hl, HL⟩ : ∃ c, Hid (c = hsL x y) := ⟨_, rfl⟩
  have KH : Hid (∀ w, Rd w p1 q1 x → Rd w p2 q2 y → Tabs w → Calls Tryd.prog 11 #[.slice p1 x.length q1, .slice p2 y.length q2] w fun e w' => ∃ u, e = .returned (.agg #[.int .i64 hc, u]) ∧ Own w' w.heap.size u hl ∧ Below w.heap.size w w') := fun w h h' t => by rw [HC.out, HL.out]; exact implHs_c p1 p2 q1 q2 x y w h h' t
  go_wp2_with fail
  refine (KH.out _ rx ry HT.out).mono ?_
  rintro e w2 ⟨u2, rfl, k2, hb2⟩
  obtain ⟨p3, q3, rfl, rh⟩ := k2.rd
  have A1 := Arr.new w2 [.int .i64 hc, .slice p3 hl.length q3] 27
  replace rh := rh.keep (alloc_below _ (.cells #[.int .i64 hc, .slice p3 hl.length q3] 27))
  replace hb2 := Below.mk hb2 (.cells #[.int .i64 hc, .slice p3 hl.length q3] 27)
  replace rx := rx.keep hb2
  replace ry := ry.keep hb2
  replace HT : Hid (Tabs _) := HT.out.keep hb2
  replace BW := Below.step BW hb2
  clear hb2 k2 KH
  --@tail
  by_cases h0 : hc = 0
  · obtain ⟨l32, l64⟩ := hsC_zero (HC.out.symm.trans h0)
    have HZ : Hid (hl = extractN (deriveN x derivedB []) y) := by
      show _ = _
      rw [HL.out, hsL, if_pos (HC.out.symm.trans h0)]
      rfl
    have hlen : hl.length = 32 := by rw [HZ.out, extractN_len]
    subst h0
    simp only [hlen] at A1 rh rx ry HT BW ⊢
    have HN : Hid (hl.length = 32) := hlen
    have HX : Hid (x.length = 32) := l32
    have HY : Hid (2 ≤ y.length ∧ y.length ≤ 64) := ⟨hy2, l64⟩
    obtain ⟨b2, o2, rfl, -⟩ := ry.2.2.2 (by omega)
    have HL2 : Hid ((y.take 2).length = 2) := by show _ = _; rw [List.length_take]; omega
    have HE2 : Hid (labelC exporterB (digestN (y.take 2)) ((20 : Nat) : Int) = 0) := by
      show _ = _
      rw [labelC, if_pos (by decide), if_pos (by rw [digestN_len]; decide)]
      rfl
    have HE : Hid (labelC someB (y.take 2) ((20 : Nat) : Int) = 0) := by
      show _ = _
      have h2 : (y.take 2).length ≤ 100 := by rw [List.length_take]; omega
      rw [labelC, if_pos (by decide), if_pos h2]
      rfl
    clear hlen l32 l64 hy2 hyl hxl HC HL
    go_wp2_with fail
    refine (ok_ms p3 q3 hl _ HN.out rh HT.out).mono ?_
    rintro e w3 ⟨p4, q4, rfl, kk, hb⟩
    have A2 := Arr.new w3 [.int .i64 0, .slice p4 32 q4] 27
    have hb' := Below.mk hb (.cells #[.int .i64 0, .slice p4 32 q4] 27)
    have rm := (Rd.own kk).keep (alloc_below _ (.cells #[.int .i64 0, .slice p4 32 q4] 27))
    replace rh := rh.keep hb'
    replace rx := rx.keep hb'
    replace ry := ry.keep hb'
    replace A1 := A1.stay hb'
    replace HT : Hid (Tabs _) := HT.out.keep hb'
    replace BW := Below.step BW hb'
    clear hb hb' kk 
    go_wp2_with fail
    refine (ok_dg _ q2 _ y _ rfl (by have := HY.out; omega) ry HT.out).mono ?_
    rintro e w4 ⟨p5, q5, rfl, kk, hb⟩
    have A3 := Arr.new w4 [.int .i64 0, .slice p5 32 q5] 27
    have hb' := Below.mk hb (.cells #[.int .i64 0, .slice p5 32 q5] 27)
    have rd := (Rd.own kk).keep (alloc_below _ (.cells #[.int .i64 0, .slice p5 32 q5] 27))
    replace rh := rh.keep hb'
    replace rx := rx.keep hb'
    replace ry := ry.keep hb'
    replace rm := rm.keep hb'
    replace A1 := A1.stay hb'
    replace A2 := A2.stay hb'
    replace HT : Hid (Tabs _) := HT.out.keep hb'
    replace BW := Below.step BW hb'
    clear hb hb' kk 
    have c2 := (A2.cell 1).trans (show _ = some (.slice p4 32 q4) from rfl)
    go_wp2_with fail
    refine (ok_sc p4 p5 q4 q5 _ _ _ (masterN_len _) (digestN_len _) rm rd HT.out).mono ?_
    rintro e w5 ⟨s1, t1, s2, t2, s3, t3, s4, t4, rfl, rs, hb⟩
    clear c2
    have A4 := Arr.new w5 [.int .i64 0, .slice s1 32 t1, .slice s2 32 t2, .slice s3 32 t3, .slice s4 32 t4] 33
    have hb' := Below.mk hb (.cells #[.int .i64 0, .slice s1 32 t1, .slice s2 32 t2, .slice s3 32 t3, .slice s4 32 t4] 33)
    replace rs := rs.keep (alloc_below _ (.cells #[.int .i64 0, .slice s1 32 t1, .slice s2 32 t2, .slice s3 32 t3, .slice s4 32 t4] 33))
    replace rh := rh.keep hb'
    replace rx := rx.keep hb'
    replace ry := ry.keep hb'
    replace rm := rm.keep hb'
    replace rd := rd.keep hb'
    replace A1 := A1.stay hb'
    replace A2 := A2.stay hb'
    replace A3 := A3.stay hb'
    replace HT : Hid (Tabs _) := HT.out.keep hb'
    replace BW := Below.step BW hb'
    clear hb hb'
    have c2 := (A2.cell 1).trans (show _ = some (.slice p4 32 q4) from rfl)
    have c3 := (A3.cell 1).trans (show _ = some (.slice p5 32 q5) from rfl)
    go_wp2_with fail
    refine (ok_tf p4 p5 q4 q5 _ _ expMB _ (masterN_len _) (digestN_len _) (by decide) (by decide) rm rd HT.out).mono ?_
    rintro e w6 ⟨p6, q6, rfl, kk, hb⟩
    have A5 := Arr.new w6 [.int .i64 0, .slice p6 32 q6] 27
    have hb' := Below.mk hb (.cells #[.int .i64 0, .slice p6 32 q6] 27)
    have rt := (Rd.own kk).keep (alloc_below _ (.cells #[.int .i64 0, .slice p6 32 q6] 27))
    replace rh := rh.keep hb'
    replace rx := rx.keep hb'
    replace ry := ry.keep hb'
    replace rm := rm.keep hb'
    replace rd := rd.keep hb'
    replace rs := rs.keep hb'
    replace A1 := A1.stay hb'
    replace A2 := A2.stay hb'
    replace A3 := A3.stay hb'
    replace A4 := A4.stay hb'
    replace HT : Hid (Tabs _) := HT.out.keep hb'
    replace BW := Below.step BW hb'
    clear hb hb' kk c2 c3
    have c4 := (A4.cell 3).trans (show _ = some (.slice s3 32 t3) from rfl)
    have hq : 2 ≤ q2 := by have := HY.out; have := ry.1; omega
    go_wp2_with fail
    generalize w6.alloc (.cells #[.int .i64 0, .slice p6 32 q6] 27) = V1 at *
    apply share
    case h =>
      intro JN
      have BB := Below.refl V1.heap.size V1
      have hne := HW.some V1
      have C4 := HW.at (c4)
      refine wp_region_pick [0, 1, 2, 3, 4] 7 2 1 rfl rfl rfl (by kernel_rfl) (by kernel_rfl) (by kernel_rfl) (by kernel_rfl) ?_
      simp only [opsAt, List.getElem?_toArray, List.getElem?_cons_zero, List.getElem?_cons_succ]
      repeat (go_big_quiet_step (fail))
      refine wpQuiet_nil ?_
      clear C4
      refine wpM_two (i := 5) (j := 6) (by kernel_rfl) ?_ ?_
      · skip
        refine mOp_call rfl (by go_simp) 17 _ #[.slice s3 32 t3, .string ⟨#[115, 111, 109, 101, 32, 108, 97, 98, 101, 108]⟩, .slice (some ⟨b2, o2, none⟩) 2 q2, .int .i64 20] (fun w => by go_simp) rfl ?_
        rintro _ ⟨sg, rfl⟩
        refine (ok_ex s3 _ t3 q2 2 20 _ _ someB _ (trafN_len _ _ _) HL2.out HE.out (by decide) (rs.keep (Below.step BB sg.h)) ((ry.take 2).keep (Below.step BB sg.h)) (HT.out.keep (Below.step BB sg.h))).mono ?_
        rintro e wg ⟨p7, q7, rfl, kg, hbx⟩
        have hbg := Below.step sg.h hbx
        refine ⟨_, rfl, ⟨⟨wg, hbx⟩, rfl⟩, ?_⟩
        have re := Rd.own kg
        have KL : ∀ k, (Value.slice p7 20 q7).ownBlock = some k → k < wg.heap.size := fun k hk => (World.ownsRow.lt kg k hk).2
        replace BB := Below.step BB hbg
        clear hbg hbx kg sg
        replace hne := HW.some wg
        refine wpM_only (i := 6) (by kernel_rfl) ?_
        refine mOp_make rfl (by go_simp) ?_
        rintro _ ⟨sa, rfl⟩
        refine ⟨.pointer (some ⟨sa.w.heap.size, 0, none⟩), sa.w.alloc (.cells #[.int .i64 0, .slice none 0 0] 27), by go_simp, ⟨⟨_, alloc_below _ _⟩, rfl⟩, ?_⟩
        have AA := Arr.new sa.w [.int .i64 0, .slice none 0 0] 27
        have hbg := Below.step sa.h (alloc_below sa.w (.cells #[.int .i64 0, .slice none 0 0] 27))
        replace re := re.keep hbg
        have GG : V1.heap.size ≤ sa.w.heap.size := (Below.step BB sa.h).size
        replace BB := Below.step BB hbg
        have NE : NotIn p7 20 q7 sa.w.heap.size := fun k hk e => by have := KL k hk; have := sa.h.size; omega
        clear KL
        clear hbg
        replace hne := HW.some (sa.w.alloc (.cells #[.int .i64 0, .slice none 0 0] 27))
        generalize hW : sa.w.alloc (.cells #[.int .i64 0, .slice none 0 0] 27) = wa at *
        clear hW
        generalize sa.w.heap.size = gg at *
        clear sa
        refine wpM_end (by kernel_rfl) rfl (by kernel_rfl) (by decide) ?_
        rintro _ ⟨sz, rfl⟩
        simp only [List.drop_succ_cons, List.drop_zero]
        go_simp
        replace AA := AA.stay sz.h
        have rn := re.keep sz.h
        replace BB := Below.step BB sz.h
        clear hne re
        generalize sz.w = W at *
        clear sz
        revert NE
        revert rn
        revert GG
        revert AA
        revert BB
        revert q7
        revert p7
        revert gg
        revert W
        exact JN.out
      · skip
        refine mOp_make rfl (by go_simp) ?_
        rintro _ ⟨sa, rfl⟩
        refine ⟨.pointer (some ⟨sa.w.heap.size, 0, none⟩), sa.w.alloc (.cells #[.int .i64 0, .slice none 0 0] 27), by go_simp, ⟨⟨_, alloc_below _ _⟩, rfl⟩, ?_⟩
        have AA := Arr.new sa.w [.int .i64 0, .slice none 0 0] 27
        have hbg := Below.step sa.h (alloc_below sa.w (.cells #[.int .i64 0, .slice none 0 0] 27))
        have GG : V1.heap.size ≤ sa.w.heap.size := (Below.step BB sa.h).size
        replace BB := Below.step BB hbg
        clear hbg
        replace hne := HW.some (sa.w.alloc (.cells #[.int .i64 0, .slice none 0 0] 27))
        generalize hW : sa.w.alloc (.cells #[.int .i64 0, .slice none 0 0] 27) = wa at *
        clear hW
        generalize sa.w.heap.size = gg at *
        clear sa
        refine wpM_only (i := 5) (by kernel_rfl) ?_
        refine mOp_call rfl (by go_simp) 17 _ #[.slice s3 32 t3, .string ⟨#[115, 111, 109, 101, 32, 108, 97, 98, 101, 108]⟩, .slice (some ⟨b2, o2, none⟩) 2 q2, .int .i64 20] (fun w => by go_simp) rfl ?_
        rintro _ ⟨sg, rfl⟩
        refine (ok_ex s3 _ t3 q2 2 20 _ _ someB _ (trafN_len _ _ _) HL2.out HE.out (by decide) (rs.keep (Below.step BB sg.h)) ((ry.take 2).keep (Below.step BB sg.h)) (HT.out.keep (Below.step BB sg.h))).mono ?_
        rintro e wg ⟨p7, q7, rfl, kg, hbx⟩
        have hbg := Below.step sg.h hbx
        refine ⟨_, rfl, ⟨⟨wg, hbx⟩, rfl⟩, ?_⟩
        have re := Rd.own kg
        have NE : NotIn p7 20 q7 gg := fun k hk e => by have := kg.ge k hk; have := AA.lt; have := sg.h.size; omega
        replace AA := AA.stay hbg
        replace BB := Below.step BB hbg
        clear hbg hbx kg sg
        replace hne := HW.some wg
        refine wpM_end (by kernel_rfl) rfl (by kernel_rfl) (by decide) ?_
        rintro _ ⟨sz, rfl⟩
        simp only [List.drop_succ_cons, List.drop_zero]
        go_simp
        replace AA := AA.stay sz.h
        have rn := re.keep sz.h
        replace BB := Below.step BB sz.h
        clear hne re
        generalize sz.w = W at *
        clear sz
        revert NE
        revert rn
        revert GG
        revert AA
        revert BB
        revert q7
        revert p7
        revert gg
        revert W
        exact JN.out
    intro W1 g7 p7 q7 BB AA GG re NE
    have z0 := (AA.cell 0).trans (show _ = some (.int .i64 0) from rfl)
    have z1 := (AA.cell 1).trans (show _ = some (.slice none 0 0) from rfl)
    have f0 := AA.frozen 0
    have f1 := AA.frozen 1
    obtain ⟨A6, r', BB'⟩ := stored BB AA GG re NE
    replace rh := rh.keep BB'
    replace rx := rx.keep BB'
    replace ry := ry.keep BB'
    replace rm := rm.keep BB'
    replace rd := rd.keep BB'
    replace rs := rs.keep BB'
    replace rt := rt.keep BB'
    replace A1 := A1.stay BB'
    replace A2 := A2.stay BB'
    replace A3 := A3.stay BB'
    replace A4 := A4.stay BB'
    replace A5 := A5.stay BB'
    replace HT : Hid (Tabs _) := HT.out.keep BB'
    replace BW := Below.step BW BB'
    replace re := r'
    clear r' BB BB' AA GG NE
    have c4 := (A4.cell 3).trans (show _ = some (.slice s3 32 t3) from rfl)
    go_wp2_with fail
    clear z0 z1 f0 f1
    generalize (W1.setCell ⟨g7, 0, none⟩ (.int .i64 0)).setCell ⟨g7, 1, none⟩ (.slice p7 20 q7) = V2 at *
    apply share
    case h =>
      intro JN
      have BB := Below.refl V2.heap.size V2
      have hne := HW.some V2
      have C4 := HW.at (c4)
      refine wp_region_pick [0, 1, 2, 5, 6] 11 6 1 rfl rfl rfl (by kernel_rfl) (by kernel_rfl) (by kernel_rfl) (by kernel_rfl) ?_
      simp only [opsAt, List.getElem?_toArray, List.getElem?_cons_zero, List.getElem?_cons_succ]
      repeat (go_big_quiet_step (fail))
      refine wpQuiet_nil ?_
      clear C4
      refine wpM_two (i := 3) (j := 10) (by kernel_rfl) ?_ ?_
      · skip
        refine mOp_call rfl (by go_simp) 19 _ #[.slice s3 32 t3, .string ⟨#[115, 111, 109, 101, 32, 108, 97, 98, 101, 108]⟩, .slice none 0 0] (fun w => by go_simp) rfl ?_
        rintro _ ⟨sg, rfl⟩
        refine (ok_dk s3 t3 32 _ someB _ (trafN_len _ _ _) rfl (by decide) (by decide) (rs.keep (Below.step BB sg.h)) (HT.out.keep (Below.step BB sg.h))).mono ?_
        rintro e wg ⟨p8, q8, rfl, kg, hbx⟩
        have hbg := Below.step sg.h hbx
        refine ⟨_, rfl, ⟨⟨wg, hbx⟩, rfl⟩, ?_⟩
        have rk := Rd.own kg
        replace BB := Below.step BB hbg
        clear hbg hbx kg sg
        replace hne := HW.some wg
        refine wpM_more [4] 5 4 rfl (by kernel_rfl) (by kernel_rfl) (by kernel_rfl) (by kernel_rfl) ?_
        simp only [opsAt, List.getElem?_toArray, List.getElem?_cons_zero, List.getElem?_cons_succ]
        go_simp
        repeat (go_big_quiet_step (fail))
        refine wpQuiet_nil ?_
        refine wpM_two (i := 7) (j := 10) (by kernel_rfl) ?_ ?_
        · skip
          refine mOp_call rfl (by go_simp) 14 _ #[.slice (some ⟨b2, o2, none⟩) 2 q2] (fun w => by go_simp) rfl ?_
          rintro _ ⟨sg, rfl⟩
          refine (ok_dg _ q2 2 _ _ HL2.out (by decide) ((ry.take 2).keep (Below.step BB sg.h)) (HT.out.keep (Below.step BB sg.h))).mono ?_
          rintro e wg ⟨p9, q9, rfl, kg, hbx⟩
          have hbg := Below.step sg.h hbx
          refine ⟨_, rfl, ⟨⟨wg, hbx⟩, rfl⟩, ?_⟩
          have rg := Rd.own kg
          replace rk := rk.keep hbg
          replace BB := Below.step BB hbg
          clear hbg hbx kg sg
          replace hne := HW.some wg
          refine wpM_more [8] 3 2 rfl (by kernel_rfl) (by kernel_rfl) (by kernel_rfl) (by kernel_rfl) ?_
          simp only [opsAt, List.getElem?_toArray, List.getElem?_cons_zero, List.getElem?_cons_succ]
          go_simp
          repeat (go_big_quiet_step (fail))
          refine wpQuiet_nil ?_
          refine wpM_two (i := 9) (j := 10) (by kernel_rfl) ?_ ?_
          · skip
            refine mOp_call rfl (by go_simp) 18 _ #[.slice p8 32 q8, .string ⟨#[101, 120, 112, 111, 114, 116, 101, 114]⟩, .slice p9 32 q9, .int .i64 20] (fun w => by go_simp) rfl ?_
            rintro _ ⟨sg, rfl⟩
            refine (ok_el p8 p9 q8 q9 20 _ _ exporterB _ (deriveN_len _ _ _) (digestN_len _) HE2.out (by decide) (rk.keep sg.h) (rg.keep sg.h) (HT.out.keep (Below.step BB sg.h))).mono ?_
            rintro e wg ⟨p10, q10, rfl, kg, hbx⟩
            have hbg := Below.step sg.h hbx
            refine ⟨_, rfl, ⟨⟨wg, hbx⟩, rfl⟩, ?_⟩
            have rw := Rd.own kg
            replace rk := rk.keep hbg
            replace rg := rg.keep hbg
            have KL : ∀ k, (Value.slice p10 20 q10).ownBlock = some k → k < wg.heap.size := fun k hk => (World.ownsRow.lt kg k hk).2
            replace BB := Below.step BB hbg
            clear hbg hbx kg sg
            replace hne := HW.some wg
            refine wpM_only (i := 10) (by kernel_rfl) ?_
            refine mOp_make rfl (by go_simp) ?_
            rintro _ ⟨sa, rfl⟩
            refine ⟨.pointer (some ⟨sa.w.heap.size, 0, none⟩), sa.w.alloc (.cells #[.int .i64 0, .slice none 0 0] 27), by go_simp, ⟨⟨_, alloc_below _ _⟩, rfl⟩, ?_⟩
            have AA := Arr.new sa.w [.int .i64 0, .slice none 0 0] 27
            have hbg := Below.step sa.h (alloc_below sa.w (.cells #[.int .i64 0, .slice none 0 0] 27))
            replace rk := rk.keep hbg
            replace rg := rg.keep hbg
            replace rw := rw.keep hbg
            have GG : V2.heap.size ≤ sa.w.heap.size := (Below.step BB sa.h).size
            replace BB := Below.step BB hbg
            have NE : NotIn p10 20 q10 sa.w.heap.size := fun k hk e => by have := KL k hk; have := sa.h.size; omega
            clear KL
            clear hbg
            replace hne := HW.some (sa.w.alloc (.cells #[.int .i64 0, .slice none 0 0] 27))
            generalize hW : sa.w.alloc (.cells #[.int .i64 0, .slice none 0 0] 27) = wa at *
            clear hW
            generalize sa.w.heap.size = gg at *
            clear sa
            refine wpM_end (by kernel_rfl) rfl (by kernel_rfl) (by decide) ?_
            rintro _ ⟨sz, rfl⟩
            simp only [List.drop_succ_cons, List.drop_zero]
            go_simp
            replace AA := AA.stay sz.h
            have rn := rw.keep sz.h
            replace BB := Below.step BB sz.h
            clear hne rw rg rk
            generalize sz.w = W at *
            clear sz
            revert NE
            revert rn
            revert GG
            revert AA
            revert BB
            revert q8
            revert p8
            revert q9
            revert p9
            revert q10
            revert p10
            revert gg
            revert W
            exact JN.out
          · skip
            refine mOp_make rfl (by go_simp) ?_
            rintro _ ⟨sa, rfl⟩
            refine ⟨.pointer (some ⟨sa.w.heap.size, 0, none⟩), sa.w.alloc (.cells #[.int .i64 0, .slice none 0 0] 27), by go_simp, ⟨⟨_, alloc_below _ _⟩, rfl⟩, ?_⟩
            have AA := Arr.new sa.w [.int .i64 0, .slice none 0 0] 27
            have hbg := Below.step sa.h (alloc_below sa.w (.cells #[.int .i64 0, .slice none 0 0] 27))
            replace rk := rk.keep hbg
            replace rg := rg.keep hbg
            have GG : V2.heap.size ≤ sa.w.heap.size := (Below.step BB sa.h).size
            replace BB := Below.step BB hbg
            clear hbg
            replace hne := HW.some (sa.w.alloc (.cells #[.int .i64 0, .slice none 0 0] 27))
            generalize hW : sa.w.alloc (.cells #[.int .i64 0, .slice none 0 0] 27) = wa at *
            clear hW
            generalize sa.w.heap.size = gg at *
            clear sa
            refine wpM_only (i := 9) (by kernel_rfl) ?_
            refine mOp_call rfl (by go_simp) 18 _ #[.slice p8 32 q8, .string ⟨#[101, 120, 112, 111, 114, 116, 101, 114]⟩, .slice p9 32 q9, .int .i64 20] (fun w => by go_simp) rfl ?_
            rintro _ ⟨sg, rfl⟩
            refine (ok_el p8 p9 q8 q9 20 _ _ exporterB _ (deriveN_len _ _ _) (digestN_len _) HE2.out (by decide) (rk.keep sg.h) (rg.keep sg.h) (HT.out.keep (Below.step BB sg.h))).mono ?_
            rintro e wg ⟨p10, q10, rfl, kg, hbx⟩
            have hbg := Below.step sg.h hbx
            refine ⟨_, rfl, ⟨⟨wg, hbx⟩, rfl⟩, ?_⟩
            have rw := Rd.own kg
            replace rk := rk.keep hbg
            replace rg := rg.keep hbg
            have NE : NotIn p10 20 q10 gg := fun k hk e => by have := kg.ge k hk; have := AA.lt; have := sg.h.size; omega
            replace AA := AA.stay hbg
            replace BB := Below.step BB hbg
            clear hbg hbx kg sg
            replace hne := HW.some wg
            refine wpM_end (by kernel_rfl) rfl (by kernel_rfl) (by decide) ?_
            rintro _ ⟨sz, rfl⟩
            simp only [List.drop_succ_cons, List.drop_zero]
            go_simp
            replace AA := AA.stay sz.h
            have rn := rw.keep sz.h
            replace BB := Below.step BB sz.h
            clear hne rw rg rk
            generalize sz.w = W at *
            clear sz
            revert NE
            revert rn
            revert GG
            revert AA
            revert BB
            revert q8
            revert p8
            revert q9
            revert p9
            revert q10
            revert p10
            revert gg
            revert W
            exact JN.out
        · skip
          refine mOp_make rfl (by go_simp) ?_
          rintro _ ⟨sa, rfl⟩
          refine ⟨.pointer (some ⟨sa.w.heap.size, 0, none⟩), sa.w.alloc (.cells #[.int .i64 0, .slice none 0 0] 27), by go_simp, ⟨⟨_, alloc_below _ _⟩, rfl⟩, ?_⟩
          have AA := Arr.new sa.w [.int .i64 0, .slice none 0 0] 27
          have hbg := Below.step sa.h (alloc_below sa.w (.cells #[.int .i64 0, .slice none 0 0] 27))
          replace rk := rk.keep hbg
          have GG : V2.heap.size ≤ sa.w.heap.size := (Below.step BB sa.h).size
          replace BB := Below.step BB hbg
          clear hbg
          replace hne := HW.some (sa.w.alloc (.cells #[.int .i64 0, .slice none 0 0] 27))
          generalize hW : sa.w.alloc (.cells #[.int .i64 0, .slice none 0 0] 27) = wa at *
          clear hW
          generalize sa.w.heap.size = gg at *
          clear sa
          refine wpM_only (i := 7) (by kernel_rfl) ?_
          refine mOp_call rfl (by go_simp) 14 _ #[.slice (some ⟨b2, o2, none⟩) 2 q2] (fun w => by go_simp) rfl ?_
          rintro _ ⟨sg, rfl⟩
          refine (ok_dg _ q2 2 _ _ HL2.out (by decide) ((ry.take 2).keep (Below.step BB sg.h)) (HT.out.keep (Below.step BB sg.h))).mono ?_
          rintro e wg ⟨p9, q9, rfl, kg, hbx⟩
          have hbg := Below.step sg.h hbx
          refine ⟨_, rfl, ⟨⟨wg, hbx⟩, rfl⟩, ?_⟩
          have rg := Rd.own kg
          replace rk := rk.keep hbg
          replace AA := AA.stay hbg
          replace BB := Below.step BB hbg
          clear hbg hbx kg sg
          replace hne := HW.some wg
          refine wpM_more [8] 2 1 rfl (by kernel_rfl) (by kernel_rfl) (by kernel_rfl) (by kernel_rfl) ?_
          simp only [opsAt, List.getElem?_toArray, List.getElem?_cons_zero, List.getElem?_cons_succ]
          go_simp
          repeat (go_big_quiet_step (fail))
          refine wpQuiet_nil ?_
          refine wpM_only (i := 9) (by kernel_rfl) ?_
          refine mOp_call rfl (by go_simp) 18 _ #[.slice p8 32 q8, .string ⟨#[101, 120, 112, 111, 114, 116, 101, 114]⟩, .slice p9 32 q9, .int .i64 20] (fun w => by go_simp) rfl ?_
          rintro _ ⟨sg, rfl⟩
          refine (ok_el p8 p9 q8 q9 20 _ _ exporterB _ (deriveN_len _ _ _) (digestN_len _) HE2.out (by decide) (rk.keep sg.h) (rg.keep sg.h) (HT.out.keep (Below.step BB sg.h))).mono ?_
          rintro e wg ⟨p10, q10, rfl, kg, hbx⟩
          have hbg := Below.step sg.h hbx
          refine ⟨_, rfl, ⟨⟨wg, hbx⟩, rfl⟩, ?_⟩
          have rw := Rd.own kg
          replace rk := rk.keep hbg
          replace rg := rg.keep hbg
          have NE : NotIn p10 20 q10 gg := fun k hk e => by have := kg.ge k hk; have := AA.lt; have := sg.h.size; omega
          replace AA := AA.stay hbg
          replace BB := Below.step BB hbg
          clear hbg hbx kg sg
          replace hne := HW.some wg
          refine wpM_end (by kernel_rfl) rfl (by kernel_rfl) (by decide) ?_
          rintro _ ⟨sz, rfl⟩
          simp only [List.drop_succ_cons, List.drop_zero]
          go_simp
          replace AA := AA.stay sz.h
          have rn := rw.keep sz.h
          replace BB := Below.step BB sz.h
          clear hne rw rg rk
          generalize sz.w = W at *
          clear sz
          revert NE
          revert rn
          revert GG
          revert AA
          revert BB
          revert q8
          revert p8
          revert q9
          revert p9
          revert q10
          revert p10
          revert gg
          revert W
          exact JN.out
      · skip
        refine mOp_make rfl (by go_simp) ?_
        rintro _ ⟨sa, rfl⟩
        refine ⟨.pointer (some ⟨sa.w.heap.size, 0, none⟩), sa.w.alloc (.cells #[.int .i64 0, .slice none 0 0] 27), by go_simp, ⟨⟨_, alloc_below _ _⟩, rfl⟩, ?_⟩
        have AA := Arr.new sa.w [.int .i64 0, .slice none 0 0] 27
        have hbg := Below.step sa.h (alloc_below sa.w (.cells #[.int .i64 0, .slice none 0 0] 27))
        have GG : V2.heap.size ≤ sa.w.heap.size := (Below.step BB sa.h).size
        replace BB := Below.step BB hbg
        clear hbg
        replace hne := HW.some (sa.w.alloc (.cells #[.int .i64 0, .slice none 0 0] 27))
        generalize hW : sa.w.alloc (.cells #[.int .i64 0, .slice none 0 0] 27) = wa at *
        clear hW
        generalize sa.w.heap.size = gg at *
        clear sa
        refine wpM_only (i := 3) (by kernel_rfl) ?_
        refine mOp_call rfl (by go_simp) 19 _ #[.slice s3 32 t3, .string ⟨#[115, 111, 109, 101, 32, 108, 97, 98, 101, 108]⟩, .slice none 0 0] (fun w => by go_simp) rfl ?_
        rintro _ ⟨sg, rfl⟩
        refine (ok_dk s3 t3 32 _ someB _ (trafN_len _ _ _) rfl (by decide) (by decide) (rs.keep (Below.step BB sg.h)) (HT.out.keep (Below.step BB sg.h))).mono ?_
        rintro e wg ⟨p8, q8, rfl, kg, hbx⟩
        have hbg := Below.step sg.h hbx
        refine ⟨_, rfl, ⟨⟨wg, hbx⟩, rfl⟩, ?_⟩
        have rk := Rd.own kg
        replace AA := AA.stay hbg
        replace BB := Below.step BB hbg
        clear hbg hbx kg sg
        replace hne := HW.some wg
        refine wpM_more [4] 4 3 rfl (by kernel_rfl) (by kernel_rfl) (by kernel_rfl) (by kernel_rfl) ?_
        simp only [opsAt, List.getElem?_toArray, List.getElem?_cons_zero, List.getElem?_cons_succ]
        go_simp
        repeat (go_big_quiet_step (fail))
        refine wpQuiet_nil ?_
        refine wpM_only (i := 7) (by kernel_rfl) ?_
        refine mOp_call rfl (by go_simp) 14 _ #[.slice (some ⟨b2, o2, none⟩) 2 q2] (fun w => by go_simp) rfl ?_
        rintro _ ⟨sg, rfl⟩
        refine (ok_dg _ q2 2 _ _ HL2.out (by decide) ((ry.take 2).keep (Below.step BB sg.h)) (HT.out.keep (Below.step BB sg.h))).mono ?_
        rintro e wg ⟨p9, q9, rfl, kg, hbx⟩
        have hbg := Below.step sg.h hbx
        refine ⟨_, rfl, ⟨⟨wg, hbx⟩, rfl⟩, ?_⟩
        have rg := Rd.own kg
        replace rk := rk.keep hbg
        replace AA := AA.stay hbg
        replace BB := Below.step BB hbg
        clear hbg hbx kg sg
        replace hne := HW.some wg
        refine wpM_more [8] 2 1 rfl (by kernel_rfl) (by kernel_rfl) (by kernel_rfl) (by kernel_rfl) ?_
        simp only [opsAt, List.getElem?_toArray, List.getElem?_cons_zero, List.getElem?_cons_succ]
        go_simp
        repeat (go_big_quiet_step (fail))
        refine wpQuiet_nil ?_
        refine wpM_only (i := 9) (by kernel_rfl) ?_
        refine mOp_call rfl (by go_simp) 18 _ #[.slice p8 32 q8, .string ⟨#[101, 120, 112, 111, 114, 116, 101, 114]⟩, .slice p9 32 q9, .int .i64 20] (fun w => by go_simp) rfl ?_
        rintro _ ⟨sg, rfl⟩
        refine (ok_el p8 p9 q8 q9 20 _ _ exporterB _ (deriveN_len _ _ _) (digestN_len _) HE2.out (by decide) (rk.keep sg.h) (rg.keep sg.h) (HT.out.keep (Below.step BB sg.h))).mono ?_
        rintro e wg ⟨p10, q10, rfl, kg, hbx⟩
        have hbg := Below.step sg.h hbx
        refine ⟨_, rfl, ⟨⟨wg, hbx⟩, rfl⟩, ?_⟩
        have rw := Rd.own kg
        replace rk := rk.keep hbg
        replace rg := rg.keep hbg
        have NE : NotIn p10 20 q10 gg := fun k hk e => by have := kg.ge k hk; have := AA.lt; have := sg.h.size; omega
        replace AA := AA.stay hbg
        replace BB := Below.step BB hbg
        clear hbg hbx kg sg
        replace hne := HW.some wg
        refine wpM_end (by kernel_rfl) rfl (by kernel_rfl) (by decide) ?_
        rintro _ ⟨sz, rfl⟩
        simp only [List.drop_succ_cons, List.drop_zero]
        go_simp
        replace AA := AA.stay sz.h
        have rn := rw.keep sz.h
        replace BB := Below.step BB sz.h
        clear hne rw rg rk
        generalize sz.w = W at *
        clear sz
        revert NE
        revert rn
        revert GG
        revert AA
        revert BB
        revert q8
        revert p8
        revert q9
        revert p9
        revert q10
        revert p10
        revert gg
        revert W
        exact JN.out
    intro W2 g8 p10 q10 p9 q9 p8 q8 BB AA GG ru NE
    have z0 := (AA.cell 0).trans (show _ = some (.int .i64 0) from rfl)
    have z1 := (AA.cell 1).trans (show _ = some (.slice none 0 0) from rfl)
    have f0 := AA.frozen 0
    have f1 := AA.frozen 1
    obtain ⟨A7, r', BB'⟩ := stored BB AA GG ru NE
    replace rh := rh.keep BB'
    replace rx := rx.keep BB'
    replace ry := ry.keep BB'
    replace rm := rm.keep BB'
    replace rd := rd.keep BB'
    replace rs := rs.keep BB'
    replace rt := rt.keep BB'
    replace re := re.keep BB'
    replace A1 := A1.stay BB'
    replace A2 := A2.stay BB'
    replace A3 := A3.stay BB'
    replace A4 := A4.stay BB'
    replace A5 := A5.stay BB'
    replace A6 := A6.stay BB'
    replace HT : Hid (Tabs _) := HT.out.keep BB'
    replace BW := Below.step BW BB'
    replace ru := r'
    clear r' BB BB' AA GG NE
    clear c4
    go_wp2_with fail
    clear z0 z1 f0 f1
    generalize (W2.setCell ⟨g8, 0, none⟩ (.int .i64 0)).setCell ⟨g8, 1, none⟩ (.slice p10 20 q10) = V3 at *
    refine (ok_dk p1 q1 _ x derivedB _ rfl HX.out (by decide) (by decide) rx HT.out).mono ?_
    rintro e w7 ⟨p11, q11, rfl, kk, hb⟩
    have rk := Rd.own kk
    replace rh := rh.keep hb
    replace rx := rx.keep hb
    replace ry := ry.keep hb
    replace rm := rm.keep hb
    replace rd := rd.keep hb
    replace rs := rs.keep hb
    replace rt := rt.keep hb
    replace re := re.keep hb
    replace ru := ru.keep hb
    replace A1 := A1.stay hb
    replace A2 := A2.stay hb
    replace A3 := A3.stay hb
    replace A4 := A4.stay hb
    replace A5 := A5.stay hb
    replace A6 := A6.stay hb
    replace A7 := A7.stay hb
    replace HT : Hid (Tabs _) := HT.out.keep hb
    replace BW := Below.step BW hb
    clear hb kk
    go_wp2_with fail
    refine (ok_xt p11 _ q11 q2 _ _ y _ (deriveN_len _ _ _) rfl HY.out.2 rk ry HT.out).mono ?_
    rintro e w8 ⟨p12, q12, rfl, kk, hb⟩
    have A8 := Arr.new w8 [.int .i64 0, .slice p12 32 q12] 27
    have hb' := Below.mk hb (.cells #[.int .i64 0, .slice p12 32 q12] 27)
    have rz := (Rd.own kk).keep (alloc_below _ (.cells #[.int .i64 0, .slice p12 32 q12] 27))
    replace rh := rh.keep hb'
    replace rx := rx.keep hb'
    replace ry := ry.keep hb'
    replace rm := rm.keep hb'
    replace rd := rd.keep hb'
    replace rs := rs.keep hb'
    replace rt := rt.keep hb'
    replace re := re.keep hb'
    replace ru := ru.keep hb'
    replace rk := rk.keep hb'
    replace A1 := A1.stay hb'
    replace A2 := A2.stay hb'
    replace A3 := A3.stay hb'
    replace A4 := A4.stay hb'
    replace A5 := A5.stay hb'
    replace A6 := A6.stay hb'
    replace A7 := A7.stay hb'
    replace HT : Hid (Tabs _) := HT.out.keep hb'
    replace BW := Below.step BW hb'
    clear hb hb' kk 
    rw [← HZ.out] at rz
    go_wp2_with fail
    generalize w8.alloc (.cells #[.int .i64 0, .slice p12 32 q12] 27) = V4 at *
    have hne := HW.some V4
    have k1 := HW.at ((A1.cell 1).trans (show _ = some (.slice p3 32 q3) from rfl))
    have k2 := HW.at ((A8.cell 1).trans (show _ = some (.slice p12 32 q12) from rfl))
    have k3 := HW.at ((A2.cell 0).trans (show _ = some (.int .i64 0) from rfl))
    have k4 := HW.at ((A2.cell 1).trans (show _ = some (.slice p4 32 q4) from rfl))
    have k5 := HW.at ((A4.cell 0).trans (show _ = some (.int .i64 0) from rfl))
    have k6 := HW.at ((A4.cell 3).trans (show _ = some (.slice s3 32 t3) from rfl))
    have k7 := HW.at ((A5.cell 1).trans (show _ = some (.slice p6 32 q6) from rfl))
    have k8 := HW.at ((A6.cell 0).trans (show _ = some (.int .i64 0) from rfl))
    have k9 := HW.at ((A6.cell 1).trans (show _ = some (.slice p7 20 q7) from rfl))
    have k10 := HW.at ((A7.cell 1).trans (show _ = some (.slice p10 20 q10) from rfl))
    have tt : Tb V4 := ⟨HT.out⟩
    clear HT
    clear A8 A7 A6 A5 A4 A3 A2 A1 rx ry rm rd rk HX HY HE HE2 HL2
    refine wp_region_pick [0, 1, 2, 3] 61 57 1 rfl rfl rfl (by kernel_rfl) (by kernel_rfl) (by kernel_rfl) (by kernel_rfl) ?_
    simp only [opsAt, List.getElem?_toArray, List.getElem?_cons_zero, List.getElem?_cons_succ]
    repeat (go_big_quiet_step (fail))
    refine wpQuiet_nil ?_
    refine wpM_only (i := 4) (by kernel_rfl) ?_
    refine mOp_call rfl (by go_simp) 21 _ #[.slice p3 32 q3, .slice p12 32 q12] (fun w => by go_simp) rfl ?_
    rintro _ ⟨sg0, rfl⟩
    refine (lwSame_yes _ _ _ _ _ _ hl _ HN.out HN.out (rh.keep sg0.h) (rz.keep sg0.h)).mono ?_
    rintro e wg0 ⟨rfl, hwg⟩
    subst hwg
    refine ⟨_, rfl, ⟨⟨sg0.w, Below.refl _ _⟩, rfl⟩, ?_⟩
    have hbg : Below _ _ sg0.w := sg0.h
    replace k3 := HW.down k3 hbg
    replace k4 := HW.down k4 hbg
    replace k5 := HW.down k5 hbg
    replace k6 := HW.down k6 hbg
    replace k7 := HW.down k7 hbg
    replace k8 := HW.down k8 hbg
    replace k9 := HW.down k9 hbg
    replace k10 := HW.down k10 hbg
    replace rs := rs.keep hbg
    replace rt := rt.keep hbg
    replace re := re.keep hbg
    replace ru := ru.keep hbg
    replace tt := tt.keep hbg
    replace BW := Below.step BW hbg
    replace hne := HW.some sg0.w
    clear hbg k1 k2 rh rz
    generalize sg0.w = wg0 at *
    clear sg0
    refine wpM_more [5, 6, 7, 8, 9, 10, 11, 12, 13, 14, 15, 16, 17, 18, 19, 20, 21, 22, 23, 24, 25, 26] 56 34 rfl (by kernel_rfl) (by kernel_rfl) (by kernel_rfl) (by kernel_rfl) ?_
    simp only [opsAt, List.getElem?_toArray, List.getElem?_cons_zero, List.getElem?_cons_succ]
    go_simp
    repeat (go_big_quiet_step (fail))
    refine wpQuiet_nil ?_
    refine wpM_only (i := 27) (by kernel_rfl) ?_
    refine mOp_call rfl (by go_simp) 21 _ #[.slice s3 32 t3, .slice p6 32 q6] (fun w => by go_simp) rfl ?_
    rintro _ ⟨sg2, rfl⟩
    refine (lwSame_yes _ _ _ _ _ _ _ _ (trafN_len _ _ _) (trafN_len _ _ _) (rs.keep sg2.h) (rt.keep sg2.h)).mono ?_
    rintro e wg2 ⟨rfl, hwg⟩
    subst hwg
    refine ⟨_, rfl, ⟨⟨sg2.w, Below.refl _ _⟩, rfl⟩, ?_⟩
    have hbg : Below _ _ sg2.w := sg2.h
    replace k7 := HW.down k7 hbg
    replace k8 := HW.down k8 hbg
    replace k9 := HW.down k9 hbg
    replace k10 := HW.down k10 hbg
    replace re := re.keep hbg
    replace ru := ru.keep hbg
    replace tt := tt.keep hbg
    replace BW := Below.step BW hbg
    replace hne := HW.some sg2.w
    clear hbg k3 k4 k5 k6 rs rt
    generalize sg2.w = wg2 at *
    clear sg2
    refine wpM_more [28, 29, 30, 31, 32, 33, 34, 35, 36, 37, 38, 39, 40, 41, 42, 43, 44, 45, 46, 47, 48, 49, 50] 33 10 rfl (by kernel_rfl) (by kernel_rfl) (by kernel_rfl) (by kernel_rfl) ?_
    simp only [opsAt, List.getElem?_toArray, List.getElem?_cons_zero, List.getElem?_cons_succ]
    go_simp
    repeat (go_big_quiet_step (fail))
    refine wpQuiet_nil ?_
    refine wpM_only (i := 51) (by kernel_rfl) ?_
    refine mOp_call rfl (by go_simp) 21 _ #[.slice p7 20 q7, .slice p10 20 q10] (fun w => by go_simp) rfl ?_
    rintro _ ⟨sg4, rfl⟩
    refine (lwSame_yes _ _ _ _ _ _ _ _ (exportN_len _ _ _ _) (exportN_len _ _ _ _) (re.keep sg4.h) (ru.keep sg4.h)).mono ?_
    rintro e wg4 ⟨rfl, hwg⟩
    subst hwg
    refine ⟨_, rfl, ⟨⟨sg4.w, Below.refl _ _⟩, rfl⟩, ?_⟩
    have hbg : Below _ _ sg4.w := sg4.h
    replace tt := tt.keep hbg
    replace BW := Below.step BW hbg
    replace hne := HW.some sg4.w
    clear hbg k7 k8 k9 k10 re ru
    generalize sg4.w = wg4 at *
    clear sg4
    refine wpM_more [52, 53] 9 7 rfl (by kernel_rfl) (by kernel_rfl) (by kernel_rfl) (by kernel_rfl) ?_
    simp only [opsAt, List.getElem?_toArray, List.getElem?_cons_zero, List.getElem?_cons_succ]
    go_simp
    repeat (go_big_quiet_step (fail))
    refine wpQuiet_nil ?_
    have HT : Hid (Tabs _) := tt.t
    clear tt
    have HEQ : Hid (earlyN (zs 32) = earlyN []) := by show _ = _; simp [earlyN, pskN, zs_len]
    obtain ⟨i0, hi, hz0, hz1, hz2⟩ := info_parts info8
    refine wpM_two (i := 54) (j := 56) (by kernel_rfl) ?_ ?_
    · skip
      refine mOp_call rfl (by go_simp) 22 _ #[.slice none 0 0] (fun w => by go_simp) rfl ?_
      rintro _ ⟨sg, rfl⟩
      refine (ok_es none 0 0 [] _ rfl (by decide) (rd_nil _) (HT.out.keep sg.h)).mono ?_
      rintro e wg ⟨pa, qa, rfl, kg, hbx⟩
      have hbg := Below.step sg.h hbx
      refine ⟨_, rfl, ⟨⟨wg, hbx⟩, rfl⟩, ?_⟩
      have ra := Rd.own kg
      replace HT : Hid (Tabs _) := HT.out.keep hbg
      replace BW := Below.step BW hbg
      replace hne := HW.some wg
      clear hbg hbx kg sg
      generalize wg = wx at *
      refine wpM_more [55] 6 5 rfl (by kernel_rfl) (by kernel_rfl) (by kernel_rfl) (by kernel_rfl) ?_
      simp only [opsAt, List.getElem?_toArray, List.getElem?_cons_zero, List.getElem?_cons_succ]
      go_simp
      repeat (go_big_quiet_step (fail))
      refine wpQuiet_nil ?_
      refine wpM_only (i := 56) (by kernel_rfl) ?_
      refine mOp_mk rfl (by go_simp) (by kernel_rfl) ?_
      rintro _ ⟨sm, rfl⟩
      refine wpList_make_full _ rfl (.const (.int .i64 32)) (.const (.int .i64 32)) 22 rfl sm.w.heap.size 5 i0 (.int .u8 0) 1 Tryd.underlying22 hi hz0 hz1 .i64 .i64 _ _ 32 rfl rfl rfl rfl (by rw [hz2]; decide) (by unfold maxLen; decide) (Nat.le_refl _) ?_
      intro wm hown hgrow
      have hbm : Below sm.w.heap.size sm.w wm := (Below.refl _ _).grown hgrow (Nat.le_refl _) (fun k hk => by simp at hk)
      have rmk := Rd.own (made_zeros hown)
      refine wpList_nil_of ⟨rfl, hbm, ?_⟩
      have hbg := Below.step sm.h hbm
      replace ra := ra.keep hbg
      replace HT : Hid (Tabs _) := HT.out.keep hbg
      replace BW := Below.step BW hbg
      replace hne := HW.some wm
      clear hbg hbm hown hgrow
      generalize sm.w.heap.size = gm at *
      clear sm
      refine wpM_only (i := 57) (by kernel_rfl) ?_
      refine mOp_call rfl (by go_simp) 22 _ #[.slice (some ⟨gm, 0, none⟩) 32 32] (fun w => by go_simp) rfl ?_
      rintro _ ⟨sg, rfl⟩
      refine (ok_es _ 32 32 (zs 32) _ (zs_len 32) (by decide) (rmk.keep sg.h) (HT.out.keep sg.h)).mono ?_
      rintro e wg ⟨pb, qb, rfl, kg, hbx⟩
      have hbg := Below.step sg.h hbx
      refine ⟨_, rfl, ⟨⟨wg, hbx⟩, rfl⟩, ?_⟩
      have rb := Rd.own kg
      replace ra := ra.keep hbg
      replace HT : Hid (Tabs _) := HT.out.keep hbg
      replace BW := Below.step BW hbg
      replace hne := HW.some wg
      clear hbg hbx kg sg
      generalize wg = wx at *
      refine wpM_more [58] 3 2 rfl (by kernel_rfl) (by kernel_rfl) (by kernel_rfl) (by kernel_rfl) ?_
      simp only [opsAt, List.getElem?_toArray, List.getElem?_cons_zero, List.getElem?_cons_succ]
      go_simp
      repeat (go_big_quiet_step (fail))
      refine wpQuiet_nil ?_
      rw [HEQ.out] at rb
      refine wpM_only (i := 59) (by kernel_rfl) ?_
      refine mOp_call rfl (by go_simp) 21 _ #[.slice pa 32 qa, .slice pb 32 qb] (fun w => by go_simp) rfl ?_
      rintro _ ⟨sg, rfl⟩
      refine (lwSame_yes _ _ _ _ _ _ _ _ (earlyN_len _) (earlyN_len _) (ra.keep sg.h) (rb.keep sg.h)).mono ?_
      rintro e wy ⟨rfl, hwg⟩
      subst hwg
      refine ⟨_, rfl, ⟨⟨sg.w, Below.refl _ _⟩, rfl⟩, ?_⟩
      replace BW := Below.step BW sg.h
      replace hne := HW.some sg.w
      generalize sg.w = wy at *
      clear sg ra rb
      refine wpM_more [60] 1 0 rfl (by kernel_rfl) (by kernel_rfl) (by kernel_rfl) (by kernel_rfl) ?_
      simp only [opsAt, List.getElem?_toArray, List.getElem?_cons_zero, List.getElem?_cons_succ]
      go_simp
      repeat (go_big_quiet_step (fail))
      refine wpQuiet_nil ?_
      refine wpM_end (by kernel_rfl) rfl (by kernel_rfl) (by decide) ?_
      rintro _ ⟨sgz, rfl⟩
      simp only [List.drop_succ_cons, List.drop_zero]
      go_wp2
      go_ret
      exact ⟨rfl, Below.step BW sgz.h⟩
    · skip
      refine mOp_mk rfl (by go_simp) (by kernel_rfl) ?_
      rintro _ ⟨sm, rfl⟩
      refine wpList_make_full _ rfl (.const (.int .i64 32)) (.const (.int .i64 32)) 22 rfl sm.w.heap.size 5 i0 (.int .u8 0) 1 Tryd.underlying22 hi hz0 hz1 .i64 .i64 _ _ 32 rfl rfl rfl rfl (by rw [hz2]; decide) (by unfold maxLen; decide) (Nat.le_refl _) ?_
      intro wm hown hgrow
      have hbm : Below sm.w.heap.size sm.w wm := (Below.refl _ _).grown hgrow (Nat.le_refl _) (fun k hk => by simp at hk)
      have rmk := Rd.own (made_zeros hown)
      refine wpList_nil_of ⟨rfl, hbm, ?_⟩
      have hbg := Below.step sm.h hbm
      replace HT : Hid (Tabs _) := HT.out.keep hbg
      replace BW := Below.step BW hbg
      replace hne := HW.some wm
      clear hbg hbm hown hgrow
      generalize sm.w.heap.size = gm at *
      clear sm
      refine wpM_only (i := 54) (by kernel_rfl) ?_
      refine mOp_call rfl (by go_simp) 22 _ #[.slice none 0 0] (fun w => by go_simp) rfl ?_
      rintro _ ⟨sg, rfl⟩
      refine (ok_es none 0 0 [] _ rfl (by decide) (rd_nil _) (HT.out.keep sg.h)).mono ?_
      rintro e wg ⟨pa, qa, rfl, kg, hbx⟩
      have hbg := Below.step sg.h hbx
      refine ⟨_, rfl, ⟨⟨wg, hbx⟩, rfl⟩, ?_⟩
      have ra := Rd.own kg
      replace rmk := rmk.keep hbg
      replace HT : Hid (Tabs _) := HT.out.keep hbg
      replace BW := Below.step BW hbg
      replace hne := HW.some wg
      clear hbg hbx kg sg
      generalize wg = wx at *
      refine wpM_more [55] 5 4 rfl (by kernel_rfl) (by kernel_rfl) (by kernel_rfl) (by kernel_rfl) ?_
      simp only [opsAt, List.getElem?_toArray, List.getElem?_cons_zero, List.getElem?_cons_succ]
      go_simp
      repeat (go_big_quiet_step (fail))
      refine wpQuiet_nil ?_
      refine wpM_only (i := 57) (by kernel_rfl) ?_
      refine mOp_call rfl (by go_simp) 22 _ #[.slice (some ⟨gm, 0, none⟩) 32 32] (fun w => by go_simp) rfl ?_
      rintro _ ⟨sg, rfl⟩
      refine (ok_es _ 32 32 (zs 32) _ (zs_len 32) (by decide) (rmk.keep sg.h) (HT.out.keep sg.h)).mono ?_
      rintro e wg ⟨pb, qb, rfl, kg, hbx⟩
      have hbg := Below.step sg.h hbx
      refine ⟨_, rfl, ⟨⟨wg, hbx⟩, rfl⟩, ?_⟩
      have rb := Rd.own kg
      replace ra := ra.keep hbg
      replace HT : Hid (Tabs _) := HT.out.keep hbg
      replace BW := Below.step BW hbg
      replace hne := HW.some wg
      clear hbg hbx kg sg
      generalize wg = wx at *
      refine wpM_more [58] 3 2 rfl (by kernel_rfl) (by kernel_rfl) (by kernel_rfl) (by kernel_rfl) ?_
      simp only [opsAt, List.getElem?_toArray, List.getElem?_cons_zero, List.getElem?_cons_succ]
      go_simp
      repeat (go_big_quiet_step (fail))
      refine wpQuiet_nil ?_
      rw [HEQ.out] at rb
      refine wpM_only (i := 59) (by kernel_rfl) ?_
      refine mOp_call rfl (by go_simp) 21 _ #[.slice pa 32 qa, .slice pb 32 qb] (fun w => by go_simp) rfl ?_
      rintro _ ⟨sg, rfl⟩
      refine (lwSame_yes _ _ _ _ _ _ _ _ (earlyN_len _) (earlyN_len _) (ra.keep sg.h) (rb.keep sg.h)).mono ?_
      rintro e wy ⟨rfl, hwg⟩
      subst hwg
      refine ⟨_, rfl, ⟨⟨sg.w, Below.refl _ _⟩, rfl⟩, ?_⟩
      replace BW := Below.step BW sg.h
      replace hne := HW.some sg.w
      generalize sg.w = wy at *
      clear sg ra rb
      refine wpM_more [60] 1 0 rfl (by kernel_rfl) (by kernel_rfl) (by kernel_rfl) (by kernel_rfl) ?_
      simp only [opsAt, List.getElem?_toArray, List.getElem?_cons_zero, List.getElem?_cons_succ]
      go_simp
      repeat (go_big_quiet_step (fail))
      refine wpQuiet_nil ?_
      refine wpM_end (by kernel_rfl) rfl (by kernel_rfl) (by decide) ?_
      rintro _ ⟨sgz, rfl⟩
      simp only [List.drop_succ_cons, List.drop_zero]
      go_wp2
      go_ret
      exact ⟨rfl, Below.step BW sgz.h⟩
  · have h1 : (hc != 0) = true := by rw [bne_iff_ne]; exact h0
    have KS : Hid (∀ w, Rd w p1 q1 x → Rd w p2 q2 y → Calls Tryd.prog 12 #[.slice p1 x.length q1, .slice p2 y.length q2] w fun e w' => ∃ u, e = .returned (.agg #[.int .i64 hc, u]) ∧ Own w' w.heap.size u hl ∧ Below w.heap.size w w') := fun w h h' => by rw [HC.out, HL.out]; exact specHs_c p1 p2 q1 q2 x y w h h'
    have g1 := HW.at ((A1.cell 0).trans (show _ = some (Value.int .i64 hc) from rfl))
    clear h0 HC HL rh HT A1
    go_wp2_with fail
    generalize w2.alloc (Obj.cells #[Value.int IntKind.i64 hc, Value.slice p3 hl.length q3] 27) = V at *
    have hne := HW.some V
    refine wp_region_pick [0, 1, 4, 5] 7 3 1 rfl rfl rfl (by kernel_rfl) (by kernel_rfl) (by kernel_rfl) (by kernel_rfl) ?_
    simp only [opsAt, List.getElem?_toArray, List.getElem?_cons_zero, List.getElem?_cons_succ]
    repeat (go_big_quiet_step (fail))
    refine wpQuiet_nil ?_
    refine wpM_only (i := 2) (by kernel_rfl) ?_
    refine mOp_call rfl (by go_simp) 12 _ #[.slice p1 x.length q1, .slice p2 y.length q2] (fun w => by go_simp) rfl ?_
    rintro _ ⟨sg0, rfl⟩
    refine (KS.out _ (rx.keep sg0.h) (ry.keep sg0.h)).mono ?_
    rintro e wg0 ⟨ug, rfl, kg, hbx⟩
    obtain ⟨p4, q4, rfl, r4⟩ := kg.rd
    have hbg := Below.step sg0.h hbx
    refine ⟨_, rfl, ⟨⟨wg0, hbx⟩, rfl⟩, ?_⟩
    replace BW := Below.step BW hbg
    replace hne := HW.some wg0
    clear hbg kg r4 hbx g1 rx ry
    refine wpM_more [3, 6] 2 0 rfl (by kernel_rfl) (by kernel_rfl) (by kernel_rfl) (by kernel_rfl) ?_
    simp only [opsAt, List.getElem?_toArray, List.getElem?_cons_zero, List.getElem?_cons_succ]
    go_simp
    repeat (go_big_quiet_step (fail))
    refine wpQuiet_nil ?_
    refine wpM_end (by kernel_rfl) rfl (by kernel_rfl) (by decide) ?_
    rintro _ ⟨sgz, rfl⟩
    simp only [List.drop_succ_cons, List.drop_zero]
    go_wp2
    go_ret
    exact ⟨rfl, Below.step BW sgz.h⟩
end Go.Proofs.YthkiabcbpkhgiaaDoor

