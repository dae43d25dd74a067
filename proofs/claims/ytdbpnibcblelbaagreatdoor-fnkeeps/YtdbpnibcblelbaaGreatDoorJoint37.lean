/- keep and say of the program: a message more among those that both have, and among those that are sent. -/
import Derived.Test.YtdbpnibcblelbaaGreatDoorShkQ
import Derived.Deep.RegionLaw
import Derived.Test.YtdbpnibcblelbaaGreatDoorShkA
import Derived.Test.YtdbpnibcblelbaaGreatDoorJoint6
import Derived.Test.YtdbpnibcblelbaaGreatDoorJoint1
namespace Go.Proofs.YtdbpnibcblelbaaGreatDoor
open Go.ChangeShapes Go.WideShapes Go.ChangeAt Go.RowKit
set_option maxRecDepth 4000 in
set_option maxHeartbeats 2000000 in
theorem keep_c (w0 : World) (b : Nat) (w : World) (t : ShkD) (vs : Value) (f : List Nat) (m : MsgD) (pm : Option Addr) (qm : Nat) (h : ShkV w0 b w t vs f) (hm : Rd (blank (hide b vs) w) pm qm m.2) (hl : t.e.2.2.2.1.length ≤ 1000) :
    Calls Tryz.prog 162 #[.pointer (some ⟨b, 0, none⟩), .agg #[.int .i64 m.1, .slice pm m.2.length qm]] w fun x w' => x = .returned (.tuple #[]) ∧ ShkV w0 b w' { t with e := eL t.e (t.e.2.2.2.1 ++ [m]) } vs f ∧ Only [b] w w' := by
  have HHID : Hid (∀ k, k ∈ hide b vs → k < w.heap.size) := h.hid
  have HHM : Hid (Rd (blank (hide b vs) w) pm qm m.2) := hm
  have HL : Hid (t.e.2.2.2.1.length ≤ 1000) := hl
  clear hm hl
  obtain ⟨us, vh, ho, vk, xs, HB, RE, RH, RO, RK⟩ := h
  obtain ⟨p1, q1, p2, q2, p3, q3, p4, q4, p5, q5, p6, q6, p7, q7, p8, q8, rfl, r1, r2, r3, r4, r5, r6, r7, r8⟩ := end_rep RE
  obtain ⟨ph, qh, eh, rh⟩ := RH
  obtain ⟨po, qo, rfl, ro⟩ := hello_rep RO
  obtain ⟨pk, qk, ek, rk⟩ := RK
  simp only [List.cons.injEq, and_true] at eh ek
  subst eh ek
  simp only [List.cons_append, List.nil_append] at HB
  obtain ⟨ys, RW, RA⟩ := r3.raw
  have HRW : Hid (Raw w p3 q3 t.e.2.2.2.1.length 2 ys) := RW.sees (blank_le _ _)
  have HRA : Hid (RepAll msgC (blank (hide b vs) w) t.e.2.2.2.1 ys) := RA
  have HRest : Hid (Rd (blank (hide b vs) w) p1 q1 t.e.1.2.1 ∧ Rd (blank (hide b vs) w) p2 q2 t.e.1.2.2.2 ∧ Rd (blank (hide b vs) w) p4 q4 t.e.2.2.2.2.1 ∧ Rd (blank (hide b vs) w) p5 q5 t.e.2.2.2.2.2.1 ∧ Rd (blank (hide b vs) w) p6 q6 t.e.2.2.2.2.2.2.1 ∧ Rd (blank (hide b vs) w) p7 q7 t.e.2.2.2.2.2.2.2.1 ∧ Rd (blank (hide b vs) w) p8 q8 t.e.2.2.2.2.2.2.2.2 ∧ RdL msgC (blank (hide b vs) w) ph qh t.heard ∧ Rd (blank (hide b vs) w) po qo t.other.1 ∧ Rd (blank (hide b vs) w) pk qk t.secret) := ⟨r1, r2, r4, r5, r6, r7, r8, rh, ro, rk⟩
  have BW := alloc_below w (.cells #[.int .i64 m.1, .slice pm m.2.length qm] 82)
  have N := Arr.new w [.int .i64 m.1, .slice pm m.2.length qm] 82
  have HVZ : Hid (w.heap.size < (w.alloc (.cells #[.int .i64 m.1, .slice pm m.2.length qm] 82)).heap.size) := N.lt
  replace HB := HB.stay BW
  clear r1 r2 r3 r4 r5 r6 r7 r8 rh ro rk RE RO RW RA
  go_enter Tryz.func162, Tryz.ntmps162
  go_wp2_with fail
  generalize w.alloc (.cells #[.int .i64 m.1, .slice pm m.2.length qm] 82) = V at *
  have hne := HW.some V
  have c6 := HW.at ((HB.arr.cell 6).trans (show _ = some _ from rfl))
  have n0 := HW.at ((N.cell 0).trans (show _ = some _ from rfl))
  have n1 := HW.at ((N.cell 1).trans (show _ = some _ from rfl))
  refine wp_region_pick [0, 1, 2, 3, 4, 5, 6] 10 3 4 rfl rfl rfl (by kernel_rfl) (by kernel_rfl) (by kernel_rfl) (by kernel_rfl) ?_
  simp only [opsAt, List.getElem?_toArray, List.getElem?_cons_zero, List.getElem?_cons_succ]
  repeat (go_big_quiet_step (fail))
  refine wpQuiet_nil ?_
  clear c6 n0 n1 N
  refine wpM_only (i := 7) (by kernel_rfl) ?_
  refine mOp_make rfl (by go_simp) ?_
  rintro _ ⟨sg, rfl⟩
  refine ⟨.slice (some ⟨sg.w.heap.size, 0, none⟩) 1 1, sg.w.alloc (.cells #[.int .i64 m.1, .slice pm m.2.length qm] 82), by go_simp, ⟨⟨_, alloc_below _ _⟩, rfl⟩, ?_⟩
  have hbg := Below.step sg.h (alloc_below sg.w (.cells #[.int .i64 m.1, .slice pm m.2.length qm] 82))
  have NA := Arr.new sg.w [.int .i64 m.1, .slice pm m.2.length qm] 82
  replace HB := HB.stay hbg
  replace BW := Below.step BW hbg
  replace hne := HW.some (sg.w.alloc (.cells #[.int .i64 m.1, .slice pm m.2.length qm] 82))
  clear hbg
  generalize hW1 : sg.w.alloc (.cells #[.int .i64 m.1, .slice pm m.2.length qm] 82) = wm1 at *
  clear hW1
  generalize sg.w.heap.size = ga at *
  clear sg
  refine wpM_only (i := 8) (by kernel_rfl) ?_
  refine mOp_make rfl (by go_simp) ?_
  rintro _ ⟨sg, rfl⟩
  refine ⟨.slice (some ⟨sg.w.heap.size, 0, none⟩) 2 2, sg.w.alloc (.cells #[.slice p3 t.e.2.2.2.1.length q3, .slice (some ⟨ga, 0, none⟩) 1 1] 27), by go_simp, ⟨⟨_, alloc_below _ _⟩, rfl⟩, ?_⟩
  have hbg := Below.step sg.h (alloc_below sg.w (.cells #[.slice p3 t.e.2.2.2.1.length q3, .slice (some ⟨ga, 0, none⟩) 1 1] 27))
  have NB := Arr.new sg.w [.slice p3 t.e.2.2.2.1.length q3, .slice (some ⟨ga, 0, none⟩) 1 1] 27
  replace HB := HB.stay hbg
  replace NA := NA.stay hbg
  replace BW := Below.step BW hbg
  replace hne := HW.some (sg.w.alloc (.cells #[.slice p3 t.e.2.2.2.1.length q3, .slice (some ⟨ga, 0, none⟩) 1 1] 27))
  clear hbg
  generalize hW2 : sg.w.alloc (.cells #[.slice p3 t.e.2.2.2.1.length q3, .slice (some ⟨ga, 0, none⟩) 1 1] 27) = wm2 at *
  clear hW2
  generalize sg.w.heap.size = gb at *
  clear sg
  refine wpM_only (i := 9) (by kernel_rfl) ?_
  refine mOp_call rfl (by go_simp) 213 _ #[.slice (some ⟨gb, 0, none⟩) 2 2] (fun w => by go_simp) rfl ?_
  rintro _ ⟨sg, rfl⟩
  refine (concat_c gb t.e.2.2.2.1.length 1 q3 1 p3 (some ⟨ga, 0, none⟩) ys [.int .i64 m.1, .slice pm m.2.length qm] sg.w (NB.stay sg.h) (HRW.out.keep (Below.step BW sg.h)) (raw_arr (NA.stay sg.h) rfl) (fun u hu => HRA.out.one u hu) (by simp [Value.oneCell']) (by omega) (by have := HL.out; omega)).mono ?_
  rintro x wg ⟨v, rfl, hrow, hbx⟩
  have hbg := Below.step sg.h hbx
  refine ⟨_, rfl, ⟨⟨wg, hbx⟩, rfl⟩, ?_⟩
  replace hrow := ownsRow_low hrow (Below.step BW sg.h).size
  replace HB := HB.stay hbg
  replace BW := Below.step BW hbg
  replace hne := HW.some wg
  clear hbg hbx sg NA NB
  refine wpM_end (by kernel_rfl) rfl (by kernel_rfl) (by decide) ?_
  rintro _ ⟨sgz, rfl⟩
  simp only [List.drop_succ_cons, List.drop_zero]
  go_simp
  replace hrow : (sgz.w).ownsRow w.heap.size 82 2 v (t.e.2.2.2.1.length + 1) (ys ++ [.int .i64 m.1, .slice pm m.2.length qm]) := ownsRow_fr hrow fun k hk => sgz.h.block k (World.ownsRow.lt hrow k hk).2
  replace HB := HB.stay sgz.h
  replace BW := Below.step BW sgz.h
  clear hne
  generalize sgz.w = W at *
  clear sgz
  obtain ⟨pN, qN, rfl, -⟩ := ownsRow_raw hrow
  have c6 := (HB.arr.cell 6).trans (show _ = some _ from rfl)
  have fz := HB.arr.frozen
  go_wp2
  go_end0
  have HS : Sees (blank (hide b vs) w) (blank (hide b vs) (W.setCell ⟨b, 6, none⟩ (.slice pN (t.e.2.2.2.1.length + 1) qN))) := (blank_below BW).trans (sees_set b 6 _ W vs)
  obtain ⟨k1, k2, k4, k5, k6, k7, k8, kh, ko, kk⟩ := HRest.out
  have hrowB := ownsRow_blank (S := hide b vs) hrow HHID.out
  obtain ⟨pN2, qN2, eN, RN⟩ := ownsRow_raw hrowB
  cases eN
  have hl1 : (t.e.2.2.2.1 ++ [m]).length = t.e.2.2.2.1.length + 1 := by simp
  have RL : RdL msgC (blank (hide b vs) (W.setCell ⟨b, 6, none⟩ (.slice pN (t.e.2.2.2.1.length + 1) qN))) pN qN (t.e.2.2.2.1 ++ [m]) :=
    Raw.rdL (V := blank (hide b vs) W) (xs := ys ++ [.int .i64 m.1, .slice pm m.2.length qm]) (by rw [hl1]; exact RN) ((RepAll.sees msgC_mono (blank_below BW) HRA.out).append (RepAll.single (msg_mk (a := m) (HHM.out.sees (blank_below BW))))) (sees_set b 6 _ W vs) msgC_mono
  have HBN := HB.set 6 (.slice pN (t.e.2.2.2.1.length + 1) qN)
  rw [← hl1] at HBN RL HS ⊢
  refine ⟨rfl, ⟨_, _, _, _, xs, HBN, end_mk (a := eL t.e (t.e.2.2.2.1 ++ [m])) (k1.sees HS) (k2.sees HS) RL (k4.sees HS) (k5.sees HS) (k6.sees HS) (k7.sees HS) (k8.sees HS), ⟨ph, qh, rfl, kh.sees msgC_mono HS⟩, hello_mk (ko.sees HS), ⟨pk, qk, rfl, kk.sees HS⟩⟩, (Only.below BW).trans (only_set b 6 _ W)⟩
theorem Only.own {w w' : World} {B : Nat} {v : Value} {bs : List UInt8} {S : List Nat} (h : Own w B v bs) (ho : Only S w w') (hd : ∀ k, v.ownBlock = some k → k ∉ S) : Own w' B v bs := by
  obtain ⟨u, e1, h2, -⟩ := bytC.other (byt_ownK h) ho (fun k hk => hd k (mem_opt.1 hk))
  cases e1
  exact h2
set_option maxRecDepth 4000 in
set_option maxHeartbeats 2000000 in
theorem say_c (w0 : World) (b : Nat) (w : World) (t : ShkD) (vs : Value) (f : List Nat) (m : MsgD) (pm : Option Addr) (qm : Nat) (h : ShkV w0 b w t vs f) (ho : Own w w0.heap.size (.slice pm m.2.length qm) m.2) (hf : ∀ k, (Value.slice pm m.2.length qm).ownBlock = some k → k ∉ vs.ownBlock.toList ++ f) (hl : t.e.2.2.2.1.length ≤ 1000) (hs : t.send.length ≤ 1000) :
    Calls Tryz.prog 210 #[.pointer (some ⟨b, 0, none⟩), .agg #[.int .i64 m.1, .slice pm m.2.length qm]] w fun x w' => x = .returned (.tuple #[]) ∧ Shk w0 b w' { t with e := eL t.e (t.e.2.2.2.1 ++ [m]), send := t.send ++ [m] } := by
  have BW := alloc_below w (.cells #[.int .i64 m.1, .slice pm m.2.length qm] 82)
  have N := Arr.new w [.int .i64 m.1, .slice pm m.2.length qm] 82
  have HBL : Hid (b < w0.heap.size ∧ w0.heap.size ≤ w.heap.size) := h.blt
  replace h := h.stay BW
  replace ho := ho.stay BW
  have hout : Hid (∀ k, (Value.slice pm m.2.length qm).ownBlock = some k → k ≠ b) := fun k hk e => by have := ho.ge k hk; have := HBL.out; omega
  have hmb : Rd (blank (hide b vs) (w.alloc (.cells #[.int .i64 m.1, .slice pm m.2.length qm] 82))) pm qm m.2 := by
    obtain ⟨pz, qz, ez, rz⟩ := bytC.blanked (S := hide b vs) (byt_ownK ho) (fun k hk hm => by
      rcases List.mem_cons.1 hm with h1 | h1
      · exact hout.out k (mem_opt.1 hk) h1
      · exact hf k (mem_opt.1 hk) (List.mem_append_left _ h1))
    cases ez
    exact rz
  have KK := keep_c w0 b _ t vs f m pm qm h hmb hl
  have HF : Hid (∀ k, (Value.slice pm m.2.length qm).ownBlock = some k → k ∉ vs.ownBlock.toList ++ f) := hf
  have HSL : Hid (t.send.length ≤ 1000) := hs
  have HLT : Hid (∀ k, (Value.slice pm m.2.length qm).ownBlock = some k → k < (w.alloc (.cells #[.int .i64 m.1, .slice pm m.2.length qm] 82)).heap.size) := fun k hk => ho.lt k hk
  clear h hmb hf hl hs
  go_enter Tryz.func210, Tryz.ntmps210
  go_wp2_with fail
  refine KK.mono ?_
  rintro x w1 ⟨rfl, h, ON⟩
  replace N : Arr w1 w.heap.size 82 [.int .i64 m.1, .slice pm m.2.length qm] := (ON.block _ N.lt (fun hm => by have := HBL.out; have := List.mem_singleton.1 hm; omega)).trans N
  replace ho := Only.own ho ON (fun k hk hm => hout.out k hk (List.mem_singleton.1 hm))
  have HW1 : Hid (w0.heap.size ≤ w1.heap.size) := h.blt.2
  clear KK ON BW
  obtain ⟨us, vh, ho, vk, xs, HB, RE, RH, RO, RK⟩ := h
  obtain ⟨p1, q1, p2, q2, p3, q3, p4, q4, p5, q5, p6, q6, p7, q7, p8, q8, rfl, r1, r2, r3, r4, r5, r6, r7, r8⟩ := end_rep RE
  obtain ⟨ph, qh, eh, rh⟩ := RH
  obtain ⟨po, qo, rfl, ro⟩ := hello_rep RO
  obtain ⟨pk, qk, ek, rk⟩ := RK
  simp only [List.cons.injEq, and_true] at eh ek
  subst eh ek
  simp only [List.cons_append, List.nil_append] at HB
  have HRest : Hid (endC.rep (blank (hide b vs) w1) (eL t.e (t.e.2.2.2.1 ++ [m])) [.int .i64 (eL t.e (t.e.2.2.2.1 ++ [m])).1.1, .slice p1 (eL t.e (t.e.2.2.2.1 ++ [m])).1.2.1.length q1, .int .i64 (eL t.e (t.e.2.2.2.1 ++ [m])).1.2.2.1, .slice p2 (eL t.e (t.e.2.2.2.1 ++ [m])).1.2.2.2.length q2, .int .i64 (eL t.e (t.e.2.2.2.1 ++ [m])).2.1, .int .i64 (eL t.e (t.e.2.2.2.1 ++ [m])).2.2.1, .slice p3 (eL t.e (t.e.2.2.2.1 ++ [m])).2.2.2.1.length q3, .slice p4 (eL t.e (t.e.2.2.2.1 ++ [m])).2.2.2.2.1.length q4, .slice p5 (eL t.e (t.e.2.2.2.1 ++ [m])).2.2.2.2.2.1.length q5, .slice p6 (eL t.e (t.e.2.2.2.1 ++ [m])).2.2.2.2.2.2.1.length q6, .slice p7 (eL t.e (t.e.2.2.2.1 ++ [m])).2.2.2.2.2.2.2.1.length q7, .slice p8 (eL t.e (t.e.2.2.2.1 ++ [m])).2.2.2.2.2.2.2.2.length q8] ∧ RdL msgC (blank (hide b vs) w1) ph qh t.heard ∧ Rd (blank (hide b vs) w1) po qo t.other.1 ∧ Rd (blank (hide b vs) w1) pk qk t.secret) := ⟨RE, rh, ro, rk⟩
  obtain ⟨pn, qn, en, rn⟩ := HB.own.rd
  subst en
  have HQN : Hid (qn ≤ 2 ^ 63 - 1) := rn.2.1
  clear r1 r2 r3 r4 r5 r6 r7 r8 rh ro rk RE RO rn
  have BV : Below w1.heap.size w1 (w1.drew.alloc (.cells #[.int .i64 m.1, .slice pm m.2.length qm] 82)) := Below.mk (Below.refl _ _).drew _
  have NA : Arr (w1.drew.alloc (.cells #[.int .i64 m.1, .slice pm m.2.length qm] 82)) w1.heap.size 82 [.int .i64 m.1, .slice pm m.2.length qm] := Arr.new w1.drew [.int .i64 m.1, .slice pm m.2.length qm] 82
  have c13 := (HB.arr.cell 13).trans (show _ = some _ from rfl)
  have n0 := (N.cell 0).trans (show _ = some _ from rfl)
  have n1 := (N.cell 1).trans (show _ = some _ from rfl)
  have fz0 := HB.arr.frozen
  replace HB := HB.stay BV
  have hb1 : b < w1.heap.size := by have := HBL.out; have := HW1.out; omega
  replace ho := ho.stay BV
  have hnew : Hid (∀ j u, [Value.int .i64 m.1, .slice pm m.2.length qm][j]? = some u → (w1.drew.alloc (.cells #[.int .i64 m.1, .slice pm m.2.length qm] 82)).cell? ((⟨w1.heap.size, 0, none⟩ : Addr).add j) = some u) := fun j u hj => NA.cells j u hj
  have HOWN : Hid ((w1.drew.alloc (.cells #[.int .i64 m.1, .slice pm m.2.length qm] 82)).ownsRow w0.heap.size 82 2 (.slice pn t.send.length qn) t.send.length xs) := HB.own.row
  have hbne : some b ≠ (Value.slice pn t.send.length qn).ownBlock := fun e => HB.b_out b (List.mem_append_left _ (mem_opt.2 e.symm)) rfl
  have HF6 : Hid (∀ w6, (w1.drew.alloc (.cells #[.int .i64 m.1, .slice pm m.2.length qm] 82)).grownBy w6 (Value.slice pn t.send.length qn).ownBlock → w6.cell? ⟨b, 13, none⟩ = some (.slice pn t.send.length qn) ∧ w6.frozen? ⟨b, 13, none⟩ = false) := fun w6 hg => by
    have A6 := HB.arr.other hg (fun e => hbne e.symm)
    exact ⟨(A6.cell 13).trans rfl, A6.frozen 13⟩
  have H63 : Hid (t.send.length + 1 ≤ maxLen) := by show _ ≤ _; have := HSL.out; unfold maxLen; omega
  have H32 : Hid ((t.send.length + 1) * 32 ≤ 140737488355328) := by show _ ≤ _; have := HSL.out; omega
  have HBZ : Hid (w0.heap.size ≤ (w1.drew.alloc (.cells #[.int .i64 m.1, .slice pm m.2.length qm] 82)).heap.size) := Nat.le_trans HW1.out BV.size
  have HALL : Hid (∀ u ∈ [Value.int .i64 m.1, .slice pm m.2.length qm], u.oneCell' = true) := by intro u hu; simp at hu; rcases hu with rfl | rfl <;> rfl
  obtain ⟨i0, hi, hz0, hz1, hz2⟩ := info_parts infoMsg
  have HI : Hid (Tryz.prog.info? 82 = some i0 ∧ i0.zero = some (.agg #[.int .i64 0, .slice none 0 0]) ∧ i0.size = 2 ∧ i0.bytes = 32) := ⟨hi, hz0, hz1, hz2⟩
  have HHB : Hid (ShkB w0 b (w1.drew.alloc (.cells #[.int .i64 m.1, .slice pm m.2.length qm] 82)) (.slice pn t.send.length qn) t.send xs f _) := HB
  have HHO : Hid (Own (w1.drew.alloc (.cells #[.int .i64 m.1, .slice pm m.2.length qm] 82)) w0.heap.size (.slice pm m.2.length qm) m.2) := ho
  have HHV : Hid (Below w1.heap.size w1 (w1.drew.alloc (.cells #[.int .i64 m.1, .slice pm m.2.length qm] 82))) := BV
  clear hi hz0 hz1 hz2 HB ho BV NA N hbne
  go_wp2_with fail
  go_region_law (refine step_append_lies _ rfl (.tmp 11) (.tmp 13) 27 rfl w0.heap.size 82 i0 (.agg #[.int .i64 0, .slice none 0 0]) 2 32 Tryz.underlying27 HI.out.1 HI.out.2.1 HI.out.2.2.1 HI.out.2.2.2 rfl (by decide) (.slice pn t.send.length qn) t.send.length xs (by simp [Act.eval]) HOWN.out ⟨w1.heap.size, 0, none⟩ 1 1 [.int .i64 m.1, .slice pm m.2.length qm] (by simp [Act.eval]) rfl hnew.out HALL.out (by decide) H63.out H32.out HBZ.out _ rfl ?_; intro g6 c6 w6 hown6 hgrow6 hat6 hlt6; obtain ⟨c13', fz'⟩ := HF6.out _ hgrow6)
  all_goals
    have HB := HHB.out
    have ho := HHO.out
    have BV := HHV.out
    clear HHB HHO HHV c13' fz' HF6
    replace hgrow6 : (w1.drew.alloc (.cells #[.int .i64 m.1, .slice pm m.2.length qm] 82)).grownBy w6 (Value.slice pn t.send.length qn).ownBlock := hgrow6
    replace hat6 : (Value.slice pn t.send.length qn).ownBlock = some g6 ∨ g6 = (w1.drew.alloc (.cells #[.int .i64 m.1, .slice pm m.2.length qm] 82)).heap.size := hat6
    generalize w1.drew.alloc (.cells #[.int .i64 m.1, .slice pm m.2.length qm] 82) = W at *
    have hbne : some b ≠ (Value.slice pn t.send.length qn).ownBlock := fun e => HB.b_out b (List.mem_append_left _ (mem_opt.2 e.symm)) rfl
    have hW1 : w1.heap.size ≤ W.heap.size := BV.size
    have OP := HB.own.push (msg_own_mk (a := m) ho) (fun j hj hj2 => HF.out j (mem_opt.1 hj) hj2) (k := t.send.length + 1) (v' := .slice (some ⟨g6, 0, none⟩) (t.send.length + 1) c6) (g := g6) hown6 (by simp) hgrow6 rfl hat6
    have A6 : Arr w6 b 141 _ := HB.arr.other hgrow6 (fun e => hbne e.symm)
    have ON6 : Only [b] w0 w6 := ⟨hgrow6.os.trans HB.only.os, hgrow6.tape.trans HB.only.tape, hgrow6.output.trans HB.only.output, Nat.le_trans HB.only.size hgrow6.size, fun k hk hn => (hgrow6.block k (Nat.lt_of_lt_of_le hk HB.only.size) (fun e => by
      have h1 := (HB.own.ins k (List.mem_append_left _ (mem_opt.2 e.symm))).1
      omega)).trans (HB.only.block k hk hn)⟩
    have HS0 : Sees (blank (hide b (.slice pn t.send.length qn)) w1) (blank (hide b (.slice (some ⟨g6, 0, none⟩) (t.send.length + 1) c6)) w6) := (blank_below BV).trans (blank_sees fun k hk hn => by
      have h1 : k ≠ b := fun e => hn (by rw [e]; exact List.mem_cons_self ..)
      have h2 : some k ≠ (Value.slice pn t.send.length qn).ownBlock := fun e => hn (List.mem_cons_of_mem _ (mem_opt.2 e.symm))
      refine ⟨fun hm => ?_, hgrow6.block k hk h2⟩
      rcases List.mem_cons.1 hm with h3 | h3
      · exact h1 h3
      · have h4 : g6 = k := (by simpa [Value.ownBlock] using h3 : k = g6).symm
        rcases hat6 with h5 | h5
        · exact h2 (by rw [h5, h4])
        · omega)
    have HLT0 : Hid (b < w0.heap.size) := HB.lt
    have hl1 : (t.send ++ [m]).length = t.send.length + 1 := by simp
    go_end0
    obtain ⟨ke, kh, ko, kk⟩ := HRest.out
    have HS : Sees (blank (hide b (.slice pn t.send.length qn)) w1) (blank (hide b (.slice (some ⟨g6, 0, none⟩) (t.send.length + 1) c6)) (w6.setCell ⟨b, 13, none⟩ (.slice (some ⟨g6, 0, none⟩) (t.send.length + 1) c6))) := HS0.trans (sees_set b 13 _ w6 _)
    have HBN : ShkB w0 b (w6.setCell ⟨b, 13, none⟩ (.slice (some ⟨g6, 0, none⟩) (t.send.length + 1) c6)) (.slice (some ⟨g6, 0, none⟩) (t.send.length + 1) c6) (t.send ++ [m]) _ _ _ := ShkB.set ⟨A6, ON6, HLT0.out, OP⟩ 13 (.slice (some ⟨g6, 0, none⟩) (t.send.length + 1) c6)
    exact ⟨rfl, _, _, _, _, _, _, _, HBN, endC_mono HS ke, ⟨ph, qh, rfl, kh.sees msgC_mono HS⟩, hello_mk (ko.sees HS), ⟨pk, qk, rfl, kk.sees HS⟩⟩
end Go.Proofs.YtdbpnibcblelbaaGreatDoor
/- Steps of the program at the start: askSide, sayHello, sayClientHello; StartClient. -/
namespace Go.Proofs.YtdbpnibcblelbaaGreatDoor
open Go.ChangeShapes Go.WideShapes Go.ChangeAt Go.RowKit
def keptD (t : ShkD) (m : MsgD) : ShkD := { t with e := eL t.e (t.e.2.2.2.1 ++ [m]) }
def saidD (t : ShkD) (m : MsgD) : ShkD := { t with e := eL t.e (t.e.2.2.2.1 ++ [m]), send := t.send ++ [m] }
section
variable {w0 w : World} {b : Nat} {t : ShkD}
theorem Shk.side (h : Shk w0 b w t) : ∃ p1 q1 p2 q2, w.cell? ⟨b, 0, none⟩ = some (.int .i64 t.e.1.1) ∧ w.cell? ⟨b, 1, none⟩ = some (.slice p1 t.e.1.2.1.length q1) ∧ w.cell? ⟨b, 2, none⟩ = some (.int .i64 t.e.1.2.2.1) ∧ w.cell? ⟨b, 3, none⟩ = some (.slice p2 t.e.1.2.2.2.length q2) ∧ Rd w p1 q1 t.e.1.2.1 ∧ Rd w p2 q2 t.e.1.2.2.2 := by
  obtain ⟨us, vh, vs, ho, vk, xs, f, HB, RE, RH, RO, RK⟩ := h
  obtain ⟨p1, q1, p2, q2, p3, q3, p4, q4, p5, q5, p6, q6, p7, q7, p8, q8, rfl, r1, r2, r3, r4, r5, r6, r7, r8⟩ := end_rep RE
  obtain ⟨ph, qh, eh, rh⟩ := RH
  obtain ⟨po, qo, rfl, ro⟩ := hello_rep RO
  obtain ⟨pk, qk, ek, rk⟩ := RK
  obtain ⟨pn, qn, en, -⟩ := HB.own.rd
  simp only [List.cons.injEq, and_true] at eh ek
  subst eh ek en
  simp only [List.cons_append, List.nil_append] at HB
  have A := HB.arr
  exact ⟨p1, q1, p2, q2, A.cell 0, A.cell 1, A.cell 2, A.cell 3, r1.sees (blank_le _ _), r2.sees (blank_le _ _)⟩
theorem Shk.stage (h : Shk w0 b w t) : w.cell? ⟨b, 4, none⟩ = some (.int .i64 t.e.2.1) ∧ w.cell? ⟨b, 5, none⟩ = some (.int .i64 t.e.2.2.1) ∧ (∀ o, w.frozen? ⟨b, o, none⟩ = false) := by
  obtain ⟨us, vh, vs, ho, vk, xs, f, HB, RE, RH, RO, RK⟩ := h
  obtain ⟨p1, q1, p2, q2, p3, q3, p4, q4, p5, q5, p6, q6, p7, q7, p8, q8, rfl, r1, r2, r3, r4, r5, r6, r7, r8⟩ := end_rep RE
  obtain ⟨ph, qh, eh, rh⟩ := RH
  obtain ⟨po, qo, rfl, ro⟩ := hello_rep RO
  obtain ⟨pk, qk, ek, rk⟩ := RK
  obtain ⟨pn, qn, en, -⟩ := HB.own.rd
  simp only [List.cons.injEq, and_true] at eh ek
  subst eh ek en
  simp only [List.cons_append, List.nil_append] at HB
  have A := HB.arr
  exact ⟨A.cell 4, A.cell 5, A.frozen⟩
theorem Shk.setStage (h : Shk w0 b w t) (k : Int) : Shk w0 b (w.setCell ⟨b, 4, none⟩ (.int .i64 k)) { t with e := eSt t.e k } := by
  obtain ⟨us, vh, vs, ho, vk, xs, f, HB, RE, RH, RO, RK⟩ := h
  obtain ⟨p1, q1, p2, q2, p3, q3, p4, q4, p5, q5, p6, q6, p7, q7, p8, q8, rfl, r1, r2, r3, r4, r5, r6, r7, r8⟩ := end_rep RE
  obtain ⟨ph, qh, eh, rh⟩ := RH
  obtain ⟨po, qo, rfl, ro⟩ := hello_rep RO
  obtain ⟨pk, qk, ek, rk⟩ := RK
  obtain ⟨pn, qn, en, -⟩ := HB.own.rd
  simp only [List.cons.injEq, and_true] at eh ek
  subst eh ek en
  simp only [List.cons_append, List.nil_append] at HB
  have A := HB.arr
  have HS := sees_set b 4 (.int .i64 k) w (.slice pn t.send.length qn)
  exact ⟨_, _, _, _, _, xs, f, HB.set 4 (.int .i64 k), end_mk (a := eSt t.e k) (r1.sees HS) (r2.sees HS) (r3.sees msgC_mono HS) (r4.sees HS) (r5.sees HS) (r6.sees HS) (r7.sees HS) (r8.sees HS), ⟨ph, qh, rfl, rh.sees msgC_mono HS⟩, hello_mk (ro.sees HS), ⟨pk, qk, rfl, rk.sees HS⟩⟩
theorem Shk.setMode (h : Shk w0 b w t) (k : Int) : Shk w0 b (w.setCell ⟨b, 5, none⟩ (.int .i64 k)) { t with e := eMo t.e k } := by
  obtain ⟨us, vh, vs, ho, vk, xs, f, HB, RE, RH, RO, RK⟩ := h
  obtain ⟨p1, q1, p2, q2, p3, q3, p4, q4, p5, q5, p6, q6, p7, q7, p8, q8, rfl, r1, r2, r3, r4, r5, r6, r7, r8⟩ := end_rep RE
  obtain ⟨ph, qh, eh, rh⟩ := RH
  obtain ⟨po, qo, rfl, ro⟩ := hello_rep RO
  obtain ⟨pk, qk, ek, rk⟩ := RK
  obtain ⟨pn, qn, en, -⟩ := HB.own.rd
  simp only [List.cons.injEq, and_true] at eh ek
  subst eh ek en
  simp only [List.cons_append, List.nil_append] at HB
  have A := HB.arr
  have HS := sees_set b 5 (.int .i64 k) w (.slice pn t.send.length qn)
  exact ⟨_, _, _, _, _, xs, f, HB.set 5 (.int .i64 k), end_mk (a := eMo t.e k) (r1.sees HS) (r2.sees HS) (r3.sees msgC_mono HS) (r4.sees HS) (r5.sees HS) (r6.sees HS) (r7.sees HS) (r8.sees HS), ⟨ph, qh, rfl, rh.sees msgC_mono HS⟩, hello_mk (ro.sees HS), ⟨pk, qk, rfl, rk.sees HS⟩⟩
end
set_option maxRecDepth 4000 in
set_option maxHeartbeats 1000000 in
theorem askSide_c (w0 : World) (b : Nat) (w : World) (t : ShkD) (h : Shk w0 b w t) :
    Calls Tryz.prog 92 #[.pointer (some ⟨b, 0, none⟩)] w fun x w' => (x = .returned (.tuple #[]) ∧ sfC t.e.1 = 0 ∧ Shk w0 b w' t) ∨ ∃ c, x = .panicked (refV c) ∧ Only [b] w0 w' ∧ sfC t.e.1 = c ∧ c ≠ 0 := by
  obtain ⟨p1, q1, p2, q2, c0, c1, c2, c3, r1, r2⟩ := h.side
  have KS := implSi_k t.e.1 _ w (side_mk r1 r2)
  have HS : Hid (Shk w0 b w t) := h
  clear r1 r2 h
  by_cases hs : sfC t.e.1 = 0
  · rw [hs] at KS
    have HC : Hid (sfC t.e.1 = 0) := hs
    clear hs
    go_enter Tryz.func92, Tryz.ntmps92
    go_wp2_with fail
    refine KS.mono ?_
    rintro x w1 ⟨rfl, hb1⟩
    go_wp2_with fail
    refine (refuse_ok _).mono ?_
    rintro x w2 ⟨rfl, rfl⟩
    go_wp2
    go_end0
    exact .inl ⟨rfl, HC.out, HS.out.stay hb1⟩
  · obtain ⟨c, HC⟩ : ∃ c, Hid (sfC t.e.1 = c ∧ c ≠ 0) := ⟨_, rfl, hs⟩
    rw [HC.out.1] at KS
    clear hs
    go_enter Tryz.func92, Tryz.ntmps92
    go_wp2_with fail
    refine KS.mono ?_
    rintro x w1 ⟨rfl, hb1⟩
    go_wp2_with fail
    refine (refuse_bad c _ HC.out.2).mono ?_
    rintro x w2 ⟨rfl, rfl⟩
    exact ⟨rfl, .inr ⟨c, rfl, (HS.out.stay hb1).only, HC.out.1, HC.out.2⟩⟩
theorem shV_is {s : SideD} (h : sfC s = 0) : shC s.1 = 0 ∧ shV s.1 = shareN s := by
  have hp := sf_parts h
  have h1 : inB s.1 1 65519 = true := by simp [inB, hp.1, hp.2.1]
  have h2 : shC s.1 = 0 := by simp [shC, h1]
  exact ⟨h2, by rw [shV, if_pos h2]; rfl⟩
theorem phD_is {s : SideD} {kind psk : Int} (h : sfC s = 0) (h0 : 0 ≤ psk) (h9 : psk ≤ 9) (hk : kind = 1 ∨ kind = 2) : phD kind (helH s psk) = (0, helM s kind psk) := by
  have hc : phC kind (helH s psk) = 0 := by
    have hkb : hkB kind = true := by rcases hk with rfl | rfl <;> rfl
    rw [phC, if_pos hkb, helH_ok h h0 h9]
  rw [phD, if_pos hc]
  rfl
theorem msgR_f1 (c k : Int) (a : Option Addr) (n m : Nat) (w : World) : (Instr.field 249 (.agg #[.int .i64 c, .int .i64 k, .slice a n m]) 1).run Tryz.prog w = .ok (.agg #[.int .i64 k, .slice a n m]) w := by kernel_rfl
set_option maxRecDepth 4000 in
set_option maxHeartbeats 2000000 in
theorem sayHello_c (w0 : World) (b : Nat) (w : World) (t : ShkD) (kind psk : Int) (h : Shk w0 b w t) (hs : sfC t.e.1 = 0) (h0 : 0 ≤ psk) (h9 : psk ≤ 9) (hk : kind = 1 ∨ kind = 2) (hl : t.e.2.2.2.1.length ≤ 1000) (hsl : t.send.length ≤ 1000) :
    Calls Tryz.prog 160 #[.pointer (some ⟨b, 0, none⟩), .int .i64 kind, .int .i64 psk] w fun x w' => x = .returned (.tuple #[]) ∧ Shk w0 b w' (saidD t (helM t.e.1 kind psk)) := by
  obtain ⟨p1, q1, p2, q2, c0, c1, c2, c3, r1, r2⟩ := h.side
  have HS : Hid (Shk w0 b w t) := h
  have HR1 : Hid (Rd w p1 q1 t.e.1.2.1) := r1
  obtain ⟨sh, HSH⟩ : ∃ sh, Hid (sh = shareN t.e.1) := ⟨_, rfl⟩
  have KSh : Hid (∀ w, Calls Tryz.prog 209 #[.int .i64 t.e.1.1] w fun x w' => x = .returned (.agg #[.int .i64 0, .int .i64 sh]) ∧ Below w.heap.size w w') := fun w => by
    have h := implSh_c t.e.1.1 w
    rw [(shV_is hs).1, (shV_is hs).2, ← HSH.out] at h
    exact h
  obtain ⟨M, HM⟩ : ∃ M, Hid (M = helM t.e.1 kind psk) := ⟨_, rfl⟩
  have KPh : Hid (∀ w p q, Rd w p q t.e.1.2.1 → Calls Tryz.prog 211 #[.int .i64 kind, .agg #[.slice p t.e.1.2.1.length q, .int .i64 sh, .int .i64 psk]] w fun x w' => ∃ pm qm, x = .returned (.agg #[.int .i64 0, .int .i64 M.1, .slice pm M.2.length qm]) ∧ Own w' w.heap.size (.slice pm M.2.length qm) M.2 ∧ Below w.heap.size w w') := fun w p q r => by
    have h := implPh_k kind (helH t.e.1 psk) _ w (hello_mk (a := helH t.e.1 psk) r)
    rw [phD_is hs h0 h9 hk, ← HM.out] at h
    rw [HSH.out]
    refine h.mono ?_
    rintro x w' ⟨us, fp, rfl, ko, hb⟩
    obtain ⟨u1, u2, f1, f2, e1, -, -, k1, u3, u4, f3, f4, e2, -, -, k2, v, e3, ow, -⟩ := ko
    obtain ⟨rfl, -⟩ := k1
    obtain ⟨rfl, -⟩ := k2
    obtain ⟨pm, qm, rfl, -⟩ := ow.rd
    subst e3 e2 e1
    exact ⟨pm, qm, rfl, ow, hb⟩
  have HLL : Hid (t.e.2.2.2.1.length ≤ 1000 ∧ t.send.length ≤ 1000) := ⟨hl, hsl⟩
  rw [← HM.out]
  clear r1 r2 h hs h0 h9 hk hl hsl HSH HM
  have BW := alloc_below w (.cells #[.int .i64 t.e.1.1, .slice p1 t.e.1.2.1.length q1, .int .i64 t.e.1.2.2.1, .slice p2 t.e.1.2.2.2.length q2] 26)
  have N := Arr.new w [.int .i64 t.e.1.1, .slice p1 t.e.1.2.1.length q1, .int .i64 t.e.1.2.2.1, .slice p2 t.e.1.2.2.2.length q2] 26
  go_enter Tryz.func160, Tryz.ntmps160
  go_wp2_with fail
  generalize w.alloc (.cells #[.int .i64 t.e.1.1, .slice p1 t.e.1.2.1.length q1, .int .i64 t.e.1.2.2.1, .slice p2 t.e.1.2.2.2.length q2] 26) = V at *
  clear c0 c1 c2 c3
  have hf1 := fun w => int_f1 0 sh w
  apply share
  case h =>
    intro JN
    have BB := Below.refl V.heap.size V
    have hne := HW.some V
    have k0 := HW.at ((N.cell 0).trans (show _ = some _ from rfl))
    have k1 := HW.at ((N.cell 1).trans (show _ = some _ from rfl))
    refine wp_region_pick [0, 1, 2, 3, 6] 9 4 1 rfl rfl rfl (by kernel_rfl) (by kernel_rfl) (by kernel_rfl) (by kernel_rfl) ?_
    simp only [opsAt, List.getElem?_toArray, List.getElem?_cons_zero, List.getElem?_cons_succ]
    repeat (go_big_quiet_step (fail))
    refine wpQuiet_nil ?_
    clear k0 k1
    refine wpM_two (i := 4) (j := 8) (by kernel_rfl) ?_ ?_
    · skip
      refine mOp_call rfl (by go_simp) 209 _ #[.int .i64 t.e.1.1] (fun w => by go_simp) rfl ?_
      rintro _ ⟨sg, rfl⟩
      refine (KSh.out _).mono ?_
      rintro e wg1 ⟨rfl, hbx⟩
      have hbg := Below.step sg.h hbx
      refine ⟨_, rfl, ⟨⟨wg1, hbx⟩, rfl⟩, ?_⟩
      replace BB := Below.step BB hbg
      clear hbg hbx sg
      replace hne := HW.some wg1
      refine wpM_more [5, 7] 3 1 rfl (by kernel_rfl) (by kernel_rfl) (by kernel_rfl) (by kernel_rfl) ?_
      simp only [opsAt, List.getElem?_toArray, List.getElem?_cons_zero, List.getElem?_cons_succ]
      go_simp
      repeat (go_big_quiet_step (fail))
      refine wpQuiet_nil ?_
      refine wpM_only (i := 8) (by kernel_rfl) ?_
      refine mOp_make rfl (by go_simp) ?_
      rintro _ ⟨sg, rfl⟩
      refine ⟨.pointer (some ⟨sg.w.heap.size, 0, none⟩), sg.w.alloc (.cells #[.slice none 0 0, .int .i64 0, .int .i64 0] 139), by go_simp, ⟨⟨_, alloc_below _ _⟩, rfl⟩, ?_⟩
      have hbg := Below.step sg.h (alloc_below sg.w (.cells #[.slice none 0 0, .int .i64 0, .int .i64 0] 139))
      have AH := Arr.new sg.w [.slice none 0 0, .int .i64 0, .int .i64 0] 139
      have GH := (show Hid (V.heap.size ≤ sg.w.heap.size) from (Below.step BB sg.h).size)
      replace BB := Below.step BB hbg
      clear hbg
      replace hne := HW.some (sg.w.alloc (.cells #[.slice none 0 0, .int .i64 0, .int .i64 0] 139))
      generalize hW : (sg.w.alloc (.cells #[.slice none 0 0, .int .i64 0, .int .i64 0] 139)) = wg2 at *
      clear hW
      generalize sg.w.heap.size = gh at *
      clear sg
      refine wpM_end (by kernel_rfl) rfl (by kernel_rfl) (by decide) ?_
      rintro _ ⟨sz, rfl⟩
      simp only [List.drop_succ_cons, List.drop_zero]
      go_simp
      replace AH := AH.stay sz.h
      replace BB := Below.step BB sz.h
      clear hne
      generalize sz.w = W at *
      clear sz
      revert GH
      revert AH
      revert BB
      revert gh
      revert W
      exact JN.out
    · skip
      refine mOp_make rfl (by go_simp) ?_
      rintro _ ⟨sg, rfl⟩
      refine ⟨.pointer (some ⟨sg.w.heap.size, 0, none⟩), sg.w.alloc (.cells #[.slice none 0 0, .int .i64 0, .int .i64 0] 139), by go_simp, ⟨⟨_, alloc_below _ _⟩, rfl⟩, ?_⟩
      have hbg := Below.step sg.h (alloc_below sg.w (.cells #[.slice none 0 0, .int .i64 0, .int .i64 0] 139))
      have AH := Arr.new sg.w [.slice none 0 0, .int .i64 0, .int .i64 0] 139
      have GH := (show Hid (V.heap.size ≤ sg.w.heap.size) from (Below.step BB sg.h).size)
      replace BB := Below.step BB hbg
      clear hbg
      replace hne := HW.some (sg.w.alloc (.cells #[.slice none 0 0, .int .i64 0, .int .i64 0] 139))
      generalize hW : (sg.w.alloc (.cells #[.slice none 0 0, .int .i64 0, .int .i64 0] 139)) = wg3 at *
      clear hW
      generalize sg.w.heap.size = gh at *
      clear sg
      refine wpM_only (i := 4) (by kernel_rfl) ?_
      refine mOp_call rfl (by go_simp) 209 _ #[.int .i64 t.e.1.1] (fun w => by go_simp) rfl ?_
      rintro _ ⟨sg, rfl⟩
      refine (KSh.out _).mono ?_
      rintro e wg4 ⟨rfl, hbx⟩
      have hbg := Below.step sg.h hbx
      refine ⟨_, rfl, ⟨⟨wg4, hbx⟩, rfl⟩, ?_⟩
      replace AH := AH.stay hbg
      replace BB := Below.step BB hbg
      clear hbg hbx sg
      replace hne := HW.some wg4
      refine wpM_more [5, 7] 2 0 rfl (by kernel_rfl) (by kernel_rfl) (by kernel_rfl) (by kernel_rfl) ?_
      simp only [opsAt, List.getElem?_toArray, List.getElem?_cons_zero, List.getElem?_cons_succ]
      go_simp
      repeat (go_big_quiet_step (fail))
      refine wpQuiet_nil ?_
      refine wpM_end (by kernel_rfl) rfl (by kernel_rfl) (by decide) ?_
      rintro _ ⟨sz, rfl⟩
      simp only [List.drop_succ_cons, List.drop_zero]
      go_simp
      replace AH := AH.stay sz.h
      replace BB := Below.step BB sz.h
      clear hne
      generalize sz.w = W at *
      clear sz
      revert GH
      revert AH
      revert BB
      revert gh
      revert W
      exact JN.out
  intro W gh BB AH GH
  replace BW := Below.step BW BB
  have HWZ : Hid (w.heap.size ≤ gh) := by show _ ≤ _; have := GH.out; have := N.lt; omega
  have hres : Hid ((Tryz.prog.info? 139).map (·.size) = some 3) := by show _ = _; kernel_rfl
  clear BB N
  refine wpList_store_row rfl 139 (.tmp 7) (.tmp 20) rfl gh #[.slice p1 t.e.1.2.1.length q1, .int .i64 sh, .int .i64 psk] rfl rfl 139 #[.slice none 0 0, .int .i64 0, .int .i64 0] AH hres.out rfl (by simp [Value.oneCell']) ?_
  have A2 := AH.row [.slice p1 t.e.1.2.1.length q1, .int .i64 sh, .int .i64 psk]
  replace BW := Below.row BW HWZ.out #[.slice p1 t.e.1.2.1.length q1, .int .i64 sh, .int .i64 psk]
  generalize W.setRow gh #[.slice p1 t.e.1.2.1.length q1, .int .i64 sh, .int .i64 psk] = W2 at *
  have k0 := (A2.cell 0).trans (show _ = some _ from rfl)
  have k1 := (A2.cell 1).trans (show _ = some _ from rfl)
  have k2 := (A2.cell 2).trans (show _ = some _ from rfl)
  clear AH A2
  go_wp2_with fail
  refine (KPh.out W2 p1 q1 (HR1.out.keep BW)).mono ?_
  rintro x w3 ⟨pm, qm, rfl, ko, hb3⟩
  have hf2 := msgR_f1 0 M.1 pm M.2.length qm w3
  have HS3 := HS.out.stay (Below.step BW hb3)
  obtain ⟨vs, f, hv⟩ := (HS.out.stay BW).v
  have HIN : Hid (∀ k, k ∈ vs.ownBlock.toList ++ f → k < W2.heap.size) := fun k hk => (hv.ins k hk).2
  have hv3 := hv.stay hb3
  have KSAY := say_c w0 b w3 t vs f M pm qm hv3 (ko.lower hv.blt.2) (fun k hk hm => by have := ko.ge k hk; have := HIN.out k hm; omega) HLL.out.1 HLL.out.2
  clear hv hv3 HS3 ko k0 k1 k2 hb3 BW
  go_wp2_with fail
  refine KSAY.mono ?_
  rintro x w4 ⟨rfl, hfin⟩
  go_wp2
  go_end0
  exact ⟨rfl, hfin⟩
set_option maxRecDepth 4000 in
set_option maxHeartbeats 1000000 in
theorem sayClientHello_c (w0 : World) (b : Nat) (w : World) (t : ShkD) (h : Shk w0 b w t) (hs : sfC t.e.1 = 0) (hl : t.e.2.2.2.1.length ≤ 1000) (hsl : t.send.length ≤ 1000) :
    Calls Tryz.prog 93 #[.pointer (some ⟨b, 0, none⟩)] w fun x w' => x = .returned (.tuple #[]) ∧ Shk w0 b w' { saidD t (helM t.e.1 1 t.e.1.2.2.1) with e := eSt (saidD t (helM t.e.1 1 t.e.1.2.2.1)).e 1 } := by
  obtain ⟨p1, q1, p2, q2, -, -, c2, -, -, -⟩ := h.side
  have hp := sf_parts hs
  have KS := sayHello_c w0 b w t 1 t.e.1.2.2.1 h hs hp.2.2.1 hp.2.2.2.1 (.inl rfl) hl hsl
  clear h hs hl hsl hp
  go_enter Tryz.func93, Tryz.ntmps93
  go_wp2_with fail
  refine KS.mono ?_
  rintro x w1 ⟨rfl, h⟩
  obtain ⟨c4, -, fz⟩ := h.stage
  have HF := h.setStage 1
  clear KS c2 h
  go_wp2
  go_end0
  exact ⟨rfl, HF⟩
theorem rd_nilK (w : World) : Rd w none 0 [] := ⟨Nat.le_refl _, by unfold maxLen; omega, fun _ => rfl, fun hp => absurd hp (by simp)⟩
theorem rdL_nil {α : Type} {c : Cod α} (w : World) : RdL c w none 0 [] := ⟨Nat.le_refl _, by unfold maxLen; omega, fun _ => rfl, fun hp => absurd hp (by simp)⟩
theorem shk_new (w0 w : World) (b : Nat) (heard : List MsgD) (e : EndD) (us : List Value) (vh : Value) (A : Arr w b 141 (us ++ [vh, .slice none 0 0, .slice none 0 0, .int .i64 0, .int .i64 0, .slice none 0 0])) (ho : Only [b] w0 w) (hb : b < w0.heap.size) (hu : endC.rep (blank [b] w) e us) (hh : msgsC.rep (blank [b] w) heard [vh]) :
    Shk w0 b w ⟨e, heard, [], ([], 0, 0), []⟩ :=
  ⟨us, vh, .slice none 0 0, [.slice none 0 0, .int .i64 0, .int .i64 0], .slice none 0 0, [], [], ⟨A, ho, hb, nil_ownM _ _⟩, hu, hh, hello_mk (a := ([], 0, 0)) (rd_nilK _), ⟨none, 0, rfl, rd_nilK _⟩⟩
end Go.Proofs.YtdbpnibcblelbaaGreatDoor
