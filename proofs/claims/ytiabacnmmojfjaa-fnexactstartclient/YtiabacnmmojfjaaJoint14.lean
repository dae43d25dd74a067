/- The contracts of chapter 10's functions in the specification: faults, kinds, packing, at every argument. What was there stays. -/
import Derived.Test.YtiabacnmmojfjaaJoint10
import Derived.Test.YtiabacnmmojfjaaJoint13
import Derived.Test.YtiabacnmmojfjaaJoint12
import Derived.Handy
import Derived.Deep.AppendLies
namespace Go.Proofs.Ytiabacnmmojfjaa
open Go.ChangeShapes Go.WideShapes Go.ChangeAt Go.RowKit

theorem rdl_three (w : World) (x y z : Pc) (t : TypeId) (hx : Rd w x.p x.q x.bs) (hy : Rd w y.p y.q y.bs) (hz : Rd w z.p z.q z.bs) :
    RdL bytC (w.alloc (.cells #[x.val, y.val, z.val] t)) (some ⟨w.heap.size, 0, none⟩) 3 [x.bs, y.bs, z.bs] := by
  have hb := alloc_below w (.cells #[x.val, y.val, z.val] t)
  have A := Arr.new w [x.val, y.val, z.val] t
  refine ⟨by simp, by unfold maxLen; decide, (fun e => by cases e), fun _ => ⟨w.heap.size, 0, rfl, fun i a hi => ?_⟩⟩
  match i, hi with
  | 0, hi => cases hi; exact ⟨[x.val], ⟨x.p, x.q, rfl, hx.keep hb⟩, fun j u hj => by
      match j, hj with
      | 0, hj => cases hj; exact A.cell 0⟩
  | 1, hi => cases hi; exact ⟨[y.val], ⟨y.p, y.q, rfl, hy.keep hb⟩, fun j u hj => by
      match j, hj with
      | 0, hj => cases hj; exact A.cell 1⟩
  | 2, hi => cases hi; exact ⟨[z.val], ⟨z.p, z.q, rfl, hz.keep hb⟩, fun j u hj => by
      match j, hj with
      | 0, hj => cases hj; exact A.cell 2⟩
set_option maxRecDepth 4000 in
set_option maxHeartbeats 1000000 in
theorem l10Pack_c (k : Int) (b : Nat) (h : HelloD) (p : Option Addr) (q : Nat) (w : World) (A : Arr w b 79 [.slice p h.1.length q, .int .i64 h.2.1, .int .i64 h.2.2]) (hr : Rd w p q h.1) (hc : hfC h = 0) :
    Calls Try.prog 60 #[.int .i64 k, .pointer (some ⟨b, 0, none⟩)] w fun e w' => ∃ u, e = .returned (.agg #[.int .i64 k, u]) ∧ Own w' w.heap.size u (hpL h) ∧ Below w.heap.size w w' := by
  obtain ⟨p1, p2, p3, p4, p5⟩ := hf_parts hc
  have HLen : Hid ((hpL h).length = 14) := hpL_len hc
  have HR : Hid (Rd w p q h.1) := hr
  have BW := alloc_below w (.cells #[.int .i64 0, .slice none 0 0] 67)
  have R := Arr.new w [.int .i64 0, .slice none 0 0] 67
  replace A := A.stay BW
  have hz0 : Hid ((w.alloc (.cells #[.int .i64 0, .slice none 0 0] 67)).heap.size = w.heap.size + 1) := size_alloc _ _
  have KP : Hid (∀ w, Calls Try.prog 71 #[.int .i64 h.2.1, .int .i64 2] w fun e w' => ∃ u, e = .returned u ∧ Own w' w.heap.size u (putB h.2.1.toNat 2) ∧ Below w.heap.size w w') := fun w => by
    have hh := l1Put_c h.2.1.toNat 2 w (by omega) (by decide)
    rw [show ((h.2.1.toNat : Nat) : Int) = h.2.1 by omega] at hh
    exact hh
  have HKB : Hid (h.2.2 = ((UInt8.ofNat h.2.2.toNat).toNat : Int)) := by show _ = _; rw [UInt8.toNat_ofNat']; omega
  clear hr hc p1
  have g0 := HW.at ((A.cell 0).trans (show _ = some _ from rfl))
  have g1 := HW.at ((A.cell 1).trans (show _ = some _ from rfl))
  have g2 := HW.at ((A.cell 2).trans (show _ = some _ from rfl))
  have hne := HW.some (w.alloc (.cells #[.int .i64 0, .slice none 0 0] 67))
  go_enter Try.func60, Try.ntmps60
  go_wp2_with fail
  refine wp_region_pick [0, 1, 2, 3, 4, 5, 6, 7, 8, 10, 11, 12, 13, 14] 18 4 2 rfl rfl rfl (by kernel_rfl) (by kernel_rfl) (by kernel_rfl) (by kernel_rfl) ?_
  simp only [opsAt, List.getElem?_toArray, List.getElem?_cons_zero, List.getElem?_cons_succ]
  repeat (go_big_quiet_step (fail))
  refine wpQuiet_nil ?_
  clear g0 g1 g2
  refine wpM_two (i := 9) (j := 15) (by kernel_rfl) ?_ ?_
  · refine mOp_call rfl (by go_simp) 71 _ #[.int .i64 h.2.1, .int .i64 2] (fun w => by go_simp) rfl ?_
    rintro _ ⟨s9, rfl⟩
    refine (KP.out _).mono ?_
    rintro e w9 ⟨u9, rfl, k9, hb9⟩
    obtain ⟨a9, c9, rfl, -⟩ := k9.rd
    rw [putB_len] at k9 ⊢
    refine ⟨_, rfl, ⟨⟨_, hb9⟩, rfl⟩, ?_⟩
    have hbc := Below.step s9.h hb9
    have hne2 := HW.some w9
    refine wpM_only (i := 15) (by kernel_rfl) ?_
    refine mOp_make rfl (by go_simp) ?_
    rintro _ ⟨sa, rfl⟩
    refine ⟨.slice (some ⟨sa.w.heap.size, 0, none⟩) 1 1, sa.w.alloc (.cells #[.int .u8 h.2.2] 5), by go_simp, ⟨⟨_, alloc_below _ _⟩, rfl⟩, ?_⟩
    have hba := Below.step sa.h (alloc_below sa.w (.cells #[.int .u8 h.2.2] 5))
    have rk := rd_new sa.w [.int .u8 h.2.2] [UInt8.ofNat h.2.2.toNat] 5 1 (by simp only [List.map_cons, List.map_nil, u8v]; rw [← HKB.out]) rfl (by decide)
    have rp := (Rd.own k9).keep hba
    have BV := Below.step BW (Below.step hbc hba)
    replace R := R.stay (Below.step hbc hba)
    generalize sa.w.heap.size = gk at *
    generalize sa.w.alloc (.cells #[.int .u8 h.2.2] 5) = wk at *
    clear hba hbc hb9 k9 hne hne2 A
    have hne3 := HW.some wk
    refine wpM_only (i := 16) (by kernel_rfl) ?_
    refine mOp_make rfl (by go_simp) ?_
    rintro _ ⟨sb, rfl⟩
    refine ⟨.slice (some ⟨sb.w.heap.size, 0, none⟩) 3 3, sb.w.alloc (.cells #[.slice p h.1.length q, .slice a9 2 c9, .slice (some ⟨gk, 0, none⟩) 1 1] 22), by go_simp, ⟨⟨_, alloc_below _ _⟩, rfl⟩, ?_⟩
    have r3 := rdl_three sb.w ⟨p, q, h.1⟩ ⟨a9, c9, putB h.2.1.toNat 2⟩ ⟨some ⟨gk, 0, none⟩, 1, [UInt8.ofNat h.2.2.toNat]⟩ 22 (HR.out.keep (Below.step BV sb.h)) (rp.keep sb.h) (rk.keep sb.h)
    simp only [Pc.val, putB_len, List.length_singleton] at r3
    have hbb := Below.step sb.h (alloc_below sb.w (.cells #[.slice p h.1.length q, .slice a9 2 c9, .slice (some ⟨gk, 0, none⟩) 1 1] 22))
    replace R := R.stay hbb
    replace BV := Below.step BV hbb
    generalize sb.w.heap.size = gb at *
    generalize sb.w.alloc (.cells #[.slice p h.1.length q, .slice a9 2 c9, .slice (some ⟨gk, 0, none⟩) 1 1] 22) = wb at *
    clear hbb
    have hne4 := HW.some wb
    refine wpM_only (i := 17) (by kernel_rfl) ?_
    refine mOp_call rfl (by go_simp) 70 _ #[.slice (some ⟨gb, 0, none⟩) 3 3] (fun w => by go_simp) rfl ?_
    rintro _ ⟨sc, rfl⟩
    refine (l6Blocks_c (hpB h) (some ⟨gb, 0, none⟩) 3 _ (r3.keep sc.h) (by have := HLen.out; unfold hpL at this; omega)).mono ?_
    rintro e wc ⟨uc, rfl, kc, hbx⟩
    obtain ⟨ac, cc, rfl, -⟩ := kc.rd
    refine ⟨_, rfl, ⟨⟨_, hbx⟩, rfl⟩, ?_⟩
    have hbd := Below.step sc.h hbx
    replace kc := kc.lower (show w.heap.size + 1 ≤ sc.w.heap.size from Nat.le_trans (show w.heap.size + 1 ≤ wb.heap.size from R.lt) sc.h.size)
    replace R := R.stay hbd
    replace BV := Below.step BV hbd
    clear hbd hbx
    refine wpM_end (by kernel_rfl) rfl (by kernel_rfl) (by decide) ?_
    rintro _ ⟨sz, rfl⟩
    simp only [List.drop_succ_cons, List.drop_zero]
    replace R := R.stay sz.h
    replace kc := kc.stay sz.h
    replace BV := Below.step BV sz.h
    generalize sz.w = wz at *
    have t0 := (R.cell 0).trans (show _ = some _ from rfl)
    have t1 := (R.cell 1).trans (show _ = some _ from rfl)
    have ft := R.frozen
    go_wp2_with fail
    exact bodyPost_ret (v := .agg #[.int .i64 k, .slice ac (blksN (hpB h)).length cc]) (by simp [results, Try.results60, go_sem, t0, t1]) rfl ⟨_, rfl, ((kc.set (Nat.lt_succ_self _) _).set (Nat.lt_succ_self _) _).lower (Nat.le_succ _), (BV.setCell (Nat.le_refl _) _).setCell (Nat.le_refl _) _⟩
  · refine mOp_make rfl (by go_simp) ?_
    rintro _ ⟨sa, rfl⟩
    refine ⟨.slice (some ⟨sa.w.heap.size, 0, none⟩) 1 1, sa.w.alloc (.cells #[.int .u8 h.2.2] 5), by go_simp, ⟨⟨_, alloc_below _ _⟩, rfl⟩, ?_⟩
    have hba := Below.step sa.h (alloc_below sa.w (.cells #[.int .u8 h.2.2] 5))
    have rk := rd_new sa.w [.int .u8 h.2.2] [UInt8.ofNat h.2.2.toNat] 5 1 (by simp only [List.map_cons, List.map_nil, u8v]; rw [← HKB.out]) rfl (by decide)
    generalize sa.w.heap.size = gk at *
    generalize sa.w.alloc (.cells #[.int .u8 h.2.2] 5) = wk at *
    have hne2 := HW.some wk
    refine wpM_only (i := 9) (by kernel_rfl) ?_
    refine mOp_call rfl (by go_simp) 71 _ #[.int .i64 h.2.1, .int .i64 2] (fun w => by go_simp) rfl ?_
    rintro _ ⟨s9, rfl⟩
    refine (KP.out _).mono ?_
    rintro e w9 ⟨u9, rfl, k9, hb9⟩
    obtain ⟨a9, c9, rfl, -⟩ := k9.rd
    rw [putB_len] at k9 ⊢
    refine ⟨_, rfl, ⟨⟨_, hb9⟩, rfl⟩, ?_⟩
    have hbc := Below.step s9.h hb9
    have rp := Rd.own k9
    replace rk := rk.keep hbc
    have BV := Below.step BW (Below.step hba hbc)
    replace R := R.stay (Below.step hba hbc)
    clear hba hbc hb9 k9 hne hne2 A
    have hne3 := HW.some w9
    refine wpM_only (i := 16) (by kernel_rfl) ?_
    refine mOp_make rfl (by go_simp) ?_
    rintro _ ⟨sb, rfl⟩
    refine ⟨.slice (some ⟨sb.w.heap.size, 0, none⟩) 3 3, sb.w.alloc (.cells #[.slice p h.1.length q, .slice a9 2 c9, .slice (some ⟨gk, 0, none⟩) 1 1] 22), by go_simp, ⟨⟨_, alloc_below _ _⟩, rfl⟩, ?_⟩
    have r3 := rdl_three sb.w ⟨p, q, h.1⟩ ⟨a9, c9, putB h.2.1.toNat 2⟩ ⟨some ⟨gk, 0, none⟩, 1, [UInt8.ofNat h.2.2.toNat]⟩ 22 (HR.out.keep (Below.step BV sb.h)) (rp.keep sb.h) (rk.keep sb.h)
    simp only [Pc.val, putB_len, List.length_singleton] at r3
    have hbb := Below.step sb.h (alloc_below sb.w (.cells #[.slice p h.1.length q, .slice a9 2 c9, .slice (some ⟨gk, 0, none⟩) 1 1] 22))
    replace R := R.stay hbb
    replace BV := Below.step BV hbb
    generalize sb.w.heap.size = gb at *
    generalize sb.w.alloc (.cells #[.slice p h.1.length q, .slice a9 2 c9, .slice (some ⟨gk, 0, none⟩) 1 1] 22) = wb at *
    clear hbb
    have hne4 := HW.some wb
    refine wpM_only (i := 17) (by kernel_rfl) ?_
    refine mOp_call rfl (by go_simp) 70 _ #[.slice (some ⟨gb, 0, none⟩) 3 3] (fun w => by go_simp) rfl ?_
    rintro _ ⟨sc, rfl⟩
    refine (l6Blocks_c (hpB h) (some ⟨gb, 0, none⟩) 3 _ (r3.keep sc.h) (by have := HLen.out; unfold hpL at this; omega)).mono ?_
    rintro e wc ⟨uc, rfl, kc, hbx⟩
    obtain ⟨ac, cc, rfl, -⟩ := kc.rd
    refine ⟨_, rfl, ⟨⟨_, hbx⟩, rfl⟩, ?_⟩
    have hbd := Below.step sc.h hbx
    replace kc := kc.lower (show w.heap.size + 1 ≤ sc.w.heap.size from Nat.le_trans (show w.heap.size + 1 ≤ wb.heap.size from R.lt) sc.h.size)
    replace R := R.stay hbd
    replace BV := Below.step BV hbd
    clear hbd hbx
    refine wpM_end (by kernel_rfl) rfl (by kernel_rfl) (by decide) ?_
    rintro _ ⟨sz, rfl⟩
    simp only [List.drop_succ_cons, List.drop_zero]
    replace R := R.stay sz.h
    replace kc := kc.stay sz.h
    replace BV := Below.step BV sz.h
    generalize sz.w = wz at *
    have t0 := (R.cell 0).trans (show _ = some _ from rfl)
    have t1 := (R.cell 1).trans (show _ = some _ from rfl)
    have ft := R.frozen
    go_wp2_with fail
    exact bodyPost_ret (v := .agg #[.int .i64 k, .slice ac (blksN (hpB h)).length cc]) (by simp [results, Try.results60, go_sem, t0, t1]) rfl ⟨_, rfl, ((kc.set (Nat.lt_succ_self _) _).set (Nat.lt_succ_self _) _).lower (Nat.le_succ _), (BV.setCell (Nat.le_refl _) _).setCell (Nat.le_refl _) _⟩
end Go.Proofs.Ytiabacnmmojfjaa

/- The contract of bytes.Clone: a copy in a row of its own. What was there stays. -/
namespace Go.Proofs.Ytiabacnmmojfjaa
open Go.ChangeShapes Go.WideShapes Go.ChangeAt Go.RowKit

set_option maxRecDepth 4000 in
set_option maxHeartbeats 1000000 in
theorem bytesClone_c (p : Option Addr) (q : Nat) (bs : List UInt8) (w : World) (hr : Rd w p q bs) (hl : bs.length ≤ 1000000) :
    Calls Try.prog 78 #[.slice p bs.length q] w fun e w' => ∃ u, e = .returned u ∧ Own w' w.heap.size u bs ∧ Below w.heap.size w w' := by
  cases p with
  | none =>
    have hq := hr.2.2.1 rfl
    have hb : bs = [] := List.eq_nil_of_length_eq_zero (by have := hr.1; omega)
    subst hb hq
    have hnil : ∀ w, (Go.binOp .eql 22 (.slice none 0 0) (.slice none 0 0)).run Try.prog w = .ok (.bool true) w := by intro w; kernel_rfl
    go_enter Try.func78, Try.ntmps78
    go_wp2
    go_ret
    exact ⟨_, rfl, Own_nil _ _, Below.refl _ _⟩
  | some ad =>
    have hnil : ∀ w, (Go.binOp .eql 22 (.slice (some ad) bs.length q) (.slice none 0 0)).run Try.prog w = .ok (.bool false) w := by intro w; kernel_rfl
    have hr2 := hr.keep (alloc_below w (Obj.cells #[] 5))
    have ho := none_own8 w w.heap.size (Nat.le_refl _)
    go_enter Try.func78, Try.ntmps78
    go_wp2_with (at_builtin; refine wpList_append_rd rfl (.tmp 5) (.tmp 6) rfl w.heap.size _ [] rfl ho (some ad) q bs rfl hr2 (by simp; omega) (by simp) ?_; intro v' w' ho' hg')
    have RB := (alloc_below w (Obj.cells #[] 5)).grown hg' (by simp) (fun k hk => ho.ge k hk)
    go_ret
    exact ⟨_, rfl, ho', RB⟩
end Go.Proofs.Ytiabacnmmojfjaa

/- The contracts of what reads messages in the specification: l6Unpack, UnpackMsgs (code, place, messages, each of which owns its memory), SameMsgs. What was there stays. -/
namespace Go.Proofs.Ytiabacnmmojfjaa
open Go.ChangeShapes Go.WideShapes Go.ChangeAt Go.RowKit
theorem none_ownM (w : World) (B : Nat) (h : B ≤ w.heap.size) : OwnL 67 msgC (w.alloc (.cells #[] 67)) B (.slice (some ⟨w.heap.size, 0, none⟩) 0 0) [] [] [] :=
  ⟨World.ownsRow_lit (base := B) (e := 67) (size := 2) w #[] 0 h (by unfold maxLen; decide) (by simp), ⟨rfl, rfl⟩, by simp [Value.ownBlock]⟩
theorem nil_ownM (w : World) (B : Nat) : OwnL 67 msgC w B (.slice none 0 0) [] [] [] := ⟨World.ownsRow_nil _ _ _ _, ⟨rfl, rfl⟩, by simp [Value.ownBlock]⟩


theorem packAll_bulk : ∀ (l : List MsgD), bulkM l ≤ (packAll l).length
  | [] => by simp [bulkM]
  | a :: l => by
    have h := packAll_bulk l
    rw [packAll_cons, List.length_append, packW_len]
    simp only [bulkM, List.map_cons, List.sum_cons, List.length_cons] at h ⊢
    omega

def sameM (a b : List MsgD) : Bool := decide (a = b)
theorem sameM_at {a b : List MsgD} {k : Nat} {x y : MsgD} (hx : a[k]? = some x) (hy : b[k]? = some y) (h : x ≠ y) : sameM a b = false := by
  simp only [sameM, decide_eq_false_iff_not]
  intro e
  subst e
  rw [hx] at hy
  cases hy
  exact h rfl
end Go.Proofs.Ytiabacnmmojfjaa

