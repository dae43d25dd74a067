/- The text of an event: what it is (etD), and EventText of the specification (written by tools/ev_s.py). What was there stays. -/
import Derived.Test.YtgjmhlolbjmibaaDoorDecS
import Derived.Test.YtgjmhlolbjmibaaDoorEventC
import Derived.Test.YtgjmhlolbjmibaaDoorWords
import Derived.Test.YtgjmhlolbjmibaaDoorStoreR
namespace Go.Proofs.YtgjmhlolbjmibaaDoor
open Go.ChangeShapes Go.WideShapes Go.ChangeAt Go.RowKit

def kindT (k : Int) : List UInt8 := if k = 1 then [99, 114, 101, 97, 116, 101] else if k = 2 then [97, 99, 99, 101, 112, 116] else if k = 3 then [114, 101, 118, 111, 107, 101] else []
def roleE (r : Int) : Bool := decide (r = 1) || decide (r = 2)
def roleT (r : Int) : List UInt8 := if r = 1 then [99, 108, 105, 101, 110, 116] else [115, 101, 114, 118, 101, 114]
theorem roleT_len (r : Int) : (roleT r).length = 6 := by unfold roleT; split <;> rfl
theorem kindT_len (k : Int) : (kindT k).length ≤ 6 := by unfold kindT; split; decide; split; decide; split; decide; decide
/-- What is said of an event but for its context. -/
def etH (e : EventD) : List UInt8 := kindT e.1 ++ [32] ++ decL e.2.1.toNat ++ [32] ++ roleT e.2.2.1 ++ [32] ++ decL e.2.2.2.2.1.toNat ++ [32] ++ decL e.2.2.2.2.2.toNat
def etT (e : EventD) : List UInt8 := if e.2.2.2.1 = [] then etH e else etH e ++ [32] ++ hexL e.2.2.2.1
/-- What can be told. -/
def etOk (e : EventD) : Prop := inB e.1 1 3 = true ∧ roleE e.2.2.1 = true ∧ inB e.2.1 0 3 = true ∧ inB e.2.2.2.2.1 1 99 = true ∧ inB e.2.2.2.2.2 0 9 = true ∧ e.2.2.2.1.length ≤ 20
open Classical in
noncomputable def etC (e : EventD) : Int := if etOk e then 0 else 3
open Classical in
noncomputable def etX (e : EventD) : List UInt8 := if etOk e then etT e else []
theorem etC_yes {e : EventD} (h : etOk e) : etC e = 0 := if_pos h
theorem etC_no {e : EventD} (h : ¬ etOk e) : etC e = 3 := if_neg h
theorem etX_yes {e : EventD} (h : etOk e) : etX e = etT e := if_pos h
theorem etX_no {e : EventD} (h : ¬ etOk e) : etX e = [] := if_neg h
theorem roleE_iff {r : Int} : roleE r = true ↔ r = 1 ∨ r = 2 := by simp [roleE]
theorem inB_of {v lo hi : Int} (h : inB v lo hi = true) : lo ≤ v ∧ v ≤ hi := by simpa [inB] using h
theorem dec100 {v lo hi : Int} (h : inB v lo hi = true) (h0 : 0 ≤ lo) (h1 : hi < 100) : (v.toNat : Int) = v ∧ v.toNat < 100 := by have := inB_of h; omega
theorem decL_len2 {n : Nat} (h : n < 100) : (decL n).length ≤ 2 := decL_len 1 n h
theorem etH_len {e : EventD} (h : etOk e) : (etH e).length ≤ 30 := by
  obtain ⟨-, -, h3, h4, h5, -⟩ := h
  have a := decL_len2 (dec100 h3 (by decide) (by decide)).2
  have b := decL_len2 (dec100 h4 (by decide) (by decide)).2
  have c := decL_len2 (dec100 h5 (by decide) (by decide)).2
  have d := kindT_len e.1
  have f := roleT_len e.2.2.1
  unfold etH
  simp only [List.length_append, List.length_singleton]
  omega
/-- One text behind the other, with a blank. -/
theorem add_blank {P : Program} (x : List UInt8) (h : x.length ≤ 1000) (w : World) : (Op.stringOp .add (strB x) ⟨#[32]⟩).run P w = .ok (.string (strB (x ++ [32]))) w := run_add x [32] (by simp; omega) w

theorem l16Role_c (r : Int) (hr : roleE r = true) (w : World) : Calls Tryd.prog 36 #[.int .i64 r] w fun e w' => e = .returned (.string (strB (roleT r))) ∧ w' = w := by
  rcases roleE_iff.1 hr with rfl | rfl
  · go_enter Tryd.func36, Tryd.ntmps36
    go_wp2
    go_ret
    exact ⟨rfl, rfl⟩
  · go_enter Tryd.func36, Tryd.ntmps36
    go_wp2
    go_ret
    exact ⟨rfl, rfl⟩
theorem l16Role_b (r : Int) (hr : roleE r = true) (w : World) : Calls Tryd.prog 36 #[.int .i64 r] w fun e w' => e = .returned (.string (strB (roleT r))) ∧ Below w.heap.size w w' := (l16Role_c r hr w).mono fun _ _ h => ⟨h.1, by rw [h.2]; exact Below.refl _ _⟩

set_option maxRecDepth 4000 in
set_option maxHeartbeats 4000000 in
theorem l16Event_c (e : EventD) (g : Nat) (p : Option Addr) (q : Nat) (w : World) (he : etOk e) (A : Arr w g 29 [.int .i64 e.1, .int .i64 e.2.1, .int .i64 e.2.2.1, .slice p e.2.2.2.1.length q, .int .i64 e.2.2.2.2.1, .int .i64 e.2.2.2.2.2]) (hr : Rd w p q e.2.2.2.1) :
    Calls Tryd.prog 19 #[.pointer (some ⟨g, 0, none⟩)] w fun ee w' => ee = .returned (.string (strB (etT e))) ∧ Below w.heap.size w w' := by
  have hL := etH_len he
  obtain ⟨h1, h2, h3, h4, h5, h6⟩ := he
  obtain ⟨kd, li, ro, c, ce, by'⟩ := e
  simp only at A hr hL h1 h2 h3 h4 h5 h6
  obtain ⟨e1, l1⟩ := dec100 h3 (by decide) (by decide)
  obtain ⟨e2, l2⟩ := dec100 h4 (by decide) (by decide)
  obtain ⟨e3, l3⟩ := dec100 h5 (by decide) (by decide)
  have hT : etT (kd, li, ro, c, ce, by') = if c = [] then etH (kd, li, ro, c, ce, by') else etH (kd, li, ro, c, ce, by') ++ [32] ++ hexL c := rfl
  have hH : etH (kd, li, ro, c, ce, by') = kindT kd ++ [32] ++ decL li.toNat ++ [32] ++ roleT ro ++ [32] ++ decL ce.toNat ++ [32] ++ decL by'.toNat := rfl
  generalize etT (kd, li, ro, c, ce, by') = T at *
  generalize etH (kd, li, ro, c, ce, by') = H at *
  generalize li.toNat = n1 at *
  generalize ce.toNat = n2 at *
  generalize by'.toNat = n3 at *
  subst e1 e2 e3
  clear h3 h4 h5
  have y1 := decL_len2 l1
  have y2 := decL_len2 l2
  have y3 := decL_len2 l3
  have y4 := kindT_len kd
  have y5 := roleT_len ro
  have HC : Hid (c.length ≤ 20) := h6
  have HRo : Hid (roleE ro = true) := h2
  have Hn1 : Hid (n1 < 100) := l1
  have Hn2 : Hid (n2 < 100) := l2
  have Hn3 : Hid (n3 < 100) := l3
  have HR : Hid (Rd w p q c) := hr
  have kb := inB_of h1
  obtain ⟨kn, kcell, rfl⟩ : ∃ kn : Nat, (([.string ⟨#[]⟩, .string ⟨#[99, 114, 101, 97, 116, 101]⟩, .string ⟨#[97, 99, 99, 101, 112, 116]⟩, .string ⟨#[114, 101, 118, 111, 107, 101]⟩] : List Value)[kn]? = some (.string (strB (kindT kd)))) ∧ kd = (kn : Int) := by
    rcases (show kd = 1 ∨ kd = 2 ∨ kd = 3 by omega) with rfl | rfl | rfl
    · exact ⟨1, rfl, rfl⟩
    · exact ⟨2, rfl, rfl⟩
    · exact ⟨3, rfl, rfl⟩
  have hk4 : (kn : Int) < 4 := by omega
  have a1 := fun w => add_blank (P := Tryd.prog) (kindT kn) (by omega) w
  have a2 := fun w => run_add (P := Tryd.prog) (kindT kn ++ [32]) (decL n1) (by simp; omega) w
  have a3 := fun w => add_blank (P := Tryd.prog) (kindT kn ++ [32] ++ decL n1) (by simp; omega) w
  have a4 := fun w => run_add (P := Tryd.prog) (kindT kn ++ [32] ++ decL n1 ++ [32]) (roleT ro) (by simp; omega) w
  have a5 := fun w => add_blank (P := Tryd.prog) (kindT kn ++ [32] ++ decL n1 ++ [32] ++ roleT ro) (by simp; omega) w
  have a6 := fun w => run_add (P := Tryd.prog) (kindT kn ++ [32] ++ decL n1 ++ [32] ++ roleT ro ++ [32]) (decL n2) (by simp; omega) w
  have a7 := fun w => add_blank (P := Tryd.prog) (kindT kn ++ [32] ++ decL n1 ++ [32] ++ roleT ro ++ [32] ++ decL n2) (by simp; omega) w
  have a8 := fun w => run_add (P := Tryd.prog) (kindT kn ++ [32] ++ decL n1 ++ [32] ++ roleT ro ++ [32] ++ decL n2 ++ [32]) (decL n3) (by simp; omega) w
  rw [← hH] at a8
  have a9 := fun w => add_blank (P := Tryd.prog) H (by omega) w
  have hx := hexL_len c
  have a10 := fun w => run_add (P := Tryd.prog) (H ++ [32]) (hexL c) (by simp; omega) w
  clear hH y1 y2 y3 y4 y5 h1 h2 h6 kb hL hx hr l1 l2 l3
  generalize kindT kn ++ [32] ++ decL n1 ++ [32] ++ roleT ro ++ [32] ++ decL n2 ++ [32] = s7 at *
  generalize kindT kn ++ [32] ++ decL n1 ++ [32] ++ roleT ro ++ [32] ++ decL n2 = s6 at *
  generalize kindT kn ++ [32] ++ decL n1 ++ [32] ++ roleT ro ++ [32] = s5 at *
  generalize kindT kn ++ [32] ++ decL n1 ++ [32] ++ roleT ro = s4 at *
  generalize kindT kn ++ [32] ++ decL n1 ++ [32] = s3 at *
  generalize kindT kn ++ [32] ++ decL n1 = s2 at *
  generalize kindT kn ++ [32] = s1 at *
  generalize hs0 : kindT kn = s0 at *
  clear hs0
  have HA : Hid (Arr w g 29 [.int .i64 kn, .int .i64 n1, .int .i64 ro, .slice p c.length q, .int .i64 n2, .int .i64 n3]) := A
  have q0 := (A.cell 0).trans (show _ = some _ from rfl)
  have q1 := (A.cell 1).trans (show _ = some _ from rfl)
  have q2 := (A.cell 2).trans (show _ = some _ from rfl)
  have q4 := (A.cell 4).trans (show _ = some _ from rfl)
  have q5 := (A.cell 5).trans (show _ = some _ from rfl)
  clear A
  go_enter Tryd.func19, Tryd.ntmps19
  go_wp2_with fail
  apply share
  case h =>
    intro JN
    have BB := Below.refl w.heap.size w
    have hne := HW.some w
    have g0 := HW.at (q0)
    have g1 := HW.at (q1)
    have g2 := HW.at (q2)
    have g4 := HW.at (q4)
    have g5 := HW.at (q5)
    refine wp_region_pick [1, 2, 3, 4, 8, 9, 10, 11, 15, 16, 17, 18, 22, 23, 24, 25, 29, 30, 31, 32] 35 15 1 rfl rfl rfl (by kernel_rfl) (by kernel_rfl) (by kernel_rfl) (by kernel_rfl) ?_
    simp only [opsAt, List.getElem?_toArray, List.getElem?_cons_zero, List.getElem?_cons_succ]
    repeat (go_big_quiet_step (fail))
    refine wpQuiet_nil ?_
    clear g0 g1 g2 g4 g5
    refine wpM_two (i := 0) (j := 12) (by kernel_rfl) ?_ ?_
    · skip
      refine mOp_make rfl (by go_simp) ?_
      rintro _ ⟨sg, rfl⟩
      refine ⟨.slice (some ⟨sg.w.heap.size, 0, none⟩) 4 4, sg.w.alloc (.cells #[.string ⟨#[]⟩, .string ⟨#[99, 114, 101, 97, 116, 101]⟩, .string ⟨#[97, 99, 99, 101, 112, 116]⟩, .string ⟨#[114, 101, 118, 111, 107, 101]⟩] 9), by go_simp, ⟨⟨_, alloc_below _ _⟩, rfl⟩, ?_⟩
      have hbg := Below.step sg.h (alloc_below sg.w (.cells #[.string ⟨#[]⟩, .string ⟨#[99, 114, 101, 97, 116, 101]⟩, .string ⟨#[97, 99, 99, 101, 112, 116]⟩, .string ⟨#[114, 101, 118, 111, 107, 101]⟩] 9))
      have AB := Arr.new sg.w [.string ⟨#[]⟩, .string ⟨#[99, 114, 101, 97, 116, 101]⟩, .string ⟨#[97, 99, 99, 101, 112, 116]⟩, .string ⟨#[114, 101, 118, 111, 107, 101]⟩] 9
      replace BB := Below.step BB hbg
      clear hbg
      replace hne := HW.some (sg.w.alloc (.cells #[.string ⟨#[]⟩, .string ⟨#[99, 114, 101, 97, 116, 101]⟩, .string ⟨#[97, 99, 99, 101, 112, 116]⟩, .string ⟨#[114, 101, 118, 111, 107, 101]⟩] 9))
      generalize hW : (sg.w.alloc (.cells #[.string ⟨#[]⟩, .string ⟨#[99, 114, 101, 97, 116, 101]⟩, .string ⟨#[97, 99, 99, 101, 112, 116]⟩, .string ⟨#[114, 101, 118, 111, 107, 101]⟩] 9)) = wg1 at *
      clear hW
      generalize sg.w.heap.size = gb at *
      clear sg
      have gk := HW.at ((AB.cell kn).trans kcell)
      refine wpM_more [5, 6, 7] 14 11 rfl (by kernel_rfl) (by kernel_rfl) (by kernel_rfl) (by kernel_rfl) ?_
      simp only [opsAt, List.getElem?_toArray, List.getElem?_cons_zero, List.getElem?_cons_succ]
      go_simp
      repeat (go_big_quiet_step (fail))
      refine wpQuiet_nil ?_
      clear gk
      refine wpM_only (i := 12) (by kernel_rfl) ?_
      refine mOp_call rfl (by go_simp) 35 _ #[.int .i64 (n1 : Int)] (fun w => by go_simp) rfl ?_
      rintro _ ⟨sg, rfl⟩
      refine (l1Digits_c 1 n1 _ (by have := Hn1.out; omega) (by decide)).mono ?_
      rintro e wg2 ⟨rfl, hbx⟩
      have hbg := Below.step sg.h hbx
      refine ⟨_, rfl, ⟨⟨wg2, hbx⟩, rfl⟩, ?_⟩
      replace AB := AB.stay hbg
      replace BB := Below.step BB hbg
      clear hbg hbx sg
      replace hne := HW.some wg2
      refine wpM_more [13, 14] 10 8 rfl (by kernel_rfl) (by kernel_rfl) (by kernel_rfl) (by kernel_rfl) ?_
      simp only [opsAt, List.getElem?_toArray, List.getElem?_cons_zero, List.getElem?_cons_succ]
      go_simp
      repeat (go_big_quiet_step (fail))
      refine wpQuiet_nil ?_
      refine wpM_only (i := 19) (by kernel_rfl) ?_
      refine mOp_call rfl (by go_simp) 36 _ #[.int .i64 ro] (fun w => by go_simp) rfl ?_
      rintro _ ⟨sg, rfl⟩
      refine (l16Role_b ro HRo.out _).mono ?_
      rintro e wg3 ⟨rfl, hbx⟩
      have hbg := Below.step sg.h hbx
      refine ⟨_, rfl, ⟨⟨wg3, hbx⟩, rfl⟩, ?_⟩
      replace AB := AB.stay hbg
      replace BB := Below.step BB hbg
      clear hbg hbx sg
      replace hne := HW.some wg3
      refine wpM_more [20, 21] 7 5 rfl (by kernel_rfl) (by kernel_rfl) (by kernel_rfl) (by kernel_rfl) ?_
      simp only [opsAt, List.getElem?_toArray, List.getElem?_cons_zero, List.getElem?_cons_succ]
      go_simp
      repeat (go_big_quiet_step (fail))
      refine wpQuiet_nil ?_
      refine wpM_only (i := 26) (by kernel_rfl) ?_
      refine mOp_call rfl (by go_simp) 35 _ #[.int .i64 (n2 : Int)] (fun w => by go_simp) rfl ?_
      rintro _ ⟨sg, rfl⟩
      refine (l1Digits_c 1 n2 _ (by have := Hn2.out; omega) (by decide)).mono ?_
      rintro e wg4 ⟨rfl, hbx⟩
      have hbg := Below.step sg.h hbx
      refine ⟨_, rfl, ⟨⟨wg4, hbx⟩, rfl⟩, ?_⟩
      replace AB := AB.stay hbg
      replace BB := Below.step BB hbg
      clear hbg hbx sg
      replace hne := HW.some wg4
      refine wpM_more [27, 28] 4 2 rfl (by kernel_rfl) (by kernel_rfl) (by kernel_rfl) (by kernel_rfl) ?_
      simp only [opsAt, List.getElem?_toArray, List.getElem?_cons_zero, List.getElem?_cons_succ]
      go_simp
      repeat (go_big_quiet_step (fail))
      refine wpQuiet_nil ?_
      refine wpM_only (i := 33) (by kernel_rfl) ?_
      refine mOp_call rfl (by go_simp) 35 _ #[.int .i64 (n3 : Int)] (fun w => by go_simp) rfl ?_
      rintro _ ⟨sg, rfl⟩
      refine (l1Digits_c 1 n3 _ (by have := Hn3.out; omega) (by decide)).mono ?_
      rintro e wg5 ⟨rfl, hbx⟩
      have hbg := Below.step sg.h hbx
      refine ⟨_, rfl, ⟨⟨wg5, hbx⟩, rfl⟩, ?_⟩
      replace AB := AB.stay hbg
      replace BB := Below.step BB hbg
      clear hbg hbx sg
      replace hne := HW.some wg5
      refine wpM_more [34] 1 0 rfl (by kernel_rfl) (by kernel_rfl) (by kernel_rfl) (by kernel_rfl) ?_
      simp only [opsAt, List.getElem?_toArray, List.getElem?_cons_zero, List.getElem?_cons_succ]
      go_simp
      repeat (go_big_quiet_step (fail))
      refine wpQuiet_nil ?_
      refine wpM_end (by kernel_rfl) rfl (by kernel_rfl) (by decide) ?_
      rintro _ ⟨sz, rfl⟩
      simp only [List.drop_succ_cons, List.drop_zero]
      go_simp
      replace AB := AB.stay sz.h
      replace BB := Below.step BB sz.h
      clear hne
      generalize sz.w = W at *
      clear sz
      revert AB
      revert BB
      revert gb
      revert W
      exact JN.out
    · skip
      refine mOp_call rfl (by go_simp) 35 _ #[.int .i64 (n1 : Int)] (fun w => by go_simp) rfl ?_
      rintro _ ⟨sg, rfl⟩
      refine (l1Digits_c 1 n1 _ (by have := Hn1.out; omega) (by decide)).mono ?_
      rintro e wg6 ⟨rfl, hbx⟩
      have hbg := Below.step sg.h hbx
      refine ⟨_, rfl, ⟨⟨wg6, hbx⟩, rfl⟩, ?_⟩
      replace BB := Below.step BB hbg
      clear hbg hbx sg
      replace hne := HW.some wg6
      refine wpM_two (i := 0) (j := 19) (by kernel_rfl) ?_ ?_
      · skip
        refine mOp_make rfl (by go_simp) ?_
        rintro _ ⟨sg, rfl⟩
        refine ⟨.slice (some ⟨sg.w.heap.size, 0, none⟩) 4 4, sg.w.alloc (.cells #[.string ⟨#[]⟩, .string ⟨#[99, 114, 101, 97, 116, 101]⟩, .string ⟨#[97, 99, 99, 101, 112, 116]⟩, .string ⟨#[114, 101, 118, 111, 107, 101]⟩] 9), by go_simp, ⟨⟨_, alloc_below _ _⟩, rfl⟩, ?_⟩
        have hbg := Below.step sg.h (alloc_below sg.w (.cells #[.string ⟨#[]⟩, .string ⟨#[99, 114, 101, 97, 116, 101]⟩, .string ⟨#[97, 99, 99, 101, 112, 116]⟩, .string ⟨#[114, 101, 118, 111, 107, 101]⟩] 9))
        have AB := Arr.new sg.w [.string ⟨#[]⟩, .string ⟨#[99, 114, 101, 97, 116, 101]⟩, .string ⟨#[97, 99, 99, 101, 112, 116]⟩, .string ⟨#[114, 101, 118, 111, 107, 101]⟩] 9
        replace BB := Below.step BB hbg
        clear hbg
        replace hne := HW.some (sg.w.alloc (.cells #[.string ⟨#[]⟩, .string ⟨#[99, 114, 101, 97, 116, 101]⟩, .string ⟨#[97, 99, 99, 101, 112, 116]⟩, .string ⟨#[114, 101, 118, 111, 107, 101]⟩] 9))
        generalize hW : (sg.w.alloc (.cells #[.string ⟨#[]⟩, .string ⟨#[99, 114, 101, 97, 116, 101]⟩, .string ⟨#[97, 99, 99, 101, 112, 116]⟩, .string ⟨#[114, 101, 118, 111, 107, 101]⟩] 9)) = wg7 at *
        clear hW
        generalize sg.w.heap.size = gb at *
        clear sg
        have gk := HW.at ((AB.cell kn).trans kcell)
        refine wpM_more [5, 6, 7] 13 10 rfl (by kernel_rfl) (by kernel_rfl) (by kernel_rfl) (by kernel_rfl) ?_
        simp only [opsAt, List.getElem?_toArray, List.getElem?_cons_zero, List.getElem?_cons_succ]
        go_simp
        repeat (go_big_quiet_step (fail))
        refine wpQuiet_nil ?_
        clear gk
        refine wpM_more [13, 14] 10 8 rfl (by kernel_rfl) (by kernel_rfl) (by kernel_rfl) (by kernel_rfl) ?_
        simp only [opsAt, List.getElem?_toArray, List.getElem?_cons_zero, List.getElem?_cons_succ]
        go_simp
        repeat (go_big_quiet_step (fail))
        refine wpQuiet_nil ?_
        refine wpM_only (i := 19) (by kernel_rfl) ?_
        refine mOp_call rfl (by go_simp) 36 _ #[.int .i64 ro] (fun w => by go_simp) rfl ?_
        rintro _ ⟨sg, rfl⟩
        refine (l16Role_b ro HRo.out _).mono ?_
        rintro e wg8 ⟨rfl, hbx⟩
        have hbg := Below.step sg.h hbx
        refine ⟨_, rfl, ⟨⟨wg8, hbx⟩, rfl⟩, ?_⟩
        replace AB := AB.stay hbg
        replace BB := Below.step BB hbg
        clear hbg hbx sg
        replace hne := HW.some wg8
        refine wpM_more [20, 21] 7 5 rfl (by kernel_rfl) (by kernel_rfl) (by kernel_rfl) (by kernel_rfl) ?_
        simp only [opsAt, List.getElem?_toArray, List.getElem?_cons_zero, List.getElem?_cons_succ]
        go_simp
        repeat (go_big_quiet_step (fail))
        refine wpQuiet_nil ?_
        refine wpM_only (i := 26) (by kernel_rfl) ?_
        refine mOp_call rfl (by go_simp) 35 _ #[.int .i64 (n2 : Int)] (fun w => by go_simp) rfl ?_
        rintro _ ⟨sg, rfl⟩
        refine (l1Digits_c 1 n2 _ (by have := Hn2.out; omega) (by decide)).mono ?_
        rintro e wg9 ⟨rfl, hbx⟩
        have hbg := Below.step sg.h hbx
        refine ⟨_, rfl, ⟨⟨wg9, hbx⟩, rfl⟩, ?_⟩
        replace AB := AB.stay hbg
        replace BB := Below.step BB hbg
        clear hbg hbx sg
        replace hne := HW.some wg9
        refine wpM_more [27, 28] 4 2 rfl (by kernel_rfl) (by kernel_rfl) (by kernel_rfl) (by kernel_rfl) ?_
        simp only [opsAt, List.getElem?_toArray, List.getElem?_cons_zero, List.getElem?_cons_succ]
        go_simp
        repeat (go_big_quiet_step (fail))
        refine wpQuiet_nil ?_
        refine wpM_only (i := 33) (by kernel_rfl) ?_
        refine mOp_call rfl (by go_simp) 35 _ #[.int .i64 (n3 : Int)] (fun w => by go_simp) rfl ?_
        rintro _ ⟨sg, rfl⟩
        refine (l1Digits_c 1 n3 _ (by have := Hn3.out; omega) (by decide)).mono ?_
        rintro e wg10 ⟨rfl, hbx⟩
        have hbg := Below.step sg.h hbx
        refine ⟨_, rfl, ⟨⟨wg10, hbx⟩, rfl⟩, ?_⟩
        replace AB := AB.stay hbg
        replace BB := Below.step BB hbg
        clear hbg hbx sg
        replace hne := HW.some wg10
        refine wpM_more [34] 1 0 rfl (by kernel_rfl) (by kernel_rfl) (by kernel_rfl) (by kernel_rfl) ?_
        simp only [opsAt, List.getElem?_toArray, List.getElem?_cons_zero, List.getElem?_cons_succ]
        go_simp
        repeat (go_big_quiet_step (fail))
        refine wpQuiet_nil ?_
        refine wpM_end (by kernel_rfl) rfl (by kernel_rfl) (by decide) ?_
        rintro _ ⟨sz, rfl⟩
        simp only [List.drop_succ_cons, List.drop_zero]
        go_simp
        replace AB := AB.stay sz.h
        replace BB := Below.step BB sz.h
        clear hne
        generalize sz.w = W at *
        clear sz
        revert AB
        revert BB
        revert gb
        revert W
        exact JN.out
      · skip
        refine mOp_call rfl (by go_simp) 36 _ #[.int .i64 ro] (fun w => by go_simp) rfl ?_
        rintro _ ⟨sg, rfl⟩
        refine (l16Role_b ro HRo.out _).mono ?_
        rintro e wg11 ⟨rfl, hbx⟩
        have hbg := Below.step sg.h hbx
        refine ⟨_, rfl, ⟨⟨wg11, hbx⟩, rfl⟩, ?_⟩
        replace BB := Below.step BB hbg
        clear hbg hbx sg
        replace hne := HW.some wg11
        refine wpM_two (i := 0) (j := 26) (by kernel_rfl) ?_ ?_
        · skip
          refine mOp_make rfl (by go_simp) ?_
          rintro _ ⟨sg, rfl⟩
          refine ⟨.slice (some ⟨sg.w.heap.size, 0, none⟩) 4 4, sg.w.alloc (.cells #[.string ⟨#[]⟩, .string ⟨#[99, 114, 101, 97, 116, 101]⟩, .string ⟨#[97, 99, 99, 101, 112, 116]⟩, .string ⟨#[114, 101, 118, 111, 107, 101]⟩] 9), by go_simp, ⟨⟨_, alloc_below _ _⟩, rfl⟩, ?_⟩
          have hbg := Below.step sg.h (alloc_below sg.w (.cells #[.string ⟨#[]⟩, .string ⟨#[99, 114, 101, 97, 116, 101]⟩, .string ⟨#[97, 99, 99, 101, 112, 116]⟩, .string ⟨#[114, 101, 118, 111, 107, 101]⟩] 9))
          have AB := Arr.new sg.w [.string ⟨#[]⟩, .string ⟨#[99, 114, 101, 97, 116, 101]⟩, .string ⟨#[97, 99, 99, 101, 112, 116]⟩, .string ⟨#[114, 101, 118, 111, 107, 101]⟩] 9
          replace BB := Below.step BB hbg
          clear hbg
          replace hne := HW.some (sg.w.alloc (.cells #[.string ⟨#[]⟩, .string ⟨#[99, 114, 101, 97, 116, 101]⟩, .string ⟨#[97, 99, 99, 101, 112, 116]⟩, .string ⟨#[114, 101, 118, 111, 107, 101]⟩] 9))
          generalize hW : (sg.w.alloc (.cells #[.string ⟨#[]⟩, .string ⟨#[99, 114, 101, 97, 116, 101]⟩, .string ⟨#[97, 99, 99, 101, 112, 116]⟩, .string ⟨#[114, 101, 118, 111, 107, 101]⟩] 9)) = wg12 at *
          clear hW
          generalize sg.w.heap.size = gb at *
          clear sg
          have gk := HW.at ((AB.cell kn).trans kcell)
          refine wpM_more [5, 6, 7] 12 9 rfl (by kernel_rfl) (by kernel_rfl) (by kernel_rfl) (by kernel_rfl) ?_
          simp only [opsAt, List.getElem?_toArray, List.getElem?_cons_zero, List.getElem?_cons_succ]
          go_simp
          repeat (go_big_quiet_step (fail))
          refine wpQuiet_nil ?_
          clear gk
          refine wpM_more [13, 14] 9 7 rfl (by kernel_rfl) (by kernel_rfl) (by kernel_rfl) (by kernel_rfl) ?_
          simp only [opsAt, List.getElem?_toArray, List.getElem?_cons_zero, List.getElem?_cons_succ]
          go_simp
          repeat (go_big_quiet_step (fail))
          refine wpQuiet_nil ?_
          refine wpM_more [20, 21] 7 5 rfl (by kernel_rfl) (by kernel_rfl) (by kernel_rfl) (by kernel_rfl) ?_
          simp only [opsAt, List.getElem?_toArray, List.getElem?_cons_zero, List.getElem?_cons_succ]
          go_simp
          repeat (go_big_quiet_step (fail))
          refine wpQuiet_nil ?_
          refine wpM_only (i := 26) (by kernel_rfl) ?_
          refine mOp_call rfl (by go_simp) 35 _ #[.int .i64 (n2 : Int)] (fun w => by go_simp) rfl ?_
          rintro _ ⟨sg, rfl⟩
          refine (l1Digits_c 1 n2 _ (by have := Hn2.out; omega) (by decide)).mono ?_
          rintro e wg13 ⟨rfl, hbx⟩
          have hbg := Below.step sg.h hbx
          refine ⟨_, rfl, ⟨⟨wg13, hbx⟩, rfl⟩, ?_⟩
          replace AB := AB.stay hbg
          replace BB := Below.step BB hbg
          clear hbg hbx sg
          replace hne := HW.some wg13
          refine wpM_more [27, 28] 4 2 rfl (by kernel_rfl) (by kernel_rfl) (by kernel_rfl) (by kernel_rfl) ?_
          simp only [opsAt, List.getElem?_toArray, List.getElem?_cons_zero, List.getElem?_cons_succ]
          go_simp
          repeat (go_big_quiet_step (fail))
          refine wpQuiet_nil ?_
          refine wpM_only (i := 33) (by kernel_rfl) ?_
          refine mOp_call rfl (by go_simp) 35 _ #[.int .i64 (n3 : Int)] (fun w => by go_simp) rfl ?_
          rintro _ ⟨sg, rfl⟩
          refine (l1Digits_c 1 n3 _ (by have := Hn3.out; omega) (by decide)).mono ?_
          rintro e wg14 ⟨rfl, hbx⟩
          have hbg := Below.step sg.h hbx
          refine ⟨_, rfl, ⟨⟨wg14, hbx⟩, rfl⟩, ?_⟩
          replace AB := AB.stay hbg
          replace BB := Below.step BB hbg
          clear hbg hbx sg
          replace hne := HW.some wg14
          refine wpM_more [34] 1 0 rfl (by kernel_rfl) (by kernel_rfl) (by kernel_rfl) (by kernel_rfl) ?_
          simp only [opsAt, List.getElem?_toArray, List.getElem?_cons_zero, List.getElem?_cons_succ]
          go_simp
          repeat (go_big_quiet_step (fail))
          refine wpQuiet_nil ?_
          refine wpM_end (by kernel_rfl) rfl (by kernel_rfl) (by decide) ?_
          rintro _ ⟨sz, rfl⟩
          simp only [List.drop_succ_cons, List.drop_zero]
          go_simp
          replace AB := AB.stay sz.h
          replace BB := Below.step BB sz.h
          clear hne
          generalize sz.w = W at *
          clear sz
          revert AB
          revert BB
          revert gb
          revert W
          exact JN.out
        · skip
          refine mOp_call rfl (by go_simp) 35 _ #[.int .i64 (n2 : Int)] (fun w => by go_simp) rfl ?_
          rintro _ ⟨sg, rfl⟩
          refine (l1Digits_c 1 n2 _ (by have := Hn2.out; omega) (by decide)).mono ?_
          rintro e wg15 ⟨rfl, hbx⟩
          have hbg := Below.step sg.h hbx
          refine ⟨_, rfl, ⟨⟨wg15, hbx⟩, rfl⟩, ?_⟩
          replace BB := Below.step BB hbg
          clear hbg hbx sg
          replace hne := HW.some wg15
          refine wpM_two (i := 0) (j := 33) (by kernel_rfl) ?_ ?_
          · skip
            refine mOp_make rfl (by go_simp) ?_
            rintro _ ⟨sg, rfl⟩
            refine ⟨.slice (some ⟨sg.w.heap.size, 0, none⟩) 4 4, sg.w.alloc (.cells #[.string ⟨#[]⟩, .string ⟨#[99, 114, 101, 97, 116, 101]⟩, .string ⟨#[97, 99, 99, 101, 112, 116]⟩, .string ⟨#[114, 101, 118, 111, 107, 101]⟩] 9), by go_simp, ⟨⟨_, alloc_below _ _⟩, rfl⟩, ?_⟩
            have hbg := Below.step sg.h (alloc_below sg.w (.cells #[.string ⟨#[]⟩, .string ⟨#[99, 114, 101, 97, 116, 101]⟩, .string ⟨#[97, 99, 99, 101, 112, 116]⟩, .string ⟨#[114, 101, 118, 111, 107, 101]⟩] 9))
            have AB := Arr.new sg.w [.string ⟨#[]⟩, .string ⟨#[99, 114, 101, 97, 116, 101]⟩, .string ⟨#[97, 99, 99, 101, 112, 116]⟩, .string ⟨#[114, 101, 118, 111, 107, 101]⟩] 9
            replace BB := Below.step BB hbg
            clear hbg
            replace hne := HW.some (sg.w.alloc (.cells #[.string ⟨#[]⟩, .string ⟨#[99, 114, 101, 97, 116, 101]⟩, .string ⟨#[97, 99, 99, 101, 112, 116]⟩, .string ⟨#[114, 101, 118, 111, 107, 101]⟩] 9))
            generalize hW : (sg.w.alloc (.cells #[.string ⟨#[]⟩, .string ⟨#[99, 114, 101, 97, 116, 101]⟩, .string ⟨#[97, 99, 99, 101, 112, 116]⟩, .string ⟨#[114, 101, 118, 111, 107, 101]⟩] 9)) = wg16 at *
            clear hW
            generalize sg.w.heap.size = gb at *
            clear sg
            have gk := HW.at ((AB.cell kn).trans kcell)
            refine wpM_more [5, 6, 7] 11 8 rfl (by kernel_rfl) (by kernel_rfl) (by kernel_rfl) (by kernel_rfl) ?_
            simp only [opsAt, List.getElem?_toArray, List.getElem?_cons_zero, List.getElem?_cons_succ]
            go_simp
            repeat (go_big_quiet_step (fail))
            refine wpQuiet_nil ?_
            clear gk
            refine wpM_more [13, 14] 8 6 rfl (by kernel_rfl) (by kernel_rfl) (by kernel_rfl) (by kernel_rfl) ?_
            simp only [opsAt, List.getElem?_toArray, List.getElem?_cons_zero, List.getElem?_cons_succ]
            go_simp
            repeat (go_big_quiet_step (fail))
            refine wpQuiet_nil ?_
            refine wpM_more [20, 21] 6 4 rfl (by kernel_rfl) (by kernel_rfl) (by kernel_rfl) (by kernel_rfl) ?_
            simp only [opsAt, List.getElem?_toArray, List.getElem?_cons_zero, List.getElem?_cons_succ]
            go_simp
            repeat (go_big_quiet_step (fail))
            refine wpQuiet_nil ?_
            refine wpM_more [27, 28] 4 2 rfl (by kernel_rfl) (by kernel_rfl) (by kernel_rfl) (by kernel_rfl) ?_
            simp only [opsAt, List.getElem?_toArray, List.getElem?_cons_zero, List.getElem?_cons_succ]
            go_simp
            repeat (go_big_quiet_step (fail))
            refine wpQuiet_nil ?_
            refine wpM_only (i := 33) (by kernel_rfl) ?_
            refine mOp_call rfl (by go_simp) 35 _ #[.int .i64 (n3 : Int)] (fun w => by go_simp) rfl ?_
            rintro _ ⟨sg, rfl⟩
            refine (l1Digits_c 1 n3 _ (by have := Hn3.out; omega) (by decide)).mono ?_
            rintro e wg17 ⟨rfl, hbx⟩
            have hbg := Below.step sg.h hbx
            refine ⟨_, rfl, ⟨⟨wg17, hbx⟩, rfl⟩, ?_⟩
            replace AB := AB.stay hbg
            replace BB := Below.step BB hbg
            clear hbg hbx sg
            replace hne := HW.some wg17
            refine wpM_more [34] 1 0 rfl (by kernel_rfl) (by kernel_rfl) (by kernel_rfl) (by kernel_rfl) ?_
            simp only [opsAt, List.getElem?_toArray, List.getElem?_cons_zero, List.getElem?_cons_succ]
            go_simp
            repeat (go_big_quiet_step (fail))
            refine wpQuiet_nil ?_
            refine wpM_end (by kernel_rfl) rfl (by kernel_rfl) (by decide) ?_
            rintro _ ⟨sz, rfl⟩
            simp only [List.drop_succ_cons, List.drop_zero]
            go_simp
            replace AB := AB.stay sz.h
            replace BB := Below.step BB sz.h
            clear hne
            generalize sz.w = W at *
            clear sz
            revert AB
            revert BB
            revert gb
            revert W
            exact JN.out
          · skip
            refine mOp_call rfl (by go_simp) 35 _ #[.int .i64 (n3 : Int)] (fun w => by go_simp) rfl ?_
            rintro _ ⟨sg, rfl⟩
            refine (l1Digits_c 1 n3 _ (by have := Hn3.out; omega) (by decide)).mono ?_
            rintro e wg18 ⟨rfl, hbx⟩
            have hbg := Below.step sg.h hbx
            refine ⟨_, rfl, ⟨⟨wg18, hbx⟩, rfl⟩, ?_⟩
            replace BB := Below.step BB hbg
            clear hbg hbx sg
            replace hne := HW.some wg18
            refine wpM_only (i := 0) (by kernel_rfl) ?_
            refine mOp_make rfl (by go_simp) ?_
            rintro _ ⟨sg, rfl⟩
            refine ⟨.slice (some ⟨sg.w.heap.size, 0, none⟩) 4 4, sg.w.alloc (.cells #[.string ⟨#[]⟩, .string ⟨#[99, 114, 101, 97, 116, 101]⟩, .string ⟨#[97, 99, 99, 101, 112, 116]⟩, .string ⟨#[114, 101, 118, 111, 107, 101]⟩] 9), by go_simp, ⟨⟨_, alloc_below _ _⟩, rfl⟩, ?_⟩
            have hbg := Below.step sg.h (alloc_below sg.w (.cells #[.string ⟨#[]⟩, .string ⟨#[99, 114, 101, 97, 116, 101]⟩, .string ⟨#[97, 99, 99, 101, 112, 116]⟩, .string ⟨#[114, 101, 118, 111, 107, 101]⟩] 9))
            have AB := Arr.new sg.w [.string ⟨#[]⟩, .string ⟨#[99, 114, 101, 97, 116, 101]⟩, .string ⟨#[97, 99, 99, 101, 112, 116]⟩, .string ⟨#[114, 101, 118, 111, 107, 101]⟩] 9
            replace BB := Below.step BB hbg
            clear hbg
            replace hne := HW.some (sg.w.alloc (.cells #[.string ⟨#[]⟩, .string ⟨#[99, 114, 101, 97, 116, 101]⟩, .string ⟨#[97, 99, 99, 101, 112, 116]⟩, .string ⟨#[114, 101, 118, 111, 107, 101]⟩] 9))
            generalize hW : (sg.w.alloc (.cells #[.string ⟨#[]⟩, .string ⟨#[99, 114, 101, 97, 116, 101]⟩, .string ⟨#[97, 99, 99, 101, 112, 116]⟩, .string ⟨#[114, 101, 118, 111, 107, 101]⟩] 9)) = wg19 at *
            clear hW
            generalize sg.w.heap.size = gb at *
            clear sg
            have gk := HW.at ((AB.cell kn).trans kcell)
            refine wpM_more [5, 6, 7] 10 7 rfl (by kernel_rfl) (by kernel_rfl) (by kernel_rfl) (by kernel_rfl) ?_
            simp only [opsAt, List.getElem?_toArray, List.getElem?_cons_zero, List.getElem?_cons_succ]
            go_simp
            repeat (go_big_quiet_step (fail))
            refine wpQuiet_nil ?_
            clear gk
            refine wpM_more [13, 14] 7 5 rfl (by kernel_rfl) (by kernel_rfl) (by kernel_rfl) (by kernel_rfl) ?_
            simp only [opsAt, List.getElem?_toArray, List.getElem?_cons_zero, List.getElem?_cons_succ]
            go_simp
            repeat (go_big_quiet_step (fail))
            refine wpQuiet_nil ?_
            refine wpM_more [20, 21] 5 3 rfl (by kernel_rfl) (by kernel_rfl) (by kernel_rfl) (by kernel_rfl) ?_
            simp only [opsAt, List.getElem?_toArray, List.getElem?_cons_zero, List.getElem?_cons_succ]
            go_simp
            repeat (go_big_quiet_step (fail))
            refine wpQuiet_nil ?_
            refine wpM_more [27, 28] 3 1 rfl (by kernel_rfl) (by kernel_rfl) (by kernel_rfl) (by kernel_rfl) ?_
            simp only [opsAt, List.getElem?_toArray, List.getElem?_cons_zero, List.getElem?_cons_succ]
            go_simp
            repeat (go_big_quiet_step (fail))
            refine wpQuiet_nil ?_
            refine wpM_more [34] 1 0 rfl (by kernel_rfl) (by kernel_rfl) (by kernel_rfl) (by kernel_rfl) ?_
            simp only [opsAt, List.getElem?_toArray, List.getElem?_cons_zero, List.getElem?_cons_succ]
            go_simp
            repeat (go_big_quiet_step (fail))
            refine wpQuiet_nil ?_
            refine wpM_end (by kernel_rfl) rfl (by kernel_rfl) (by decide) ?_
            rintro _ ⟨sz, rfl⟩
            simp only [List.drop_succ_cons, List.drop_zero]
            go_simp
            replace AB := AB.stay sz.h
            replace BB := Below.step BB sz.h
            clear hne
            generalize sz.w = W at *
            clear sz
            revert AB
            revert BB
            revert gb
            revert W
            exact JN.out
  intro W gb BB AB
  clear AB
  have A := HA.out.stay BB
  have R := HR.out.keep BB
  have d3 := (A.cell 3).trans (show _ = some _ from rfl)
  have BW := BB
  clear q0 q1 q2 q4 q5 BB a1 a2 a3 a4 a5 a6 a7 a8 kcell hk4
  by_cases hc : c = []
  · have hz : Hid (T = H) := by show _ = _; rw [hT, if_pos hc]
    subst hc
    clear hT
    go_wp2
    go_ret
    exact ⟨by rw [hz.out]; rfl, BW⟩
  · have hz : Hid (H ++ [32] ++ hexL c = T) := by show _ = _; rw [hT, if_neg hc]
    have hp : (0 : Int) < (c.length : Int) := by have := List.length_pos_iff.2 hc; omega
    rw [hz.out] at a10
    clear hT hc
    go_wp2_with fail
    refine (l1Hex_c p q c _ R (by have := HC.out; omega)).mono ?_
    rintro ee w2 ⟨rfl, hb⟩
    replace BW := Below.step BW hb
    clear hb d3
    go_wp2
    go_ret
    exact ⟨rfl, BW⟩

end Go.Proofs.YtgjmhlolbjmibaaDoor
